/- What the proofs of ExpandMore want, part 0. -/
import Derived.Test.YtchklpedlbkgaaaDoorRows
import Derived.WalkKit
import Derived.Lib.Hide
import Derived.Lib.Strings
import Derived.Lib.Builder
import Derived.BigQuiet
import Derived.Laws.Cover1
import Derived.SliceStrings
import Derived.SizedLaws
import Derived.OpenShut
import Derived.Deep.AppendLies
import Derived.StillTailTactics
import Derived.Deep.Fields
import Derived.Deep.RegionHeld3
set_option linter.unusedVariables false
set_option linter.unusedSimpArgs false
set_option linter.unusedSectionVars false
set_option maxRecDepth 100000
set_option maxHeartbeats 16000000
namespace Utf
section
def pt (p:Int):Bool:=decide (0<=p)&&decide (p<=1114111)&&(decide (p < 55296)||decide (57343 < p))
def byte (x:Int):UInt8:=UInt8.ofNat (x % 256).toNat
def bytes (p:Int):List UInt8:=
 if p < 128 then [byte p]
 else if p < 2048 then [byte (192+p / 64),byte (128+p % 64)]
 else if p < 65536 then [byte (224+p / 4096),byte (128+p / 64 % 64),byte (128+p % 64)]
 else [byte (240+p / 262144),byte (128+p / 4096 % 64),byte (128+p / 64 % 64),byte (128+p % 64)]
def lead (a:Nat):Nat×Int:=
 if 240<=a then (4,(a:Int) - 240) else if 224<=a then (3,(a:Int) - 224) else if 192<=a then (2,(a:Int) - 192) else (1,a)
def val (p:Int):List UInt8->Int
 | []=>p
 | b::r=>val (p * 64+b.toNat - 128) r
def first:List UInt8->Int×Nat
 | []=>(0,0)
 | a::r=>
  if (lead a.toNat).1<=r.length+1/\pt (val (lead a.toNat).2 (r.take ((lead a.toNat).1 - 1)))=true/\
   bytes (val (lead a.toNat).2 (r.take ((lead a.toNat).1 - 1)))=(a::r).take (lead a.toNat).1
  then (val (lead a.toNat).2 (r.take ((lead a.toNat).1 - 1)),(lead a.toNat).1) else (0,0)
def enc (ps:List Int):List UInt8:=ps.flatMap bytes
def step (l:List UInt8) (k:Nat):Nat:=if (first (l.drop k)).2=0 then 1 else (first (l.drop k)).2
end
end Utf
namespace Sem
section
def dig (c:UInt8):Bool:=decide (48<=c.toNat)&&decide (c.toNat<=57)
def digits (l:List UInt8):Bool:= !l.isEmpty&&l.all dig
def parts:List UInt8->List (List UInt8)
 | []=> [[]]
 | c::r=>if c=46 then []::parts r else match parts r with
  | []=> [[c]]
  | p::ps=>(c::p)::ps
def join:List (List UInt8)->List UInt8
 | []=> []
 | [p]=>p
 | p::q::ps=>p++46::join (q::ps)
structure Ver where
 maj:Int
 min:Int
 pat:Int
 pre:List UInt8
deriving DecidableEq
def dec (n:Nat):List UInt8:=if h:n < 10 then [UInt8.ofNat (48+n)] else dec (n / 10)++ [UInt8.ofNat (48+n % 10)]
termination_by n
def text (v:Ver):List UInt8:=dec v.maj.toNat++46::(dec v.min.toNat++46::(dec v.pat.toNat++if v.pre= [] then [] else 45::v.pre))
def put (t:Nat×Nat×Nat) (k x:Nat):Nat×Nat×Nat:=if k=0 then (x,t.2.1,t.2.2) else if k=1 then (t.1,x,t.2.2) else (t.1,t.2.1,x)
def get (t:Nat×Nat×Nat) (k:Nat):Nat:=if k=0 then t.1 else if k=1 then t.2.1 else t.2.2
def num (l:List UInt8):Nat:=l.foldl (fun a c=>10 * a+(c.toNat - 48)) 0
def partKey (p:List UInt8):List Int:=if digits p then [0,(num p:Int)] else 1::p.map fun c=>(c.toNat:Int)
def preKey (p:List UInt8):List (List Int):=if p= [] then [[2]] else [1]::(parts p).map partKey
def key (v:Ver):List (List Int):= [v.maj]:: [v.min]:: [v.pat]::preKey v.pre
end
end Sem
namespace Lex
section
def small (c:UInt8):Bool:=decide (97<=c.toNat)&&decide (c.toNat<=122)
def great (c:UInt8):Bool:=decide (65<=c.toNat)&&decide (c.toNat<=90)
def digit (c:UInt8):Bool:=decide (48<=c.toNat)&&decide (c.toNat<=57)
def nameB (c:UInt8):Bool:=small c||great c||digit c||c==95
def words:List (List UInt8):= [[109,111,100,117,108,101],[105,109,112,111,114,116],[112,105,110],[114,97,110,103,101],[116,121,112,101],[111,112,97,113,117,101],[108,101,116],[105,110],[101,120,112,111,114,116],[102,117,110],[105,102],[116,104,101,110],[101,108,115,101],[99,97,115,101],[111,102],[97,115],[110,101,119],[114,97,119],[116,114,117,101],[102,97,108,115,101]]
def isWord (s:List UInt8):Bool:=words.contains s
def isName (s:List UInt8):Bool:=match s with
 | []=>false
 | c::_=>decide (s.length<=24)&&small c&&s.all nameB&& !isWord s
def isUpper (s:List UInt8):Bool:=match s with
 | []=>false
 | c::_=>decide (s.length<=24)&&great c&&s.all nameB
structure Tok where
 kind:Int
 text:List UInt8
deriving DecidableEq
def one:List UInt8->Option (Int×Nat)
 | []=>none
 | c::r=>if c=34\/c.toNat < 32 then none else if c=92 then
  (match r with
  | []=>none
  | d::_=>if d=110 then some (10,2) else if d=116 then some (9,2) else if d=34 then some (34,2) else if d=92 then some (92,2) else none)
  else if (Utf.first (c::r)).2=0 then none else some (Utf.first (c::r))
def body:Nat->List UInt8->List Int×List UInt8
 | 0,l=>([],l)
 | f+1,l=>match one l with
  | none=>([],l)
  | some (p,n)=>(p::(body f (l.drop n)).1,(body f (l.drop n)).2)
end
end Lex
namespace Shp
section
structure Sh where
 kind:Int
 of_:List UInt8
 name:List UInt8
 names:List (List UInt8)
 parts:List Sh
mutual
def size:Sh->Nat
 | ⟨_,_,_,_,ps⟩=>1+sizes ps
def sizes:List Sh->Nat
 | []=>0
 | p::ps=>size p+sizes ps
end
mutual
def deep:Sh->Nat
 | ⟨_,_,_,_,ps⟩=>deeps ps+1
def deeps:List Sh->Nat
 | []=>0
 | p::ps=>max (deep p) (deeps ps)
end
theorem size_eq (t:Sh):size t=1+sizes t.parts:=by cases t; rfl
theorem Z0l (t:Sh):deep t=deeps t.parts+1:=by cases t; rfl
theorem Z2i (t:Sh):1<=size t:=by rw[size_eq]; omega
section
variable {l : List Sh} {p : Sh} (h : p ∈ l)
include l p h
theorem Z1l:size p<=sizes l:=by
 induction l with
 | nil=>cases h
 | cons a l ih=>
  rcases List.mem_cons.1 h with rfl | h
  {simp[sizes]}
  {have:=ih h; simp[sizes]; omega}
theorem Z0F:deep p<=deeps l:=by
 induction l with
 | nil=>cases h
 | cons a l ih=>
  rcases List.mem_cons.1 h with rfl | h
  {simp[deeps]; omega}
  {have:=ih h; simp[deeps]; omega}
end
theorem Sh.ind {P:Sh->Prop} (h: ∀t,(∀p∈t.parts,P p)->P t) (t:Sh):P t:=by
 have: ∀n t,size t<=n->P t:=by
  intro n;induction n with
  | zero=>intro t ht; have:=Z2i t; omega
  | succ n ih=>
   intro t ht;refine h t (fun p hp=>ih p ?_);have:=Z1l hp;rw[size_eq] at ht;omega
 exact this _ t (Nat.le_refl _)
theorem Z3G (l m:List Sh):sizes (l++m)=sizes l+sizes m:=by
 induction l with
 | nil=>simp[sizes]
 | cons a l ih=>simp[sizes,ih]; omega
theorem Z3H (l m:List Sh):deeps (l++m)=max (deeps l) (deeps m):=by
 induction l with
 | nil=>simp[deeps]
 | cons a l ih=>simp[deeps,ih,Nat.max_assoc]
theorem Z1m {α:Type} {l:List α} {i:Nat} (h:i < l.length):l.take (i+1)=l.take i++ [l[i]'h]:=by rw[List.take_succ_eq_append_getElem h]
section
variable {l : List Sh} {i : Nat} (h : i < l.length)
include l i h
theorem Z1L:sizes (l.take (i+1))=sizes (l.take i)+size (l[i]'h):=by rw[Z1m h,Z3G]; simp[sizes]
theorem Z37:deeps (l.take (i+1))=max (deeps (l.take i)) (deep (l[i]'h)):=by rw[Z1m h,Z3H]; simp[deeps]
end
theorem Z38 (l:List Sh) (i:Nat):sizes (l.take i)<=sizes l:=by
 have:=Z3G (l.take i) (l.drop i);rw[List.take_append_drop] at this;omega
theorem Z39 (l:List Sh) (i:Nat):deeps (l.take i)<=deeps l:=by
 have:=Z3H (l.take i) (l.drop i);rw[List.take_append_drop] at this;omega
theorem Z0L (l:List Sh):l.length<=sizes l:=by
 induction l with
 | nil=>simp
 | cons a l ih=>have:=Z2i a; simp[sizes]; omega
theorem Z1G (t:Sh):deep t<=size t:=by
 induction t using Sh.ind with
 | h t ih=>
  rw[Z0l,size_eq];have: ∀l:List Sh,(∀p∈l,deep p<=size p)->deeps l<=sizes l:=by
   intro l;induction l with
   | nil=>simp[deeps]
   | cons a l ihl=>
    intro h;have h1:=h a (by simp);have h2:=ihl (fun p hp=>h p (by simp[hp]));simp[deeps,sizes]; omega
  have:=this _ ih;omega
def sizeTo (m:Nat) (t:Sh):Nat:=min (size t) (m+1)
def noDup:List (List UInt8)->Bool
 | []=>true
 | x::l=> !l.contains x&&noDup l
def areNames (l:List (List UInt8)):Bool:=l.all Lex.isName&&noDup l
def plain (s:List UInt8):Bool:=s== [73,110,116]||s== [66,111,111,108]||s== [84,101,120,116]||s== [65,110,121]
def bare (t:Sh):Bool:=t.of_== []&&t.name== []
def fits (t:Sh):Bool:=
 if t.kind=9\/t.kind=10 then Lex.isUpper t.name&&(Lex.isName t.of_||(t.of_== []&&decide (t.kind=9)&& !plain t.name))&&decide (t.names.length=0)&&decide (t.parts.length=0)
 else if bare t=false then false
 else if t.kind=6\/t.kind=7 then areNames t.names&&decide (t.names.length=t.parts.length)
 else if 0 < t.names.length then false
 else if t.kind=8 then decide (1<=t.parts.length)
 else if t.kind=5 then decide (t.parts.length=1)
 else decide (1<=t.kind)&&decide (t.kind<=4)&&decide (t.parts.length=0)
mutual
def right:Sh->Bool
 | ⟨k,o,n,ns,ps⟩=>fits ⟨k,o,n,ns,ps⟩&&rights ps
def rights:List Sh->Bool
 | []=>true
 | p::ps=>right p&&rights ps
end
theorem Z1z (t:Sh):right t=(fits t&&rights t.parts):=by cases t; rfl
theorem Z1M (l:List Sh):rights l=l.all right:=by
 induction l with
 | nil=>rfl
 | cons a l ih=>simp[rights,ih]
def check (t:Sh):Int:=if 400 < size t then 3 else if 40 < deep t then 91 else if right t=false then 70 else 0
abbrev Fld:=List UInt8×Sh
def ins (x:Fld):List Fld->List Fld
 | []=> [x]
 | y::l=>if y.1 < x.1 then y::ins x l else x::y::l
def sortF (l:List Fld):List Fld:=l.foldl (fun a x=>ins x a) []
mutual
def sorted:Sh->Sh
 | ⟨k,o,n,ns,ps⟩=>if ns= [] then ⟨k,o,n,[],sorteds ps⟩ else ⟨k,o,n,(sortF (ns.zip (sorteds ps))).map Prod.fst,(sortF (ns.zip (sorteds ps))).map Prod.snd⟩
def sorteds:List Sh->List Sh
 | []=> []
 | p::ps=>sorted p::sorteds ps
end
theorem Z6Y (l:List Sh):sorteds l=l.map sorted:=by
 induction l with
 | nil=>rfl
 | cons a l ih=>simp[sorteds,ih]
theorem Z0d (t:Sh):sorted t=if t.names= [] then ⟨t.kind,t.of_,t.name,[],t.parts.map sorted⟩ else ⟨t.kind,t.of_,t.name,(sortF (t.names.zip (t.parts.map sorted))).map Prod.fst,(sortF (t.names.zip (t.parts.map sorted))).map Prod.snd⟩:=by
 cases t with
 | mk k o n ns ps=>rw[<-Z6Y]; rfl
mutual
def eqB:Sh->Sh->Bool
 | ⟨k,o,n,ns,ps⟩,⟨k',o',n',ns',ps'⟩=>k==k'&&o==o'&&n==n'&&ns==ns'&&eqs ps ps'
def eqs:List Sh->List Sh->Bool
 | [],[]=>true
 | p::ps,q::qs=>eqB p q&&eqs ps qs
 | [],_::_=>false
 | _::_,[]=>false
end
theorem Z9x (t u:Sh):eqB t u=(t.kind==u.kind&&t.of_==u.of_&&t.name==u.name&&t.names==u.names&&eqs t.parts u.parts):=by cases t; cases u; rfl
theorem Z4H {l:List Sh} (h: ∀p∈l,∀u,eqB p u=true ↔ p=u): ∀m,eqs l m=true ↔ l=m:=by
 induction l with
 | nil=>intro m; cases m <;> simp[eqs]
 | cons a l ih=>
  intro m;cases m with
  | nil=>simp[eqs]
  | cons b m=>simp[eqs,h a (by simp) b,ih (fun p hp=>h p (by simp[hp])) m]
theorem Z2U (t u:Sh):eqB t u=true ↔ t=u:=by
 induction t using Sh.ind generalizing u with
 | h t ih=>
  rw[Z9x];cases t; cases u;simp[Z4H ih,and_assoc]
theorem Z7W (l m:List Sh):eqs l m=true ↔ l=m:=Z4H (fun p _ u=>Z2U p u) m
theorem Z1n (t:Sh):eqB t t=true:=(Z2U t t).2 rfl
theorem Z5e {t u:Sh} (h:t≠u):eqB t u=false:=by
 cases e:eqB t u with
 | false=>rfl
 | true=>exact absurd ((Z2U t u).1 e) h
def same (t u:Sh):Bool:=decide (check t=0)&&decide (check u=0)&&eqB (sorted t) (sorted u)
def field (n t:List UInt8):List UInt8:=n++ [58,32]++t
def fields (ns ts:List (List UInt8)):List (List UInt8):=if ns= [] then ts else List.zipWith field ns ts
def named (t:Sh):List UInt8:=if t.of_= [] then t.name else t.of_++ [47]++t.name
def join (sep:List UInt8) (l:List (List UInt8)):List UInt8:=sep.intercalate l
def textOf (k:Int) (o n:List UInt8) (ns ts:List (List UInt8)):List UInt8:=
 if k=1 then [73,110,116] else if k=2 then [66,111,111,108] else if k=3 then [84,101,120,116] else if k=4 then [65,110,121]
 else if k=5 then [91]++ts.headD []++ [93]
 else if k=6 then [123]++join [44,32] (fields ns ts)++ [125]
 else if k=7 then [60]++join [32,124,32] (fields ns ts)++ [62]
 else if k=8 then [40]++join [44,32] ts.dropLast++ [41,32,45,62,32]++ts.getLastD []
 else if o= [] then n else o++ [47]++n
mutual
def text:Sh->List UInt8
 | ⟨k,o,n,ns,ps⟩=>textOf k o n ns (texts ps)
def texts:List Sh->List (List UInt8)
 | []=> []
 | p::ps=>text p::texts ps
end
mutual
def turned:Sh->Sh
 | ⟨k,o,n,ns,ps⟩=>if ns= [] then ⟨k,o,n,[],turneds ps⟩ else ⟨k,o,n,ns.reverse,(turneds ps).reverse⟩
def turneds:List Sh->List Sh
 | []=> []
 | p::ps=>turned p::turneds ps
end
theorem Z6Z (l:List Sh):turneds l=l.map turned:=by
 induction l with
 | nil=>rfl
 | cons a l ih=>simp[turneds,ih]
theorem Z16 (t:Sh):turned t=if t.names= [] then ⟨t.kind,t.of_,t.name,[],t.parts.map turned⟩ else ⟨t.kind,t.of_,t.name,t.names.reverse,(t.parts.map turned).reverse⟩:=by
 cases t with
 | mk k o n ns ps=>rw[<-Z6Z]; rfl
end
end Shp
namespace Go.Proofs.YtchklpedlbkgaaaDoor
section
open Go.RowKit
theorem Z0K {B:Nat} {a w:World} (h:Below B a w) (n:Nat):Below B a (w.drewN n):=⟨h.os,h.tape,h.output,h.size,h.block⟩
abbrev Y9 (f:FuncId) (a:Array Value) (w:World) (v:Value):Prop:=Calls Tryd.prog f a w fun e w'=>e= .returned v/\Below w.heap.size w w'
abbrev Ya:Array Value:=#[.int .i64 0,.string ⟨#[]⟩,.string ⟨#[]⟩,.int .i64 0,.slice none 0 0,.slice none 0 0,.slice none 0 0,.slice none 0 0,.int .i64 0]
abbrev Yb:Array Value:=#[.int .i64 0,.string ⟨#[]⟩,.string ⟨#[]⟩,.slice none 0 0,.slice none 0 0]
abbrev Yc:Array Value:=#[.int .i64 0,.int .i64 0]
abbrev Yd:Array Value:=#[.int .i64 0,.string ⟨#[]⟩,.int .i64 0]
theorem Y1 {P:Prop} (h:P):Hid P:=Lib.hid h
theorem Y2 {B:Nat} {w:World}:Below B w w:=Below.refl _ _
section
variable {k n : Int} (m : Int) (h : k = n)
include k n m h
theorem Y3 (e: (n==m)=false): (k==m)=false:=by rw[h]; exact e
theorem Y4 (e: (n==m)=true): (k==m)=true:=by rw[h]; exact e
theorem Y5 (e: (n !=m)=false): (k !=m)=false:=by rw[h]; exact e
theorem Y6 (e: (n !=m)=true): (k !=m)=true:=by rw[h]; exact e
end
theorem Z0G (l:List UInt8): (⟨l.toArray⟩:ByteArray).size=l.length:=by simp[ByteArray.size]
theorem Z2V {B:Nat} {w w':World} (h:Below B w w') (hB:w.heap.size<=B) (row:Option Nat):w.grownBy w' row:=
 ⟨h.os,h.tape,h.output,h.size,fun i hi _=>h.block i (Nat.lt_of_lt_of_le hi hB)⟩
theorem Z02 {w W w':World} (h:Below w.heap.size w W) (hb:Below W.heap.size W w'):Below w.heap.size w w':=h.trans (hb.mono h.size)
theorem Z0i {w W:World} (h:Below w.heap.size w W) (o:Obj):Below w.heap.size w (W.alloc o):=h.alloc h.size o
theorem Z00 (w:World) (o:Obj):Below w.heap.size w (w.alloc o):=(Below.refl _ _).alloc (Nat.le_refl _) _
theorem Z42: ∀(x y:List UInt8),Op.bytesLess x y=decide (x < y)
 | x,[]=>by simp[Op.bytesLess]
 | [],_::_=>by simp[Op.bytesLess]
 | a::x,b::y=>by
  rw[Op.bytesLess,Z42 x y,Bool.eq_iff_iff];simp[List.cons_lt_cons_iff]
def Strs (w:World) (B:Nat) (A:Option Addr) (ss:List ByteArray):Prop:=
 ss.length=0\/ ∃b off,A=some ⟨b,off,none⟩/\b < B/\ ∀i (h:i < ss.length),w.cell? ⟨b,off+i,none⟩=some (.string (ss[i]'h))
theorem Strs.keep {w w':World} {B B':Nat} {A:Option Addr} {ss:List ByteArray} (h:Strs w B A ss) (hb:Below B' w w') (hB:B<=B'):Strs w' B A ss:=by
 rcases h with h | ⟨b,off,hA,hlt,hc⟩
 {exact Or.inl h}
 {exact Or.inr ⟨b,off,hA,hlt,fun i hi=>(hb.cell (p:=⟨b,off+i,none⟩) (Nat.lt_of_lt_of_le hlt hB)).trans (hc i hi)⟩}
theorem Strs.more {w:World} {B B':Nat} {A:Option Addr} {ss:List ByteArray} (h:Strs w B A ss) (hB:B<=B'):Strs w B' A ss:=by
 rcases h with h | ⟨b,off,hA,hlt,hc⟩
 {exact Or.inl h}
 {exact Or.inr ⟨b,off,hA,Nat.lt_of_lt_of_le hlt hB,hc⟩}
theorem Strs.next {w w':World} {A:Option Addr} {ss:List ByteArray} (h:Strs w w.heap.size A ss) (hb:Below w.heap.size w w'):Strs w' w'.heap.size A ss:=
 (h.keep hb (Nat.le_refl _)).more hb.size
theorem Z1N {w:World} {b o:Nat} {v:Value} (h:w.cell? ⟨b,o,none⟩=some v):b < w.heap.size:=by
 rcases Nat.lt_or_ge b w.heap.size with h' | h'
 {exact h'}
 {simp[World.cell?,Array.getElem?_eq_none h'] at h}
theorem Z3v {w:World} {a:Addr} {ss:List ByteArray} {len:Nat} (hc: ∀i,i < ss.length->w.cell? (a.add i)=some (.string (ss.getD i ByteArray.empty))):Strs w w.heap.size (some a) (ss.take len):=by
 by_cases h0: (ss.take len).length=0
 {exact Or.inl h0}
 {have hpos:0 < ss.length:=by rw[List.length_take] at h0; omega
  obtain ⟨b,off,spot⟩:=a;have h1:=hc 0 hpos;have hspot:spot=none:=by simpa[Addr.add] using World.cell?_spot h1
  subst hspot;refine Or.inr ⟨b,off,rfl,Z1N (o:=off) (by simpa[Addr.add] using h1),fun i hi=> ?_⟩;rw[List.length_take] at hi;have hplain: (⟨b,off,none⟩:Addr).add i=⟨b,off+i,none⟩:=by unfold Addr.add; split <;> simp_all
  rw[<-hplain,hc i (by omega),List.getElem_take];simp[List.getD,List.getElem?_eq_getElem (show i < ss.length by omega)]}
def strs (l:List (List UInt8)):List ByteArray:=l.map fun p=>⟨p.toArray⟩
end
end Go.Proofs.YtchklpedlbkgaaaDoor
namespace Lex
end Lex
namespace Go.Proofs.YtchklpedlbkgaaaDoor
open Go.RowKit
theorem Z4I (s:ByteArray) (n:Nat) (h:n < s.size) (W:World): (Instr.index 9 (.string s) (.int .i64 (n:Int))).run Tryd.prog W= .ok (.int .u8 (s[n]'h).toNat) W:=by
 rw[run_index_string (P:=Tryd.prog) _ _ _ _ _ Tryd.underlying9,dif_pos ⟨by omega,by omega⟩];simp
theorem Z7X (c:UInt8): ((c.toNat:Int)==95)=(c==95):=by
 rw[Bool.eq_iff_iff,beq_iff_eq,beq_iff_eq];constructor
 {intro h; apply UInt8.toNat_inj.1; show c.toNat=95; omega}
 {rintro rfl; rfl}
end Go.Proofs.YtchklpedlbkgaaaDoor
namespace Go.Proofs.YtchklpedlbkgaaaDoor
open Go.RowKit Shp
theorem Z19 {k:IntKind} {a b:Int} (h:a=b):Ending.returned (.int k a)= .returned (.int k b):=by rw[h]
theorem Z0o {a b:Bool} (h:a=b):Ending.returned (.bool a)= .returned (.bool b):=by rw[h]
structure Ptr where
 A:Option Addr
 c:Nat
 P:Option Addr
 d:Nat
abbrev Y8 (t:Shp.Sh) (q:Ptr):Array Value:=#[.int .i64 t.kind,.string ⟨t.of_.toArray⟩,.string ⟨t.name.toArray⟩,.slice q.A t.names.length q.c,.slice q.P t.parts.length q.d]
def Sh5 (w:World) (g o:Nat) (t:Sh) (q:Ptr):Prop:=
 w.cell? ⟨g,o,none⟩=some (.int .i64 t.kind)/\w.cell? ⟨g,o+1,none⟩=some (.string ⟨t.of_.toArray⟩)/\w.cell? ⟨g,o+2,none⟩=some (.string ⟨t.name.toArray⟩)/\
 w.cell? ⟨g,o+3,none⟩=some (.slice q.A t.names.length q.c)/\w.cell? ⟨g,o+4,none⟩=some (.slice q.P t.parts.length q.d)
theorem Sh5.of {w w':World} {g o:Nat} {t:Sh} {q:Ptr} (h:Sh5 w g o t q) (hc: ∀k,w'.cell? ⟨g,k,none⟩=w.cell? ⟨g,k,none⟩):Sh5 w' g o t q:=by
 obtain ⟨h0,h1,h2,h3,h4⟩:=h;exact ⟨(hc _).trans h0,(hc _).trans h1,(hc _).trans h2,(hc _).trans h3,(hc _).trans h4⟩
theorem Sh5.keep {w w':World} {g o B:Nat} {t:Sh} {q:Ptr} (h:Sh5 w g o t q) (hg:g < B) (hb:Below B w w'):Sh5 w' g o t q:=
 h.of (fun k=>hb.cell (p:=⟨g,k,none⟩) hg)
structure Small (t:Sh) (q:Ptr):Prop where
 o:t.of_.length<=9223372036854775807
 n:t.name.length<=9223372036854775807
 ns: ∀x∈t.names,x.length<=9223372036854775807
 l:t.names.length<=9223372036854775807
 m:t.parts.length<=9223372036854775807
 c:t.names.length<=q.c
 d:t.parts.length<=q.d
 A0:q.A=none->q.c=0
 P0:q.P=none->q.d=0
inductive ShAt (w:World) (B:Nat):Ptr->Sh->Prop
 | mk (q:Ptr) (t:Sh) (g off:Nat) (qs:Nat->Ptr) (hs:Small t q) (hn:Strs w B q.A (strs t.names)) (hp:t.parts.length=0\/q.P=some ⟨g,off,none⟩/\g < B)
  (hc: ∀i (h:i < t.parts.length),Sh5 w g (off+i * 5) (t.parts[i]'h) (qs i)) (hr: ∀i (h:i < t.parts.length),ShAt w B (qs i) (t.parts[i]'h)):ShAt w B q t
theorem ShAt.small {w:World} {B:Nat} {q:Ptr} {t:Sh} (h:ShAt w B q t):Small t q:=by cases h; assumption
theorem ShAt.strs {w:World} {B:Nat} {q:Ptr} {t:Sh} (h:ShAt w B q t):Strs w B q.A (strs t.names):=by cases h; assumption
theorem ShAt.part {w:World} {B:Nat} {q:Ptr} {t:Sh} (h:ShAt w B q t):t.parts.length=0\/ ∃(g off:Nat) (qs:Nat->Ptr),q.P=some ⟨g,off,none⟩/\g < B/\(∀i (h:i < t.parts.length),Sh5 w g (off+i * 5) (t.parts[i]'h) (qs i))/\ ∀i (h:i < t.parts.length),ShAt w B (qs i) (t.parts[i]'h):=by
 cases h with
 | mk _ _ g off qs hs hn hp hc hr=>
  rcases hp with hp | ⟨hp,hg⟩
  {exact Or.inl hp}
  {exact Or.inr ⟨g,off,qs,hp,hg,hc,hr⟩}
theorem ShAt.of {w w':World} {B B':Nat} {q:Ptr} {t:Sh} (h:ShAt w B q t) (hB:B<=B') (hc: ∀g k,g < B->w'.cell? ⟨g,k,none⟩=w.cell? ⟨g,k,none⟩):ShAt w' B' q t:=by
 induction h with
 | mk q t g off qs hs hn hp hc' hr ih=>
  refine .mk q t g off qs hs ?_ ?_ ?_ ih
  {rcases hn with h | ⟨b,o,hA,hlt,hcc⟩
   {exact Or.inl h}
   {exact Or.inr ⟨b,o,hA,Nat.lt_of_lt_of_le hlt hB,fun i hi=>(hc b _ hlt).trans (hcc i hi)⟩}}
  {rcases hp with h | ⟨h,hg⟩
   {exact Or.inl h}
   {exact Or.inr ⟨h,Nat.lt_of_lt_of_le hg hB⟩}}
  {intro i hi;rcases hp with h | ⟨h,hg⟩
   {omega}
   {exact (hc' i hi).of (fun k=>hc g k hg)}}
theorem ShAt.keep {w w':World} {B B':Nat} {q:Ptr} {t:Sh} (h:ShAt w B q t) (hb:Below B' w w') (hB:B<=B'):ShAt w' B q t:=
 h.of (Nat.le_refl _) (fun g k hg=>hb.cell (p:=⟨g,k,none⟩) (Nat.lt_of_lt_of_le hg hB))
theorem ShAt.more {w:World} {B B':Nat} {q:Ptr} {t:Sh} (h:ShAt w B q t) (hB:B<=B'):ShAt w B' q t:=h.of hB (fun _ _ _=>rfl)
theorem ShAt.next {w w':World} {q:Ptr} {t:Sh} (h:ShAt w w.heap.size q t) (hb:Below w.heap.size w w'):ShAt w' w'.heap.size q t:=(h.keep hb (Nat.le_refl _)).more hb.size
def Box5 (w:World) (g:Nat) (t:Sh) (q:Ptr):Prop:=
 g < w.heap.size/\Sh5 w g 0 t q/\w.frozen? ⟨g,0,none⟩=false/\w.frozen? ⟨g,1,none⟩=false/\w.frozen? ⟨g,2,none⟩=false/\w.frozen? ⟨g,3,none⟩=false/\w.frozen? ⟨g,4,none⟩=false
theorem Box5.keep {W W':World} {g B:Nat} {t:Sh} {q:Ptr} (h:Box5 W g t q) (hg:g < B) (hb:Below B W W'):Box5 W' g t q:=by
 obtain ⟨h0,h1,f0,f1,f2,f3,f4⟩:=h;exact ⟨Nat.lt_of_lt_of_le h0 hb.size,h1.keep hg hb,(hb.frozen (p:=⟨g,0,none⟩) hg).trans f0,(hb.frozen (p:=⟨g,1,none⟩) hg).trans f1,(hb.frozen (p:=⟨g,2,none⟩) hg).trans f2,(hb.frozen (p:=⟨g,3,none⟩) hg).trans f3,(hb.frozen (p:=⟨g,4,none⟩) hg).trans f4⟩
theorem Box5.next {W W':World} {g:Nat} {t:Sh} {q:Ptr} (h:Box5 W g t q) (hb:Below W.heap.size W W'):Box5 W' g t q:=h.keep h.1 hb
theorem Z07 (w:World) (t:Sh) (q:Ptr):Box5 (w.alloc (.cells (Y8 t q) 25)) w.heap.size t q:=
 ⟨by simp,⟨by simp[go_sem],by simp[go_sem],by simp[go_sem],by simp[go_sem],by simp[go_sem]⟩,by simp[go_sem],by simp[go_sem],by simp[go_sem],by simp[go_sem],by simp[go_sem]⟩
theorem Z0b (b off k:Nat): (⟨b,off,none⟩:Addr).add k=⟨b,off+k,none⟩:=by unfold Addr.add; split <;> simp_all
theorem Z9D (ss:List ByteArray):strs (ss.map fun s=>s.data.toList)=ss:=by
 unfold strs;rw[List.map_map]
 conv=>rhs; rw[<-List.map_id ss]
 rfl
section
variable {H : Type} {enc : TypeId × Value -> H} {W : World} {base : Nat} {held : Bool}
theorem Z8n {fuel:Nat} {cs:List Value} {x:DataW H×List MemPlace} (h:DataW.trod enc Tryd.prog W base (fun _=>true) held fuel 22 cs=some x):
 ∃(A:Option Addr) (l:List (List UInt8)) (c:Nat),cs= [.slice A l.length c]/\Strs W W.heap.size A (strs l)/\l.length<=9223372036854775807/\l.length<=c/\(A=none->c=0)/\ ∀y∈l,y.length<=9223372036854775807:=by
 rcases Go.ChangeShapes.open_strings Tryd.underlying22 Tryd.underlying9 (by kernel_rfl) h with ⟨hcs,_⟩ | ⟨a,len,cap,ss,hcs,_,hl,hm,hz,_,hcell,hws⟩
 {exact ⟨none,[],0,hcs,Or.inl rfl,by simp,by simp,fun _=>rfl,by simp⟩}
 {have hz':ss.length=cap:=by simpa using hz
  unfold maxLen at hm;refine ⟨some a,(ss.take len).map (fun s=>s.data.toList),cap, ?_, ?_, ?_, ?_,by simp, ?_⟩
  {rw[hcs,List.length_map,List.length_take,Nat.min_eq_left (by omega)]}
  {rw[Z9D]; exact Z3v hcell}
  {rw[List.length_map,List.length_take]; omega}
  {rw[List.length_map,List.length_take]; omega}
  {intro y hy;obtain ⟨s,hs,rfl⟩:=List.mem_map.1 hy;have:=hws s (List.mem_of_mem_take hs);unfold maxLen at this
   rwa [Lib.size_eq] at this}}
theorem Z3a: ∀(fuel:Nat) {cs:List Value} {x:DataW H×List MemPlace},DataW.trod enc Tryd.prog W base (fun _=>true) held fuel 25 cs=some x->
 ∃(t:Sh) (q:Ptr),cs= [.int .i64 t.kind,.string ⟨t.of_.toArray⟩,.string ⟨t.name.toArray⟩,.slice q.A t.names.length q.c,.slice q.P t.parts.length q.d]/\ShAt W W.heap.size q t:=by
 intro fuel;induction fuel using Nat.strongRecOn with
 | _ fuel IH=>
 intro cs x h;obtain ⟨xs,n,hn,_,hlen,hxl,hf⟩:=DataW.trod_struct Tryd.underlying25 h;have hC:Tryd.prog.cellsOf 25=5:=by kernel_rfl
 have c1:Tryd.prog.cellsOf 3=1:=by kernel_rfl
 have c9:Tryd.prog.cellsOf 9=1:=by kernel_rfl
 have c22:Tryd.prog.cellsOf 22=1:=by kernel_rfl
 have c23:Tryd.prog.cellsOf 23=1:=by kernel_rfl
 rw[hC] at hlen
 match cs,hlen with
 | [a0,a1,a2,a3,a4],_=>
  have f0:=hf 0 _ rfl;have f1:=hf 1 _ rfl;have f2:=hf 2 _ rfl;have f3:=hf 3 _ rfl;have f4:=hf 4 _ rfl;have hz:xs.length=5:=hxl;change DataW.trod enc _ W base _ held n 3 (([a0,a1,a2,a3,a4].drop 0).take (Tryd.prog.cellsOf 3))=_ at f0;change DataW.trod enc _ W base _ held n 9 (([a0,a1,a2,a3,a4].drop 1).take (Tryd.prog.cellsOf 9))=_ at f1;change DataW.trod enc _ W base _ held n 9 (([a0,a1,a2,a3,a4].drop 2).take (Tryd.prog.cellsOf 9))=_ at f2;change DataW.trod enc _ W base _ held n 22 (([a0,a1,a2,a3,a4].drop 3).take (Tryd.prog.cellsOf 22))=_ at f3;change DataW.trod enc _ W base _ held n 23 (([a0,a1,a2,a3,a4].drop 4).take (Tryd.prog.cellsOf 23))=_ at f4;rw[c1,List.getElem?_eq_getElem (by omega)] at f0;rw[c9,List.getElem?_eq_getElem (by omega)] at f1 f2;rw[c22,List.getElem?_eq_getElem (by omega)] at f3;rw[c23,List.getElem?_eq_getElem (by omega)] at f4;obtain ⟨b0,hb0,_,_⟩:=DataW.trod_int Tryd.underlying3 f0;obtain ⟨b1,hb1,_,hm1⟩:=DataW.trod_string Tryd.underlying9 f1;obtain ⟨b2,hb2,_,hm2⟩:=DataW.trod_string Tryd.underlying9 f2;obtain ⟨A,l,c,hb3,hS,hl,hlc,hA0,hly⟩:=Z8n f3;unfold maxLen at hm1 hm2;simp at hb0 hb1 hb2 hb3;subst hb0 hb1 hb2 hb3;rcases DataW.trod_slice Tryd.underlying23 f4 with ⟨hb4,_⟩ | ⟨a,len,cap,elems,rest,n2,hn2,hb4,_,hb,hle,hmm,hel,hx,_⟩
  {simp at hb4;subst hb4;exact ⟨⟨b0,b1.data.toList,b2.data.toList,l,[]⟩,⟨A,c,none,0⟩,rfl,
    .mk _ _ 0 0 (fun _=>⟨none,0,none,0⟩) ⟨by rw[<-Lib.size_eq]; exact hm1,by rw[<-Lib.size_eq]; exact hm2,hly,hl,by simp,hlc,by simp,hA0,fun _=>rfl⟩ hS (Or.inl rfl) (fun i h=>absurd h (by simp)) (fun i h=>absurd h (by simp))⟩}
  {simp at hb4;subst hb4;unfold maxLen at hmm;have hv: ∀i,∃u:Sh×Ptr,i < len->W.cell? (a.add (i * 5+0))=some (.int .i64 u.1.kind)/\W.cell? (a.add (i * 5+1))=some (.string ⟨u.1.of_.toArray⟩)/\W.cell? (a.add (i * 5+2))=some (.string ⟨u.1.name.toArray⟩)/\
    W.cell? (a.add (i * 5+3))=some (.slice u.2.A u.1.names.length u.2.c)/\W.cell? (a.add (i * 5+4))=some (.slice u.2.P u.1.parts.length u.2.d)/\ShAt W W.heap.size u.2 u.1:=by
    intro i;by_cases hi:i < len
    {have h1:=hx i hi;rw[hC,List.getElem?_eq_getElem (by omega)] at h1;cases hcs:W.cells? base (a.add (i * 5)) 5 with
     | none=>rw[hcs] at h1; cases h1
     | some cs'=>
      rw[hcs] at h1;obtain ⟨u,q,hu,hat⟩:=IH n2 (by omega) h1;subst hu;obtain ⟨_,hcl,hat'⟩:=World.cells?_some hcs;refine ⟨(u,q),fun _=>⟨?_, ?_, ?_, ?_, ?_,hat⟩⟩
      {rw[<-Go.Deep.add_add]; exact hat' 0 (by omega)}
      {rw[<-Go.Deep.add_add]; exact hat' 1 (by omega)}
      {rw[<-Go.Deep.add_add]; exact hat' 2 (by omega)}
      {rw[<-Go.Deep.add_add]; exact hat' 3 (by omega)}
      {rw[<-Go.Deep.add_add]; exact hat' 4 (by omega)}}
    {exact ⟨(⟨0,[],[],[],[]⟩,⟨none,0,none,0⟩),fun h=>absurd h hi⟩}
   let f:=fun i=>(hv i).choose
   have hf2: ∀i,i < len->W.cell? (a.add (i * 5+0))=some (.int .i64 (f i).1.kind)/\W.cell? (a.add (i * 5+1))=some (.string ⟨(f i).1.of_.toArray⟩)/\W.cell? (a.add (i * 5+2))=some (.string ⟨(f i).1.name.toArray⟩)/\
    W.cell? (a.add (i * 5+3))=some (.slice (f i).2.A (f i).1.names.length (f i).2.c)/\W.cell? (a.add (i * 5+4))=some (.slice (f i).2.P (f i).1.parts.length (f i).2.d)/\ShAt W W.heap.size (f i).2 (f i).1:=fun i=>(hv i).choose_spec
   have hln: ((List.range len).map fun i=>(f i).1).length=len:=by simp
   refine ⟨⟨b0,b1.data.toList,b2.data.toList,l,(List.range len).map fun i=>(f i).1⟩,⟨A,c,some a,cap⟩,by simp, ?_⟩;obtain ⟨b,off,spot⟩:=a;have hsm:Small ⟨b0,b1.data.toList,b2.data.toList,l,(List.range len).map fun i=>(f i).1⟩ ⟨A,c,some ⟨b,off,spot⟩,cap⟩:=
    ⟨by rw[<-Lib.size_eq]; exact hm1,by rw[<-Lib.size_eq]; exact hm2,hly,hl,by simp; omega,hlc,by simp; omega,hA0,fun h=>by cases h⟩
   by_cases h0:len=0
   {exact .mk _ _ 0 0 (fun _=>⟨none,0,none,0⟩) hsm hS (Or.inl (by simp[h0])) (fun i h=>absurd h (by simp[h0])) (fun i h=>absurd h (by simp[h0]))}
   {have h1:=(hf2 0 (by omega)).1;have hspot:spot=none:=by simpa[Addr.add] using World.cell?_spot h1
    subst hspot;have hplain: ∀k,(⟨b,off,none⟩:Addr).add k=⟨b,off+k,none⟩:=fun k=>Z0b b off k;refine .mk _ _ b off (fun i=>(f i).2) hsm hS (Or.inr ⟨rfl, ?_⟩) ?_ ?_
    {rw[hplain] at h1;exact Z1N h1}
    {intro i hi;have hin:i < len:=by simpa using hi
     obtain ⟨g0,g1,g2,g3,g4,_⟩:=hf2 i hin;simp only[hplain] at g0 g1 g2 g3 g4;simp only[List.getElem_map,List.getElem_range];exact ⟨g0,g1,g2,g3,g4⟩}
    {intro i hi;have hin:i < len:=by simpa using hi
     simp only[List.getElem_map,List.getElem_range];exact (hf2 i hin).2.2.2.2.2}}}
end
end Go.Proofs.YtchklpedlbkgaaaDoor
namespace Go.Proofs.YtchklpedlbkgaaaDoor
section
open Go.RowKit Shp
theorem Z1A (l:List (List UInt8)): (strs l).length=l.length:=by simp[strs]
structure TxR (W:World) (g:Nat) (ts:List (List UInt8)):Prop where
 lt:g < W.heap.size
 at_: ∀j (h:j < ts.length),W.cell? ⟨g,j,none⟩=some (.string ⟨(ts[j]'h).toArray⟩)
 fz: ∀o,W.frozen? ⟨g,o,none⟩=false
theorem TxR.keep {W W':World} {g B:Nat} {ts:List (List UInt8)} (h:TxR W g ts) (hg:g < B) (hb:Below B W W'):TxR W' g ts:=
 ⟨Nat.lt_of_lt_of_le h.lt hb.size,fun j hj=>(hb.cell (p:=⟨g,j,none⟩) hg).trans (h.at_ j hj),fun o=>(hb.frozen (p:=⟨g,o,none⟩) hg).trans (h.fz o)⟩
theorem TxR.next {W W':World} {g:Nat} {ts:List (List UInt8)} (h:TxR W g ts) (hb:Below W.heap.size W W'):TxR W' g ts:=h.keep h.lt hb
end
end Go.Proofs.YtchklpedlbkgaaaDoor
namespace Go.Proofs.YtchklpedlbkgaaaDoor
open Go.RowKit
def upd (u:Nat->Value) (i:Nat) (v:Value):Nat->Value:=fun j=>cond (Nat.beq j i) v (u j)
theorem Z06 (u:Nat->Value) (i:Nat) (v:Value):upd u i v i=v:=by simp[upd]
theorem Z01 (u:Nat->Value) {i j:Nat} (v:Value) (h:j≠i):upd u i v j=u j:=by
 have:Nat.beq j i=false:=by cases hb:Nat.beq j i <;> first | rfl | exact absurd (Nat.eq_of_beq_eq_true hb) h
 simp[upd,this]
structure Want where
 ok:Value->World->Prop
 keep: ∀(v:Value) (w w':World),Below w.heap.size w w'->ok v w->ok v w'
theorem Want.mono {T:Want} {v:Value} {w w':World} (hb:Below w.heap.size w w') (h:T.ok v w):T.ok v w':=T.keep v w w' hb h
def Want.val (c:Value):Want:=⟨fun v _=>v=c,fun _ _ _ _ h=>h⟩
def Want.any:Want:=⟨fun _ _=>True,fun _ _ _ _ h=>h⟩
section
variable {P : Program} {ops : Array Oper} {Q : Exit -> Act -> World -> Prop}
def waits (o:Oper) (j:Nat):Bool:=o.after.any fun e=>Region.binds .any e&&e.on==j
def StepAt (P:Program) (ops:Array Oper) (Q:Exit->Act->World->Prop) (A: (Nat->Value)->Act) (T:Nat->Want) (J:World->Prop) (i:Nat):Prop:=
 ∀o,ops[i]? =some o-> ∀(u:Nat->Value) (W:World),J W->(∀j,waits o j=true->(T j).ok (u j) W)->
  wpOp P ops Q i (fun a' w'=> ∃v,a'=A (upd u i v)/\(T i).ok v w'/\J w'/\Below W.heap.size W w') (A u) W
def StepsAt (P:Program) (ops:Array Oper) (Q:Exit->Act->World->Prop) (A: (Nat->Value)->Act) (T:Nat->Want) (J:World->Prop) (rs:List Nat):Prop:=
 ∀i∈rs,StepAt P ops Q A T J i
section
variable {A : (Nat -> Value) -> Act} {T : Nat -> Want} {J : World -> Prop}
include A T J
theorem StepsAt.nil:StepsAt P ops Q A T J []:=fun _ h=>by cases h
theorem StepsAt.cons {i:Nat} {rs:List Nat} (o:Oper) (ho:ops[i]? =some o)
 (h: ∀(u:Nat->Value) (W:World) (K':Act->World->Prop),J W->(∀j,waits o j=true->(T j).ok (u j) W)->
  Shut (∀v w',(T i).ok v w'->J w'->Below W.heap.size W w'->K' (A (upd u i v)) w')->
  if Region.wanted o (yielded ops (A u).tmps)=true then Oper.wp P o (A u) W K' Q else K' ((A u).put o.dst undef) W)
 (hs:StepsAt P ops Q A T J rs):StepsAt P ops Q A T J (i::rs):=fun j hj=>by
 rcases List.mem_cons.1 hj with rfl | hj
 {intro o' ho' u W hJ hd;rw[ho] at ho';obtain rfl:o=o':=Option.some.inj ho';exact wpOp_step ho (fun K' hK=>h u W K' hJ hd (fun v w' h1 h2 h3=>hK _ _ ⟨v,rfl,h1,h2,h3⟩))}
 {exact hs j hj}
end
def lowAfter (ops:Array Oper):Bool:=(List.range ops.size).all fun i=>((ops[i]?).map fun o=>o.after.all fun e=> !Region.binds .any e||decide (e.on < i)).getD true
theorem Z5H (h:lowAfter ops=true) {i:Nat} {o:Oper} (ho:ops[i]? =some o): ∀e∈o.after,Region.binds .any e=true->e.on < i:=by
 intro e he hb;have hi:i < ops.size:=by
  rcases Nat.lt_or_ge i ops.size with h | h
  {exact h}
  {rw[Array.getElem?_eq_none h] at ho; cases ho}
 have h1:=List.all_eq_true.1 h i (List.mem_range.2 hi);rw[ho] at h1;simp only[Option.map_some,Option.getD_some] at h1;have:=Array.all_eq_true_iff_forall_mem.1 h1 e he;rw[hb] at this;simpa using this
theorem Z2b (hl:lowAfter ops=true) (listed:Array Bool) (hr:Region.ready .any ops listed= []) (hsz:listed.size=ops.size):
 ∀n j,j < n->j < ops.size->listed.getD j false=true:=by
 intro n;induction n with
 | zero=>intro j hj; omega
 | succ n ih=>
  intro j hj hjs;by_cases hjn:j < n
  {exact ih j hjn hjs}
  {cases hlj:listed.getD j false with
   | true=>rfl
   | false=>
    have hmem:j∈Region.ready .any ops listed:=by
     refine mem_ready.2 ⟨?_,ops[j]'hjs,by simp[hjs],fun e he hb=> ?_⟩
     {have:j < listed.size:=by omega
      simp[this] at hlj ⊢;exact hlj}
     {have hlt:=Z5H hl (show ops[j]? =some (ops[j]'hjs) by simp[hjs]) e he hb;exact ih e.on (by omega) (by omega)}
    rw[hr] at hmem;cases hmem}
theorem Z5m (l:List Bool): ∀(i:Nat),l[i]? =some false->(l.set i true).count false+1=l.count false:=by
 induction l with
 | nil=>intro i h; simp at h
 | cons b l ih=>
  intro i h;cases i with
  | zero=>
   simp at h;subst h;simp
  | succ i=>
   simp at h;have:=ih i h;cases b <;> simp at this ⊢ <;> omega
theorem Z4J (l:List Bool) (h:l.count false=0) (j:Nat):l[j]? ≠some false:=by
 intro hj;have:=List.count_pos_iff.2 (List.mem_of_getElem? hj);omega
section
variable {o : Oper} {a : Act}
include o a
theorem Z03 {W W':World} {K':Act->World->Prop} {v:Value} {E:Prop} (hw:Region.wanted o (yielded ops a.tmps)=true)
 (hrun: (execOp a.eval o).run P W= .ok (.value v) W') (hK:K' (a.put o.dst v) W'):
 if Region.wanted o (yielded ops a.tmps)=true then Oper.wp P o a W K' Q else E:=by
 rw[if_pos hw,Oper.wp,hrun,Oper.upon_value];exact hK
theorem Y0 {W:World} {K':Act->World->Prop} {F:Value->Act} {T:Nat->Want} {J:World->Prop} {i:Nat} {E:Prop} {c:Value}
 (hK:Shut (∀v w',(T i).ok v w'->J w'->Below W.heap.size W w'->K' (F v) w')) (hJ:J W) (hT:T i=Want.val c) (hA:a.put o.dst c=F c)
 (hw:Region.wanted o (yielded ops a.tmps)=true) (hr: (execOp a.eval o).run P W= .ok (.value c) W):
 if Region.wanted o (yielded ops a.tmps)=true then Oper.wp P o a W K' Q else E:=
 Z03 (v:=c) (W':=W) hw hr (by rw[hA]; exact hK.out c W (by rw[hT]; rfl) hJ (Below.refl _ _))
theorem Z3b {W W':World} {K':Act->World->Prop} {f:FuncId} {args:Array Value} {E:Prop} (hw:Region.wanted o (yielded ops a.tmps)=true)
 (hrun: (execOp a.eval o).run P W= .ok (.enter f args) W') (hc:Calls P f args W' fun e w'=> ∃v,e= .returned v/\K' (a.put o.dst v) w'):
 if Region.wanted o (yielded ops a.tmps)=true then Oper.wp P o a W K' Q else E:=by
 rw[if_pos hw,Oper.wp,hrun,Oper.upon_enter];refine hc.mono fun e w' h=> ?_;obtain ⟨v,rfl,h⟩:=h;exact h
end
end
end Go.Proofs.YtchklpedlbkgaaaDoor
namespace Go.Proofs.YtchklpedlbkgaaaDoor
section
open Go.RowKit
theorem Z12 {P:Program} (w:World) {ops:Array Oper} {rest:List Oper} {o:Oper} {a:Act} {Q:Exit->Act->World->Prop} (hgd:Region.wanted o (yielded ops a.tmps)=true) (s x:Operand) (t:TypeId)
 (ho:o.op= .call { callee:= .builtin .append,args:=#[s,x],argTypes:=#[t,t] })
 (base:Nat) (e:TypeId) (i:TypeInfo) (z:Value) (size bytes:Nat) (ht:P.underlying t=some (.slice e)) (hi:P.info? e=some i) (hz:i.zero=some z)
 (hsize:i.size=size) (hby:i.bytes=bytes) (hzs:z.cells.size=size) (hsz:0 < size)
 (v:Value) (n:Nat) (xs:List Value) (hs:a.eval s=v) (hown:w.ownsRow base e size v n xs)
 (A:Option Addr) (m c:Nat) (news:List Value) (hx:a.eval x= .slice A m c) (hA:A=none->m=0/\c=0) (hl:news.length=m * size)
 (hnews: ∀ad,A=some ad-> ∀j u,news[j]? =some u->w.cell? (ad.add j)=some u) (h1: ∀u∈news,u.oneCell'=true)
 (h63:n+m<=maxLen) (hbytes: (n+m) * bytes<=140737488355328) (hbase:base<=w.heap.size)
 (h: ∀v' w',w'.ownsRow base e size v' (n+m) (xs++news)->Below base w w'->wpList P ops Q rest (a.put o.dst v') w'):wpList P ops Q (o::rest) a w:=by
 refine wpList_step fun K hK=> ?_;rw[if_pos hgd]
 match A,hA,hnews,hx with
 | some ad,_,hnews,hx=>
  exact wp_append_own w s x t ho base e i z size bytes ht hi hz hsize hby hzs hsz v n xs hs hown ad m c news hx hl (hnews ad rfl) h1 h63 hbytes hbase
   fun v' w' h2 h3 _=>hK _ _ (h v' w' h2 (Y2.grown h3 hbase (fun k hk=>(hown.lt k hk).1)))
 | none,hA,_,hx=>
  obtain ⟨rfl,rfl⟩:=hA rfl;obtain rfl:news= []:=List.eq_nil_of_length_eq_zero (by rw[hl,Nat.zero_mul]);have hr:=run_append_owned_none (P:=P) (w:=w) base t o.type e i size ht hi v n xs hown;unfold Oper.wp execOp;simp only[ho,resolve,invoke,builtin,Sem.run_bind,Sem.run_pure,Result.andThen_ok,List.map_toArray,List.map_cons,List.map_nil,hs,hx,hr];exact hK _ _ (h v w (by rw[List.append_nil]; exact hown) Y2)
end
section
open Go.RowKit Shp
structure PaR (W:World) (b:Nat) (ps:List Sh) (qs:Nat->Ptr):Prop where
 lt:b < W.heap.size
 at_: ∀i (h:i < ps.length),Sh5 W b (i * 5) (ps[i]'h) (qs i)
 fz: ∀k,W.frozen? ⟨b,k,none⟩=false
def Z0v (W W':World) (b:Nat):Prop:=(∀k,W'.cell? ⟨b,k,none⟩=W.cell? ⟨b,k,none⟩)/\ ∀k,W'.frozen? ⟨b,k,none⟩=W.frozen? ⟨b,k,none⟩
theorem PaR.of {W W':World} {b:Nat} {ps:List Sh} {qs:Nat->Ptr} (h:PaR W b ps qs) (hs:Z0v W W' b) (hz:W.heap.size<=W'.heap.size):PaR W' b ps qs:=
 ⟨Nat.lt_of_lt_of_le h.lt hz,fun i hi=>(h.at_ i hi).of hs.1,fun k=>(hs.2 k).trans (h.fz k)⟩
theorem TxR.of {W W':World} {b:Nat} {ts:List (List UInt8)} (h:TxR W b ts) (hs:Z0v W W' b) (hz:W.heap.size<=W'.heap.size):TxR W' b ts:=
 ⟨Nat.lt_of_lt_of_le h.lt hz,fun i hi=>(hs.1 i).trans (h.at_ i hi),fun k=>(hs.2 k).trans (h.fz k)⟩
inductive Own (W:World):Ptr->Sh->List Nat->Prop
 | mk (q:Ptr) (t:Sh) (F FN FP:List Nat) (qs:Nat->Ptr) (Fs:Nat->List Nat) (hs:Small t q)
  (hn:t.names.length=0/\FN= []\/ ∃b,q.A=some ⟨b,0,none⟩/\FN= [b]/\TxR W b t.names)
  (hp:t.parts.length=0/\FP= []\/ ∃b,q.P=some ⟨b,0,none⟩/\FP= [b]/\PaR W b t.parts qs)
  (hr: ∀i (h:i < t.parts.length),Own W (qs i) (t.parts[i]'h) (Fs i)) (hF:F=FN++FP++(List.range t.parts.length).flatMap Fs):Own W q t F
section
variable {W : World} {q : Ptr} {t : Sh} {F : List Nat} (h : Own W q t F)
include W q t F h
theorem Own.small:Small t q:=by cases h; assumption
theorem Own.inv: ∃(FN FP:List Nat) (qs:Nat->Ptr) (Fs:Nat->List Nat),
 (t.names.length=0/\FN= []\/ ∃b,q.A=some ⟨b,0,none⟩/\FN= [b]/\TxR W b t.names)/\
 (t.parts.length=0/\FP= []\/ ∃b,q.P=some ⟨b,0,none⟩/\FP= [b]/\PaR W b t.parts qs)/\
 (∀i (h:i < t.parts.length),Own W (qs i) (t.parts[i]'h) (Fs i))/\F=FN++FP++(List.range t.parts.length).flatMap Fs:=by
 cases h with
 | mk _ _ _ FN FP qs Fs hs hn hp hr hF=>exact ⟨FN,FP,qs,Fs,hn,hp,hr,hF⟩
end
theorem Own.of {W W':World} {q:Ptr} {t:Sh} {F:List Nat} (h:Own W q t F) (hc: ∀b∈F,Z0v W W' b) (hz:W.heap.size<=W'.heap.size):Own W' q t F:=by
 induction h with
 | mk q t F FN FP qs Fs hs hn hp hr hF ih=>
  subst hF;refine .mk q t _ FN FP qs Fs hs ?_ ?_ ?_ rfl
  {rcases hn with h | ⟨b,h1,rfl,h3⟩
   {exact Or.inl h}
   {exact Or.inr ⟨b,h1,rfl,h3.of (hc b (by simp)) hz⟩}}
  {rcases hp with h | ⟨b,h1,rfl,h3⟩
   {exact Or.inl h}
   {exact Or.inr ⟨b,h1,rfl,h3.of (hc b (by simp)) hz⟩}}
  {intro i hi;refine ih i hi (fun b hb=>hc b ?_);refine List.mem_append_right _ (List.mem_flatMap.2 ⟨i,List.mem_range.2 hi,hb⟩)}
theorem Own.at_ {W:World} {q:Ptr} {t:Sh} {F:List Nat} {B:Nat} (h:Own W q t F) (hB: ∀b∈F,b < B):ShAt W B q t:=by
 induction h with
 | mk q t F FN FP qs Fs hs hn hp hr hF ih=>
  subst hF;have hS:Strs W B q.A (strs t.names):=by
   rcases hn with ⟨h,_⟩ | ⟨b,h1,rfl,h3⟩
   {exact Or.inl (by rw[Z1A]; exact h)}
   {refine Or.inr ⟨b,0,h1,hB b (by simp),fun i hi=> ?_⟩;rw[Z1A] at hi;rw[Nat.zero_add,h3.at_ i hi];simp[strs]}
  have hrr: ∀i (h:i < t.parts.length),ShAt W B (qs i) (t.parts[i]'h):=fun i hi=>ih i hi (fun b hb=>hB b (List.mem_append_right _ (List.mem_flatMap.2 ⟨i,List.mem_range.2 hi,hb⟩)));rcases hp with ⟨h,_⟩ | ⟨b,h1,rfl,h3⟩
  {exact .mk q t 0 0 qs hs hS (Or.inl h) (fun i hi=>absurd hi (by omega)) hrr}
  {exact .mk q t b 0 qs hs hS (Or.inr ⟨h1,hB b (by simp)⟩) (fun i hi=>by rw[Nat.zero_add]; exact h3.at_ i hi) hrr}
theorem Own.lt {W:World} {q:Ptr} {t:Sh} {F:List Nat} (h:Own W q t F): ∀b∈F,b < W.heap.size:=by
 induction h with
 | mk q t F FN FP qs Fs hs hn hp hr hF ih=>
  subst hF;intro b hb;rcases List.mem_append.1 hb with hb | hb
  {rcases List.mem_append.1 hb with hb | hb
   {rcases hn with ⟨_,rfl⟩ | ⟨c,_,rfl,h3⟩
    {cases hb}
    {rw[List.mem_singleton] at hb; subst hb; exact h3.lt}}
   {rcases hp with ⟨_,rfl⟩ | ⟨c,_,rfl,h3⟩
    {cases hb}
    {rw[List.mem_singleton] at hb; subst hb; exact h3.lt}}}
  {obtain ⟨i,hi,hb⟩:=List.mem_flatMap.1 hb;exact ih i (List.mem_range.1 hi) b hb}
def Node (W:World) (g i:Nat) (t:Sh) (F:List Nat):Prop:= ∃q,Sh5 W g (i * 5) t q/\Own W q t F
structure Nd where
 g:Nat
 i:Nat
 t:Sh
 q:Ptr
def Ready (r:Nat) (T:Sh) (L:List Nd) (D:List Nat) (W:World):Prop:=
 ∀(W':World) (Fs:Nat->List Nat),W.heap.size<=W'.heap.size->
  (∀b∈D,∀k,(∀n∈L,¬(n.g=b/\(k=n.i * 5+3\/k=n.i * 5+4)))->W'.cell? ⟨b,k,none⟩=W.cell? ⟨b,k,none⟩)->
  (∀b∈D,∀k,W'.frozen? ⟨b,k,none⟩=W.frozen? ⟨b,k,none⟩)->
  (∀j (h:j < L.length),Node W' (L[j]'h).g (L[j]'h).i (L[j]'h).t (Fs j))->
  (∀j,j < L.length-> ∀b∈Fs j,b∉D)->((List.range L.length).flatMap Fs).Nodup->
  ∃F,Node W' r 0 T F/\F.Nodup/\ ∀b∈F,b∈D\/ ∃j,j < L.length/\b∈Fs j
theorem Z70 (r:Nat) (T:Sh) (q:Ptr) (D:List Nat) (W:World):Ready r T [⟨r,0,T,q⟩] D W:=by
 intro W' Fs _ _ _ hN _ hnd;refine ⟨Fs 0,hN 0 (by simp),by simpa using hnd,fun b hb=>Or.inr ⟨0,by simp,hb⟩⟩
theorem Z8o {r:Nat} {T:Sh} {D:List Nat} {W:World} (h:Ready r T [] D W): ∃F,Node W r 0 T F/\F.Nodup/\ ∀b∈F,b∈D:=by
 obtain ⟨F,h1,h2,h3⟩:=h W (fun _=> []) (Nat.le_refl _) (fun _ _ _ _=>rfl) (fun _ _ _=>rfl) (fun j hj=>absurd hj (by simp)) (fun j hj=>absurd hj (by simp)) (by simp);refine ⟨F,h1,h2,fun b hb=> ?_⟩;rcases h3 b hb with h | ⟨j,hj,_⟩
 {exact h}
 {exact absurd hj (by simp)}
theorem Ready.of {r:Nat} {T:Sh} {L:List Nd} {D:List Nat} {W W1:World} (h:Ready r T L D W) (hs: ∀b∈D,Z0v W W1 b) (hz:W.heap.size<=W1.heap.size):Ready r T L D W1:=
 fun W' Fs hz' hc hf hN hd hn=>h W' Fs (Nat.le_trans hz hz') (fun b hb k hx=>(hc b hb k hx).trans ((hs b hb).1 k)) (fun b hb k=>(hf b hb k).trans ((hs b hb).2 k)) hN hd hn
def kids (pb:Nat) (ps:List Sh) (qs:Nat->Ptr):List Nd:=ps.mapIdx fun i p=>⟨pb,i,p,qs i⟩
section
variable (pb : Nat) (ps : List Sh) (qs : Nat -> Ptr)
include pb ps qs
theorem Z0U: (kids pb ps qs).length=ps.length:=by simp[kids]
theorem Z1U (i:Nat) (h:i < (kids pb ps qs).length): (kids pb ps qs)[i]'h=⟨pb,i,ps[i]'(by rwa [Z0U] at h),qs i⟩:=by simp[kids]
end
theorem Z63 {pb:Nat} {ps:List Sh} {qs:Nat->Ptr} {n:Nd} (h:n∈kids pb ps qs):n.g=pb:=by
 obtain ⟨i,hi,rfl⟩:=List.getElem_of_mem h;rw[Z1U]
theorem Z5I {n m:Nat} (Fs:Nat->List Nat): (List.range (n+m)).flatMap Fs=(List.range n).flatMap Fs++(List.range m).flatMap (fun i=>Fs (n+i)):=by
 rw[List.range_add,List.flatMap_append,List.flatMap_map]
theorem Ready.step {r:Nat} {T:Sh} {L:List Nd} {a:Nd} {D DN DP:List Nat} {W W1:World} {q1:Ptr} {pb:Nat} {qs:Nat->Ptr} (hR:Ready r T (L++ [a]) D W) (hD: ∀b∈D,b < W.heap.size)
 (hag:a.g∈D) (hLg: ∀n∈L,n.g∈D) (hne: ∀n∈L,n.g=a.g->n.i≠a.i) (hsz:W.heap.size<=W1.heap.size) (ha:Sh5 W1 a.g (a.i * 5) a.t q1) (hs:Small a.t q1)
 (hk: ∀b∈D,∀k,¬(a.g=b/\(k=a.i * 5+3\/k=a.i * 5+4))->W1.cell? ⟨b,k,none⟩=W.cell? ⟨b,k,none⟩) (hf: ∀b∈D,∀k,W1.frozen? ⟨b,k,none⟩=W.frozen? ⟨b,k,none⟩)
 (hn:a.t.names.length=0/\DN= []\/ ∃b,q1.A=some ⟨b,0,none⟩/\DN= [b]/\W.heap.size<=b/\TxR W1 b a.t.names)
 (hp:a.t.parts.length=0/\DP= []\/q1.P=some ⟨pb,0,none⟩/\DP= [pb]/\W.heap.size<=pb/\pb∉DN/\PaR W1 pb a.t.parts qs):
 Ready r T (L++kids pb a.t.parts qs) (D++DN++DP) W1:=by
 intro W' Fs hsz' hcell hfr hN hdis hnd;have hlen: (L++kids pb a.t.parts qs).length=L.length+a.t.parts.length:=by rw[List.length_append,Z0U]
 have hpg: ∀n∈kids pb a.t.parts qs,a.t.parts.length≠0:=fun n hn h0=>by
  have:kids pb a.t.parts qs= []:=List.eq_nil_of_length_eq_zero (by rw[Z0U]; exact h0);rw[this] at hn; cases hn
 have hkid: ∀n∈kids pb a.t.parts qs,n.g=pb/\W.heap.size<=pb/\pb∉DN:=fun n hnm=>by
  rcases hp with ⟨h0,_⟩ | ⟨_,_,h3,h4,_⟩
  {exact absurd h0 (hpg n hnm)}
  {exact ⟨Z63 hnm,h3,h4⟩}
 have hDNb: ∀b∈DN,W.heap.size<=b:=fun b hb=>by
  rcases hn with ⟨_,rfl⟩ | ⟨c,_,rfl,h3,_⟩
  {cases hb}
  {rw[List.mem_singleton] at hb; subst hb; exact h3}
 have hDPb: ∀b∈DP,W.heap.size<=b/\b∉DN:=fun b hb=>by
  rcases hp with ⟨_,rfl⟩ | ⟨_,rfl,h3,h4,_⟩
  {cases hb}
  {rw[List.mem_singleton] at hb; subst hb; exact ⟨h3,h4⟩}
 have hDNn:DN.Nodup:=by
  rcases hn with ⟨_,rfl⟩ | ⟨c,_,rfl,_⟩ <;> simp
 have hDPn:DP.Nodup:=by
  rcases hp with ⟨_,rfl⟩ | ⟨_,rfl,_⟩ <;> simp
 let Fk:Nat->List Nat:=fun i=>Fs (L.length+i)
 let Fa:List Nat:=DN++DP++(List.range a.t.parts.length).flatMap Fk
 let Fs':Nat->List Nat:=fun j=>if j < L.length then Fs j else Fa
 rw[hlen] at hdis hnd;rw[Z5I] at hnd;have hnd':=List.nodup_append.1 hnd;have hdisD: ∀j,j < L.length+a.t.parts.length-> ∀b∈Fs j,b∉D/\b∉DN/\b∉DP:=fun j hj b hb=>by
  have:=hdis j hj b hb;simp only[List.mem_append,not_or] at this;exact ⟨this.1.1,this.1.2,this.2⟩
 -- the place that was copied
 have hkn: ∀i (h:i < a.t.parts.length),Node W' pb i (a.t.parts[i]'h) (Fk i):=fun i hi=>by
  have h1:=hN (L.length+i) (by rw[hlen]; omega);have e: (L++kids pb a.t.parts qs)[L.length+i]'(by rw[hlen]; omega)=⟨pb,i,a.t.parts[i]'hi,qs i⟩:=by
   rw[List.getElem_append_right (by omega)];simp only[Nat.add_sub_cancel_left];exact Z1U _ _ _ _ _
  rw[e] at h1;exact h1
 have hqk: ∃qk:Nat->Ptr,∀i (h:i < a.t.parts.length),Sh5 W' pb (i * 5) (a.t.parts[i]'h) (qk i)/\Own W' (qk i) (a.t.parts[i]'h) (Fk i):=by
  refine ⟨fun i=>if h:i < a.t.parts.length then (hkn i h).choose else ⟨none,0,none,0⟩,fun i h=> ?_⟩;simp only[dif_pos h];exact (hkn i h).choose_spec
 obtain ⟨qk,hqk⟩:=hqk;have hexc: ∀b∈D,∀k,(∀n∈L,¬(n.g=b/\(k=n.i * 5+3\/k=n.i * 5+4)))->W'.cell? ⟨b,k,none⟩=W1.cell? ⟨b,k,none⟩:=fun b hb k hx=>by
  refine hcell b (by simp[hb]) k (fun n hnm=> ?_);rcases List.mem_append.1 hnm with h | h
  {exact hx n h}
  {intro ⟨h1,_⟩;have h2:=hkid n h;have:=hD b hb;omega}
 have hNa:Node W' a.g a.i a.t Fa:=by
  refine ⟨q1, ?_,.mk q1 a.t Fa DN DP qk Fk hs ?_ ?_ (fun i hi=>(hqk i hi).2) rfl⟩
  {have e: ∀c,c < 5->W'.cell? ⟨a.g,a.i * 5+c,none⟩=W1.cell? ⟨a.g,a.i * 5+c,none⟩:=fun c hc=>hexc a.g hag _ (fun n hnm ⟨h1,h2⟩=>by
    have:=hne n hnm h1;omega)
   obtain ⟨h0,h1,h2,h3,h4⟩:=ha;exact ⟨(e 0 (by omega)).trans h0,(e 1 (by omega)).trans h1,(e 2 (by omega)).trans h2,(e 3 (by omega)).trans h3,(e 4 (by omega)).trans h4⟩}
  {rcases hn with h | ⟨b,h1,rfl,h3,h4⟩
   {exact Or.inl h}
   {refine Or.inr ⟨b,h1,rfl,h4.of ⟨fun k=>hcell b (by simp) k (fun n hnm=> ?_),fun k=>hfr b (by simp) k⟩ hsz'⟩;rcases List.mem_append.1 hnm with h | h
    {intro ⟨h5,_⟩;have:=hD _ (hLg n h);omega}
    {intro ⟨h5,_⟩;have h6:=hkid n h;rw[List.mem_singleton] at h6;omega}}}
  {rcases hp with h | ⟨h1,rfl,h3,h4,h5⟩
   {exact Or.inl h}
   {exact Or.inr ⟨pb,h1,rfl,Nat.lt_of_lt_of_le h5.lt hsz',fun i hi=>(hqk i hi).1,fun k=>(hfr pb (by simp) k).trans (h5.fz k)⟩}}
 have hFaD: ∀b∈Fa,b∉D:=fun b hb hbD=>by
  have hlt:=hD b hbD;rcases List.mem_append.1 hb with hb | hb
  {rcases List.mem_append.1 hb with hb | hb
   {have:=hDNb b hb; omega}
   {have:=(hDPb b hb).1; omega}}
  {obtain ⟨i,hi,hb⟩:=List.mem_flatMap.1 hb;exact (hdisD (L.length+i) (by have:=List.mem_range.1 hi; omega) b hb).1 hbD}
 have hFan:Fa.Nodup:=by
  refine List.nodup_append.2 ⟨List.nodup_append.2 ⟨hDNn,hDPn,fun x hx y hy e=>(hDPb y hy).2 (e▸hx)⟩,hnd'.2.1,fun x hx y hy e=> ?_⟩;subst e;obtain ⟨i,hi,hb⟩:=List.mem_flatMap.1 hy;have h1:=hdisD (L.length+i) (by have:=List.mem_range.1 hi; omega) x hb;rcases List.mem_append.1 hx with h | h
  {exact h1.2.1 h}
  {exact h1.2.2 h}
 have hll: (L++ [a]).length=L.length+1:=by simp
 have hFs': (List.range L.length).flatMap Fs'=(List.range L.length).flatMap Fs:=by
  have: ∀(l:List Nat),(∀j∈l,j < L.length)->l.flatMap Fs'=l.flatMap Fs:=by
   intro l;induction l with
   | nil=>intro _; rfl
   | cons j l ih=>
    intro h;rw[List.flatMap_cons,List.flatMap_cons,ih (fun j hj=>h j (by simp[hj]))];simp only[Fs',if_pos (h j (by simp))]
  exact this _ (fun j hj=>List.mem_range.1 hj)
 obtain ⟨F,h1,h2,h3⟩:=hR W' Fs' (Nat.le_trans hsz hsz') (fun b hb k hx=>by
  rw[hexc b hb k (fun n hnm=>hx n (by simp[hnm]))];exact hk b hb k (hx a (by simp)))
  (fun b hb k=>(hfr b (by simp[hb]) k).trans (hf b hb k))
  (fun j hj=>by
   rw[hll] at hj;by_cases hjl:j < L.length
   {have e: (L++ [a])[j]'(by rw[hll]; omega)=L[j]'hjl:=List.getElem_append_left hjl;have h1:=hN j (by rw[hlen]; omega);have e2: (L++kids pb a.t.parts qs)[j]'(by rw[hlen]; omega)=L[j]'hjl:=List.getElem_append_left hjl;rw[e2] at h1;rw[e];simp only[Fs',if_pos hjl];exact h1}
   · have hje:j=L.length:=by omega
     subst hje;have e: (L++ [a])[L.length]'(by rw[hll]; omega)=a:=by simp
     rw[e];simp only[Fs',if_neg hjl];exact hNa)
  (fun j hj b hb=>by
   rw[hll] at hj;by_cases hjl:j < L.length
   {simp only[Fs',if_pos hjl] at hb;exact (hdisD j (by omega) b hb).1}
   · simp only[Fs',if_neg hjl] at hb
     exact hFaD b hb)
  (by
   rw[hll,List.range_succ,List.flatMap_append,hFs'];have e: [L.length].flatMap Fs'=Fa:=by simp[Fs']
   rw[e];refine List.nodup_append.2 ⟨hnd'.1,hFan,fun x hx y hy e=> ?_⟩;subst e;obtain ⟨j,hj,hxj⟩:=List.mem_flatMap.1 hx;have hd:=hdisD j (by have:=List.mem_range.1 hj; omega) x hxj;rcases List.mem_append.1 hy with hy | hy
   {rcases List.mem_append.1 hy with hy | hy
    {exact hd.2.1 hy}
    {exact hd.2.2 hy}}
   · exact hnd'.2.2 x hx x hy rfl)
 refine ⟨F,h1,h2,fun b hb=> ?_⟩;rcases h3 b hb with h | ⟨j,hj,h⟩
 {exact Or.inl (by simp[h])}
 {rw[hll] at hj;by_cases hjl:j < L.length
  {simp only[Fs',if_pos hjl] at h;exact Or.inr ⟨j,by rw[hlen]; omega,h⟩}
  {simp only[Fs',if_neg hjl] at h;rcases List.mem_append.1 h with h | h
   {rcases List.mem_append.1 h with h | h
    {exact Or.inl (by simp[h])}
    {exact Or.inl (by simp[h])}}
   {obtain ⟨i,hi,h⟩:=List.mem_flatMap.1 h;exact Or.inr ⟨L.length+i,by rw[hlen]; have:=List.mem_range.1 hi; omega,h⟩}}}
theorem Strs.cell7 {w:World} {B:Nat} {A:Option Addr} {l:List (List UInt8)} (h:Strs w B A (strs l)):l.length=0\/ ∃g off,A=some ⟨g,off,none⟩/\g < B/\ ∀i (hi:i < l.length),w.cell? ⟨g,off+i,none⟩=some (.string ⟨(l[i]'hi).toArray⟩):=by
 rcases h with h | ⟨g,off,hA,hg,hc⟩
 {exact Or.inl (by rwa [Z1A] at h)}
 {refine Or.inr ⟨g,off,hA,hg,fun i hi=> ?_⟩;rw[hc i (by rwa [Z1A])];simp[strs]}
end
end Go.Proofs.YtchklpedlbkgaaaDoor
