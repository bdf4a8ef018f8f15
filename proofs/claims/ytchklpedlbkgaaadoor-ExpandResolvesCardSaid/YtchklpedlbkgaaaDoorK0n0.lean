/- What the proofs of ExpandResolves want, part 0. -/
import Derived.Test.YtchklpedlbkgaaaDoorRows
import Derived.WalkKit
import Derived.Lib.Hide
import Derived.Lib.Strings
import Derived.Lib.Builder
import Derived.BigQuiet
import Derived.Laws.Cover1
import Derived.SliceStrings
import Derived.SizedLaws
import Derived.OpenShut
import Derived.Deep.AppendLies
import Derived.StillTailTactics
import Derived.Deep.Fields
import Derived.Deep.RegionHeld3
set_option linter.unusedVariables false
set_option linter.unusedSimpArgs false
set_option linter.unusedSectionVars false
set_option maxRecDepth 100000
set_option maxHeartbeats 16000000
namespace Utf
section
def pt (p:Int):Bool:=decide (0<=p)&&decide (p<=1114111)&&(decide (p < 55296)||decide (57343 < p))
def byte (x:Int):UInt8:=UInt8.ofNat (x % 256).toNat
def bytes (p:Int):List UInt8:=
 if p < 128 then [byte p]
 else if p < 2048 then [byte (192+p / 64),byte (128+p % 64)]
 else if p < 65536 then [byte (224+p / 4096),byte (128+p / 64 % 64),byte (128+p % 64)]
 else [byte (240+p / 262144),byte (128+p / 4096 % 64),byte (128+p / 64 % 64),byte (128+p % 64)]
def lead (a:Nat):Nat×Int:=
 if 240<=a then (4,(a:Int) - 240) else if 224<=a then (3,(a:Int) - 224) else if 192<=a then (2,(a:Int) - 192) else (1,a)
def val (p:Int):List UInt8->Int
 | []=>p
 | b::r=>val (p * 64+b.toNat - 128) r
def first:List UInt8->Int×Nat
 | []=>(0,0)
 | a::r=>
  if (lead a.toNat).1<=r.length+1/\pt (val (lead a.toNat).2 (r.take ((lead a.toNat).1 - 1)))=true/\
   bytes (val (lead a.toNat).2 (r.take ((lead a.toNat).1 - 1)))=(a::r).take (lead a.toNat).1
  then (val (lead a.toNat).2 (r.take ((lead a.toNat).1 - 1)),(lead a.toNat).1) else (0,0)
def enc (ps:List Int):List UInt8:=ps.flatMap bytes
def step (l:List UInt8) (k:Nat):Nat:=if (first (l.drop k)).2=0 then 1 else (first (l.drop k)).2
end
end Utf
namespace Sem
section
def dig (c:UInt8):Bool:=decide (48<=c.toNat)&&decide (c.toNat<=57)
def digits (l:List UInt8):Bool:= !l.isEmpty&&l.all dig
def parts:List UInt8->List (List UInt8)
 | []=> [[]]
 | c::r=>if c=46 then []::parts r else match parts r with
  | []=> [[c]]
  | p::ps=>(c::p)::ps
def join:List (List UInt8)->List UInt8
 | []=> []
 | [p]=>p
 | p::q::ps=>p++46::join (q::ps)
structure Ver where
 maj:Int
 min:Int
 pat:Int
 pre:List UInt8
deriving DecidableEq
def dec (n:Nat):List UInt8:=if h:n < 10 then [UInt8.ofNat (48+n)] else dec (n / 10)++ [UInt8.ofNat (48+n % 10)]
termination_by n
def text (v:Ver):List UInt8:=dec v.maj.toNat++46::(dec v.min.toNat++46::(dec v.pat.toNat++if v.pre= [] then [] else 45::v.pre))
def put (t:Nat×Nat×Nat) (k x:Nat):Nat×Nat×Nat:=if k=0 then (x,t.2.1,t.2.2) else if k=1 then (t.1,x,t.2.2) else (t.1,t.2.1,x)
def get (t:Nat×Nat×Nat) (k:Nat):Nat:=if k=0 then t.1 else if k=1 then t.2.1 else t.2.2
def num (l:List UInt8):Nat:=l.foldl (fun a c=>10 * a+(c.toNat - 48)) 0
def partKey (p:List UInt8):List Int:=if digits p then [0,(num p:Int)] else 1::p.map fun c=>(c.toNat:Int)
def preKey (p:List UInt8):List (List Int):=if p= [] then [[2]] else [1]::(parts p).map partKey
def key (v:Ver):List (List Int):= [v.maj]:: [v.min]:: [v.pat]::preKey v.pre
end
end Sem
namespace Lex
section
def small (c:UInt8):Bool:=decide (97<=c.toNat)&&decide (c.toNat<=122)
def great (c:UInt8):Bool:=decide (65<=c.toNat)&&decide (c.toNat<=90)
def digit (c:UInt8):Bool:=decide (48<=c.toNat)&&decide (c.toNat<=57)
def nameB (c:UInt8):Bool:=small c||great c||digit c||c==95
def words:List (List UInt8):= [[109,111,100,117,108,101],[105,109,112,111,114,116],[112,105,110],[114,97,110,103,101],[116,121,112,101],[111,112,97,113,117,101],[108,101,116],[105,110],[101,120,112,111,114,116],[102,117,110],[105,102],[116,104,101,110],[101,108,115,101],[99,97,115,101],[111,102],[97,115],[110,101,119],[114,97,119],[116,114,117,101],[102,97,108,115,101]]
def isWord (s:List UInt8):Bool:=words.contains s
def isName (s:List UInt8):Bool:=match s with
 | []=>false
 | c::_=>decide (s.length<=24)&&small c&&s.all nameB&& !isWord s
def isUpper (s:List UInt8):Bool:=match s with
 | []=>false
 | c::_=>decide (s.length<=24)&&great c&&s.all nameB
structure Tok where
 kind:Int
 text:List UInt8
deriving DecidableEq
def one:List UInt8->Option (Int×Nat)
 | []=>none
 | c::r=>if c=34\/c.toNat < 32 then none else if c=92 then
  (match r with
  | []=>none
  | d::_=>if d=110 then some (10,2) else if d=116 then some (9,2) else if d=34 then some (34,2) else if d=92 then some (92,2) else none)
  else if (Utf.first (c::r)).2=0 then none else some (Utf.first (c::r))
def body:Nat->List UInt8->List Int×List UInt8
 | 0,l=>([],l)
 | f+1,l=>match one l with
  | none=>([],l)
  | some (p,n)=>(p::(body f (l.drop n)).1,(body f (l.drop n)).2)
end
end Lex
namespace Shp
section
structure Sh where
 kind:Int
 of_:List UInt8
 name:List UInt8
 names:List (List UInt8)
 parts:List Sh
mutual
def size:Sh->Nat
 | ⟨_,_,_,_,ps⟩=>1+sizes ps
def sizes:List Sh->Nat
 | []=>0
 | p::ps=>size p+sizes ps
end
mutual
def deep:Sh->Nat
 | ⟨_,_,_,_,ps⟩=>deeps ps+1
def deeps:List Sh->Nat
 | []=>0
 | p::ps=>max (deep p) (deeps ps)
end
theorem size_eq (t:Sh):size t=1+sizes t.parts:=by cases t; rfl
theorem Z0h (t:Sh):deep t=deeps t.parts+1:=by cases t; rfl
theorem Z25 (t:Sh):1<=size t:=by rw[size_eq]; omega
section
variable {l : List Sh} {p : Sh} (h : p ∈ l)
include l p h
theorem Z15:size p<=sizes l:=by
 induction l with
 | nil=>cases h
 | cons a l ih=>
  rcases List.mem_cons.1 h with rfl | h
  {simp[sizes]}
  {have:=ih h; simp[sizes]; omega}
theorem Z0y:deep p<=deeps l:=by
 induction l with
 | nil=>cases h
 | cons a l ih=>
  rcases List.mem_cons.1 h with rfl | h
  {simp[deeps]; omega}
  {have:=ih h; simp[deeps]; omega}
end
theorem Sh.ind {P:Sh->Prop} (h: ∀t,(∀p∈t.parts,P p)->P t) (t:Sh):P t:=by
 have: ∀n t,size t<=n->P t:=by
  intro n;induction n with
  | zero=>intro t ht; have:=Z25 t; omega
  | succ n ih=>
   intro t ht;refine h t (fun p hp=>ih p ?_);have:=Z15 hp;rw[size_eq] at ht;omega
 exact this _ t (Nat.le_refl _)
theorem Z3p (l m:List Sh):sizes (l++m)=sizes l+sizes m:=by
 induction l with
 | nil=>simp[sizes]
 | cons a l ih=>simp[sizes,ih]; omega
theorem Z3q (l m:List Sh):deeps (l++m)=max (deeps l) (deeps m):=by
 induction l with
 | nil=>simp[deeps]
 | cons a l ih=>simp[deeps,ih,Nat.max_assoc]
theorem Z1o {α:Type} {l:List α} {i:Nat} (h:i < l.length):l.take (i+1)=l.take i++ [l[i]'h]:=by rw[List.take_succ_eq_append_getElem h]
section
variable {l : List Sh} {i : Nat} (h : i < l.length)
include l i h
theorem Z1v:sizes (l.take (i+1))=sizes (l.take i)+size (l[i]'h):=by rw[Z1o h,Z3p]; simp[sizes]
theorem Z2W:deeps (l.take (i+1))=max (deeps (l.take i)) (deep (l[i]'h)):=by rw[Z1o h,Z3q]; simp[deeps]
end
theorem Z2X (l:List Sh) (i:Nat):sizes (l.take i)<=sizes l:=by
 have:=Z3p (l.take i) (l.drop i);rw[List.take_append_drop] at this;omega
theorem Z2Y (l:List Sh) (i:Nat):deeps (l.take i)<=deeps l:=by
 have:=Z3q (l.take i) (l.drop i);rw[List.take_append_drop] at this;omega
theorem Z0F (l:List Sh):l.length<=sizes l:=by
 induction l with
 | nil=>simp
 | cons a l ih=>have:=Z25 a; simp[sizes]; omega
theorem Z1p (t:Sh):deep t<=size t:=by
 induction t using Sh.ind with
 | h t ih=>
  rw[Z0h,size_eq];have: ∀l:List Sh,(∀p∈l,deep p<=size p)->deeps l<=sizes l:=by
   intro l;induction l with
   | nil=>simp[deeps]
   | cons a l ihl=>
    intro h;have h1:=h a (by simp);have h2:=ihl (fun p hp=>h p (by simp[hp]));simp[deeps,sizes]; omega
  have:=this _ ih;omega
def sizeTo (m:Nat) (t:Sh):Nat:=min (size t) (m+1)
def noDup:List (List UInt8)->Bool
 | []=>true
 | x::l=> !l.contains x&&noDup l
def areNames (l:List (List UInt8)):Bool:=l.all Lex.isName&&noDup l
def plain (s:List UInt8):Bool:=s== [73,110,116]||s== [66,111,111,108]||s== [84,101,120,116]||s== [65,110,121]
def bare (t:Sh):Bool:=t.of_== []&&t.name== []
def fits (t:Sh):Bool:=
 if t.kind=9\/t.kind=10 then Lex.isUpper t.name&&(Lex.isName t.of_||(t.of_== []&&decide (t.kind=9)&& !plain t.name))&&decide (t.names.length=0)&&decide (t.parts.length=0)
 else if bare t=false then false
 else if t.kind=6\/t.kind=7 then areNames t.names&&decide (t.names.length=t.parts.length)
 else if 0 < t.names.length then false
 else if t.kind=8 then decide (1<=t.parts.length)
 else if t.kind=5 then decide (t.parts.length=1)
 else decide (1<=t.kind)&&decide (t.kind<=4)&&decide (t.parts.length=0)
mutual
def right:Sh->Bool
 | ⟨k,o,n,ns,ps⟩=>fits ⟨k,o,n,ns,ps⟩&&rights ps
def rights:List Sh->Bool
 | []=>true
 | p::ps=>right p&&rights ps
end
theorem Z1g (t:Sh):right t=(fits t&&rights t.parts):=by cases t; rfl
theorem Z1w (l:List Sh):rights l=l.all right:=by
 induction l with
 | nil=>rfl
 | cons a l ih=>simp[rights,ih]
def check (t:Sh):Int:=if 400 < size t then 3 else if 40 < deep t then 91 else if right t=false then 70 else 0
abbrev Fld:=List UInt8×Sh
def ins (x:Fld):List Fld->List Fld
 | []=> [x]
 | y::l=>if y.1 < x.1 then y::ins x l else x::y::l
def sortF (l:List Fld):List Fld:=l.foldl (fun a x=>ins x a) []
mutual
def sorted:Sh->Sh
 | ⟨k,o,n,ns,ps⟩=>if ns= [] then ⟨k,o,n,[],sorteds ps⟩ else ⟨k,o,n,(sortF (ns.zip (sorteds ps))).map Prod.fst,(sortF (ns.zip (sorteds ps))).map Prod.snd⟩
def sorteds:List Sh->List Sh
 | []=> []
 | p::ps=>sorted p::sorteds ps
end
theorem Z6C (l:List Sh):sorteds l=l.map sorted:=by
 induction l with
 | nil=>rfl
 | cons a l ih=>simp[sorteds,ih]
theorem Z09 (t:Sh):sorted t=if t.names= [] then ⟨t.kind,t.of_,t.name,[],t.parts.map sorted⟩ else ⟨t.kind,t.of_,t.name,(sortF (t.names.zip (t.parts.map sorted))).map Prod.fst,(sortF (t.names.zip (t.parts.map sorted))).map Prod.snd⟩:=by
 cases t with
 | mk k o n ns ps=>rw[<-Z6C]; rfl
mutual
def eqB:Sh->Sh->Bool
 | ⟨k,o,n,ns,ps⟩,⟨k',o',n',ns',ps'⟩=>k==k'&&o==o'&&n==n'&&ns==ns'&&eqs ps ps'
def eqs:List Sh->List Sh->Bool
 | [],[]=>true
 | p::ps,q::qs=>eqB p q&&eqs ps qs
 | [],_::_=>false
 | _::_,[]=>false
end
theorem Z99 (t u:Sh):eqB t u=(t.kind==u.kind&&t.of_==u.of_&&t.name==u.name&&t.names==u.names&&eqs t.parts u.parts):=by cases t; cases u; rfl
theorem Z4j {l:List Sh} (h: ∀p∈l,∀u,eqB p u=true ↔ p=u): ∀m,eqs l m=true ↔ l=m:=by
 induction l with
 | nil=>intro m; cases m <;> simp[eqs]
 | cons a l ih=>
  intro m;cases m with
  | nil=>simp[eqs]
  | cons b m=>simp[eqs,h a (by simp) b,ih (fun p hp=>h p (by simp[hp])) m]
theorem Z2K (t u:Sh):eqB t u=true ↔ t=u:=by
 induction t using Sh.ind generalizing u with
 | h t ih=>
  rw[Z99];cases t; cases u;simp[Z4j ih,and_assoc]
theorem Z7A (l m:List Sh):eqs l m=true ↔ l=m:=Z4j (fun p _ u=>Z2K p u) m
theorem Z2Z (t:Sh):eqB t t=true:=(Z2K t t).2 rfl
theorem Z4O {t u:Sh} (h:t≠u):eqB t u=false:=by
 cases e:eqB t u with
 | false=>rfl
 | true=>exact absurd ((Z2K t u).1 e) h
def same (t u:Sh):Bool:=decide (check t=0)&&decide (check u=0)&&eqB (sorted t) (sorted u)
def field (n t:List UInt8):List UInt8:=n++ [58,32]++t
def fields (ns ts:List (List UInt8)):List (List UInt8):=if ns= [] then ts else List.zipWith field ns ts
def named (t:Sh):List UInt8:=if t.of_= [] then t.name else t.of_++ [47]++t.name
def join (sep:List UInt8) (l:List (List UInt8)):List UInt8:=sep.intercalate l
def textOf (k:Int) (o n:List UInt8) (ns ts:List (List UInt8)):List UInt8:=
 if k=1 then [73,110,116] else if k=2 then [66,111,111,108] else if k=3 then [84,101,120,116] else if k=4 then [65,110,121]
 else if k=5 then [91]++ts.headD []++ [93]
 else if k=6 then [123]++join [44,32] (fields ns ts)++ [125]
 else if k=7 then [60]++join [32,124,32] (fields ns ts)++ [62]
 else if k=8 then [40]++join [44,32] ts.dropLast++ [41,32,45,62,32]++ts.getLastD []
 else if o= [] then n else o++ [47]++n
mutual
def text:Sh->List UInt8
 | ⟨k,o,n,ns,ps⟩=>textOf k o n ns (texts ps)
def texts:List Sh->List (List UInt8)
 | []=> []
 | p::ps=>text p::texts ps
end
end
end Shp
namespace Go.Proofs.YtchklpedlbkgaaaDoor
section
open Go.RowKit
theorem Z0E {B:Nat} {a w:World} (h:Below B a w) (n:Nat):Below B a (w.drewN n):=⟨h.os,h.tape,h.output,h.size,h.block⟩
abbrev Y9 (f:FuncId) (a:Array Value) (w:World) (v:Value):Prop:=Calls Tryd.prog f a w fun e w'=>e= .returned v/\Below w.heap.size w w'
abbrev Ya:Array Value:=#[.int .i64 0,.string ⟨#[]⟩,.string ⟨#[]⟩,.int .i64 0,.slice none 0 0,.slice none 0 0,.slice none 0 0,.slice none 0 0,.int .i64 0]
abbrev Yb:Array Value:=#[.int .i64 0,.string ⟨#[]⟩,.string ⟨#[]⟩,.slice none 0 0,.slice none 0 0]
abbrev Yc:Array Value:=#[.int .i64 0,.int .i64 0]
abbrev Yd:Array Value:=#[.int .i64 0,.string ⟨#[]⟩,.int .i64 0]
theorem Y1 {P:Prop} (h:P):Hid P:=Lib.hid h
theorem Y2 {B:Nat} {w:World}:Below B w w:=Below.refl _ _
section
variable {k n : Int} (m : Int) (h : k = n)
include k n m h
theorem Y3 (e: (n==m)=false): (k==m)=false:=by rw[h]; exact e
theorem Y4 (e: (n==m)=true): (k==m)=true:=by rw[h]; exact e
theorem Y5 (e: (n !=m)=false): (k !=m)=false:=by rw[h]; exact e
theorem Y6 (e: (n !=m)=true): (k !=m)=true:=by rw[h]; exact e
end
theorem Z0z (l:List UInt8): (⟨l.toArray⟩:ByteArray).size=l.length:=by simp[ByteArray.size]
theorem Z2L {B:Nat} {w w':World} (h:Below B w w') (hB:w.heap.size<=B) (row:Option Nat):w.grownBy w' row:=
 ⟨h.os,h.tape,h.output,h.size,fun i hi _=>h.block i (Nat.lt_of_lt_of_le hi hB)⟩
theorem Z02 {w W w':World} (h:Below w.heap.size w W) (hb:Below W.heap.size W w'):Below w.heap.size w w':=h.trans (hb.mono h.size)
theorem Z0d {w W:World} (h:Below w.heap.size w W) (o:Obj):Below w.heap.size w (W.alloc o):=h.alloc h.size o
theorem Z00 (w:World) (o:Obj):Below w.heap.size w (w.alloc o):=(Below.refl _ _).alloc (Nat.le_refl _) _
theorem Z3K: ∀(x y:List UInt8),Op.bytesLess x y=decide (x < y)
 | x,[]=>by simp[Op.bytesLess]
 | [],_::_=>by simp[Op.bytesLess]
 | a::x,b::y=>by
  rw[Op.bytesLess,Z3K x y,Bool.eq_iff_iff];simp[List.cons_lt_cons_iff]
def Strs (w:World) (B:Nat) (A:Option Addr) (ss:List ByteArray):Prop:=
 ss.length=0\/ ∃b off,A=some ⟨b,off,none⟩/\b < B/\ ∀i (h:i < ss.length),w.cell? ⟨b,off+i,none⟩=some (.string (ss[i]'h))
theorem Strs.keep {w w':World} {B B':Nat} {A:Option Addr} {ss:List ByteArray} (h:Strs w B A ss) (hb:Below B' w w') (hB:B<=B'):Strs w' B A ss:=by
 rcases h with h | ⟨b,off,hA,hlt,hc⟩
 {exact Or.inl h}
 {exact Or.inr ⟨b,off,hA,hlt,fun i hi=>(hb.cell (p:=⟨b,off+i,none⟩) (Nat.lt_of_lt_of_le hlt hB)).trans (hc i hi)⟩}
theorem Strs.more {w:World} {B B':Nat} {A:Option Addr} {ss:List ByteArray} (h:Strs w B A ss) (hB:B<=B'):Strs w B' A ss:=by
 rcases h with h | ⟨b,off,hA,hlt,hc⟩
 {exact Or.inl h}
 {exact Or.inr ⟨b,off,hA,Nat.lt_of_lt_of_le hlt hB,hc⟩}
theorem Strs.next {w w':World} {A:Option Addr} {ss:List ByteArray} (h:Strs w w.heap.size A ss) (hb:Below w.heap.size w w'):Strs w' w'.heap.size A ss:=
 (h.keep hb (Nat.le_refl _)).more hb.size
theorem Z1x {w:World} {b o:Nat} {v:Value} (h:w.cell? ⟨b,o,none⟩=some v):b < w.heap.size:=by
 rcases Nat.lt_or_ge b w.heap.size with h' | h'
 {exact h'}
 {simp[World.cell?,Array.getElem?_eq_none h'] at h}
theorem Z3e {w:World} {a:Addr} {ss:List ByteArray} {len:Nat} (hc: ∀i,i < ss.length->w.cell? (a.add i)=some (.string (ss.getD i ByteArray.empty))):Strs w w.heap.size (some a) (ss.take len):=by
 by_cases h0: (ss.take len).length=0
 {exact Or.inl h0}
 {have hpos:0 < ss.length:=by rw[List.length_take] at h0; omega
  obtain ⟨b,off,spot⟩:=a;have h1:=hc 0 hpos;have hspot:spot=none:=by simpa[Addr.add] using World.cell?_spot h1
  subst hspot;refine Or.inr ⟨b,off,rfl,Z1x (o:=off) (by simpa[Addr.add] using h1),fun i hi=> ?_⟩;rw[List.length_take] at hi;have hplain: (⟨b,off,none⟩:Addr).add i=⟨b,off+i,none⟩:=by unfold Addr.add; split <;> simp_all
  rw[<-hplain,hc i (by omega),List.getElem_take];simp[List.getD,List.getElem?_eq_getElem (show i < ss.length by omega)]}
def strs (l:List (List UInt8)):List ByteArray:=l.map fun p=>⟨p.toArray⟩
end
end Go.Proofs.YtchklpedlbkgaaaDoor
namespace Lex
theorem Z7X {p:UInt8->Bool}: ∀ {s:List UInt8} {n:Nat},n<=s.length->(∀j (hj:j < s.length),j < n->p (s[j]'hj)=true)->(∀(h:n < s.length),p (s[n]'h)=false)->(s.takeWhile p).length=n
 | [],n,h,_,_=>by simp at h; simp[h]
 | x::r,0,_,_,h=>by
  have:=h (by simp);simp at this;rw[List.takeWhile_cons_of_neg (by simp[this])]; rfl
 | x::r,n+1,h1,h2,h3=>by
  have hx:=h2 0 (by simp) (by omega);simp at hx;rw[List.takeWhile_cons_of_pos hx,List.length_cons,Z7X (s:=r) (n:=n) (by simpa using h1) (fun j hj hn=>by
   have:=h2 (j+1) (by simpa using hj) (by omega);simpa using this) (fun h=>by
   have:=h3 (by simpa using h);simpa using this)]
def isIn (s:List UInt8) (l:List (List UInt8)):Bool:=l.contains s
theorem Z5E {p:UInt8->Bool}: ∀ {s:List UInt8},(s.takeWhile p).length=s.length ↔ s.all p=true
 | []=>by simp
 | x::r=>by
  by_cases hx:p x=true
  {rw[List.takeWhile_cons_of_pos hx,List.length_cons,List.length_cons,List.all_cons,hx,Bool.true_and, <-Z5E (s:=r)]; omega}
  {rw[List.takeWhile_cons_of_neg hx]; simp[hx]}
end Lex
namespace Go.Proofs.YtchklpedlbkgaaaDoor
open Go.RowKit
section
variable (c : UInt8) (w : World)
include c w
theorem Z0T:
 Calls Tryd.prog 83 #[.int .u8 (c.toNat:Int)] w fun e w'=>e= .returned (.bool (Lex.small c))/\w=w':=by
 have hlt:=c.toNat_lt;have H:c.toNat<=96\/(97<=c.toNat/\c.toNat<=122)\/123<=c.toNat:=by omega
 have HB:Hid (Lex.small c=(decide (97<=c.toNat)&&decide (c.toNat<=122))):=Y1 rfl;obtain ⟨n,hn⟩: ∃n,n=c.toNat:=⟨_,rfl⟩;rw[<-hn] at H HB hlt ⊢;clear hn;rcases H with h1 | ⟨h1,h2⟩ | h1
 {have h3:decide ((97:Int)<=(n:Int))=false:=decide_eq_false (by omega);go_enter Tryd.func83,Tryd.ntmps83;go_wp2;go_ret;exact ⟨by rw[HB.out,decide_eq_false (by omega)]; rfl,rfl⟩}
 {have h3:decide ((n:Int)<=122)=true:=decide_eq_true (by omega);have h4:decide ((97:Int)<=(n:Int))=true:=decide_eq_true (by omega);go_enter Tryd.func83,Tryd.ntmps83;go_wp2;go_ret;exact ⟨by rw[HB.out,decide_eq_true h1,decide_eq_true h2]; rfl,rfl⟩}
 {have h3:decide ((n:Int)<=122)=false:=decide_eq_false (by omega);have h4:decide ((97:Int)<=(n:Int))=true:=decide_eq_true (by omega);go_enter Tryd.func83,Tryd.ntmps83;go_wp2;go_ret;exact ⟨by rw[HB.out,decide_eq_false (p:=n<=122) (by omega),Bool.and_false]; rfl,rfl⟩}
theorem Z11:
 Calls Tryd.prog 86 #[.int .u8 (c.toNat:Int)] w fun e w'=>e= .returned (.bool (Lex.great c))/\w=w':=by
 have hlt:=c.toNat_lt;have H:c.toNat<=64\/(65<=c.toNat/\c.toNat<=90)\/91<=c.toNat:=by omega
 have HB:Hid (Lex.great c=(decide (65<=c.toNat)&&decide (c.toNat<=90))):=Y1 rfl;obtain ⟨n,hn⟩: ∃n,n=c.toNat:=⟨_,rfl⟩;rw[<-hn] at H HB hlt ⊢;clear hn;rcases H with h1 | ⟨h1,h2⟩ | h1
 {have h3:decide ((65:Int)<=(n:Int))=false:=decide_eq_false (by omega);go_enter Tryd.func86,Tryd.ntmps86;go_wp2;go_ret;exact ⟨by rw[HB.out,decide_eq_false (by omega)]; rfl,rfl⟩}
 {have h3:decide ((n:Int)<=90)=true:=decide_eq_true (by omega);have h4:decide ((65:Int)<=(n:Int))=true:=decide_eq_true (by omega);go_enter Tryd.func86,Tryd.ntmps86;go_wp2;go_ret;exact ⟨by rw[HB.out,decide_eq_true h1,decide_eq_true h2]; rfl,rfl⟩}
 {have h3:decide ((n:Int)<=90)=false:=decide_eq_false (by omega);have h4:decide ((65:Int)<=(n:Int))=true:=decide_eq_true (by omega);go_enter Tryd.func86,Tryd.ntmps86;go_wp2;go_ret;exact ⟨by rw[HB.out,decide_eq_false (p:=n<=90) (by omega),Bool.and_false]; rfl,rfl⟩}
theorem Z2r:
 Calls Tryd.prog 93 #[.int .u8 (c.toNat:Int)] w fun e w'=>e= .returned (.bool (Lex.digit c))/\w=w':=by
 have hlt:=c.toNat_lt;have H:c.toNat<=47\/(48<=c.toNat/\c.toNat<=57)\/58<=c.toNat:=by omega
 have HB:Hid (Lex.digit c=(decide (48<=c.toNat)&&decide (c.toNat<=57))):=Y1 rfl;obtain ⟨n,hn⟩: ∃n,n=c.toNat:=⟨_,rfl⟩;rw[<-hn] at H HB hlt ⊢;clear hn;rcases H with h1 | ⟨h1,h2⟩ | h1
 {have h3:decide ((48:Int)<=(n:Int))=false:=decide_eq_false (by omega);go_enter Tryd.func93,Tryd.ntmps93;go_wp2;go_ret;exact ⟨by rw[HB.out,decide_eq_false (by omega)]; rfl,rfl⟩}
 {have h3:decide ((n:Int)<=57)=true:=decide_eq_true (by omega);have h4:decide ((48:Int)<=(n:Int))=true:=decide_eq_true (by omega);go_enter Tryd.func93,Tryd.ntmps93;go_wp2;go_ret;exact ⟨by rw[HB.out,decide_eq_true h1,decide_eq_true h2]; rfl,rfl⟩}
 {have h3:decide ((n:Int)<=57)=false:=decide_eq_false (by omega);have h4:decide ((48:Int)<=(n:Int))=true:=decide_eq_true (by omega);go_enter Tryd.func93,Tryd.ntmps93;go_wp2;go_ret;exact ⟨by rw[HB.out,decide_eq_false (p:=n<=57) (by omega),Bool.and_false]; rfl,rfl⟩}
end
section
variable {s : List UInt8} {l : List (List UInt8)}
include s l
theorem Zax {i:Nat} (hi:i < l.length) (h: (s==l[i]'hi)=true):Lex.isIn s l=true:=by
 unfold Lex.isIn;rw[List.contains_iff_mem,beq_iff_eq.1 h]; exact List.getElem_mem _
theorem Zay (h: ∀j (hj:j < l.length),(s==l[j]'hj)=false):Lex.isIn s l=false:=by
 unfold Lex.isIn;cases hq:l.contains s with
 | false=>rfl
 | true=>
  obtain ⟨j,hj,e⟩:=List.mem_iff_getElem.1 (List.contains_iff_mem.1 hq);have:=h j hj;rw[e] at this; simp at this
end
theorem Z7Y (s:List UInt8) (A:Option Addr) (cap:Nat) (l:List (List UInt8)) (w:World) (hA:Strs w w.heap.size A (strs l)) (hl:l.length<=1000000):
 Calls Tryd.prog 94 #[.string ⟨s.toArray⟩,.slice A l.length cap] w fun e w'=>e= .returned (.bool (Lex.isIn s l))/\w=w':=by
 have HA:=Y1 hA;have hsl: (strs l).length=l.length:=by simp[strs]
 clear hA;go_enter Tryd.func94,Tryd.ntmps94
 go_wp2_with fail
 go_loopw [5] (fun ii wr=> ∃i:Nat,ii= .int .i64 i/\i<=l.length/\Hid (∀j (hj:j < l.length),j < i->(s==l[j]'hj)=false)/\w=wr)
  (fun i _=>l.length - (intOf i).toNat)
 case atStart=>exact ⟨0,rfl,Nat.zero_le _,Y1 (fun j _ hj=>absurd hj (by omega)),rfl⟩
 case round=>
  obtain ⟨i,rfl,hi,HN,rfl⟩:=hrel;by_cases hlt:i < l.length
  {have hi1: (i:Int) < (l.length:Int):=by omega
   rcases HA.out with h0 | ⟨g,off,rfl,hg,hc⟩
   {omega}
   {have hcell:=hc i (by omega);have e1: (strs l)[i]'(by omega)=⟨(l[i]'hlt).toArray⟩:=by simp[strs]
    rw[e1] at hcell;obtain ⟨p,hp⟩: ∃p,p=l[i]'hlt:=⟨_,rfl⟩;rw[<-hp] at hcell;have HP:=Y1 hp;clear hc e1 hp;cases hq: (s==p)
    {have HM:Hid ((s==l[i]'hlt)=false):=Y1 (by rw[<-HP.out]; exact hq);go_wp2
     go_roundw
     case rel=>exact ⟨i+1,by go_num,by omega,Y1 (fun j hj hji=>by
      rcases Nat.lt_succ_iff_lt_or_eq.1 hji with h | rfl
      {exact HN.out j hj h}
      · exact HM.out),trivial⟩
     case measure=>simp[intOf]; omega}
    {have HM:Hid (Lex.isIn s l=true):=Y1 (Zax hlt (by rw[<-HP.out]; exact hq));go_wp2;go_ret;exact ⟨by rw[HM.out]; rfl,rfl⟩}}}
  {have hi1: ¬(i:Int) < (l.length:Int):=by omega
   have HM:Hid (Lex.isIn s l=false):=Y1 (Zay (fun j hj=>HN.out j hj (by omega)));go_wp2;go_ret;exact ⟨by rw[HM.out]; rfl,rfl⟩}
theorem Z9c (W:World) (l:List (List UInt8)) (g:Nat) (hg:g=W.heap.size):Strs (W.alloc (.cells ((strs l).map Value.string).toArray 9)) (W.alloc (.cells ((strs l).map Value.string).toArray 9)).heap.size (some ⟨g,0,none⟩) (strs l):=by
 subst hg;refine Or.inr ⟨W.heap.size,0,rfl,by simp,fun i hi=> ?_⟩;rw[Nat.zero_add];simp[go_sem,hi]
theorem Z7Z (s:List UInt8) (w:World):
 Y9 85 #[.string ⟨s.toArray⟩] w (.bool (Lex.isWord s)):=by
 have HS:Hid (Strs (w.alloc (.cells #[.string ⟨#[109,111,100,117,108,101]⟩,.string ⟨#[105,109,112,111,114,116]⟩,.string ⟨#[112,105,110]⟩,.string ⟨#[114,97,110,103,101]⟩,.string ⟨#[116,121,112,101]⟩,.string ⟨#[111,112,97,113,117,101]⟩,.string ⟨#[108,101,116]⟩,.string ⟨#[105,110]⟩,.string ⟨#[101,120,112,111,114,116]⟩,.string ⟨#[102,117,110]⟩,.string ⟨#[105,102]⟩,.string ⟨#[116,104,101,110]⟩,.string ⟨#[101,108,115,101]⟩,.string ⟨#[99,97,115,101]⟩,.string ⟨#[111,102]⟩,.string ⟨#[97,115]⟩,.string ⟨#[110,101,119]⟩,.string ⟨#[114,97,119]⟩,.string ⟨#[116,114,117,101]⟩,.string ⟨#[102,97,108,115,101]⟩] 9)) (w.alloc (.cells #[.string ⟨#[109,111,100,117,108,101]⟩,.string ⟨#[105,109,112,111,114,116]⟩,.string ⟨#[112,105,110]⟩,.string ⟨#[114,97,110,103,101]⟩,.string ⟨#[116,121,112,101]⟩,.string ⟨#[111,112,97,113,117,101]⟩,.string ⟨#[108,101,116]⟩,.string ⟨#[105,110]⟩,.string ⟨#[101,120,112,111,114,116]⟩,.string ⟨#[102,117,110]⟩,.string ⟨#[105,102]⟩,.string ⟨#[116,104,101,110]⟩,.string ⟨#[101,108,115,101]⟩,.string ⟨#[99,97,115,101]⟩,.string ⟨#[111,102]⟩,.string ⟨#[97,115]⟩,.string ⟨#[110,101,119]⟩,.string ⟨#[114,97,119]⟩,.string ⟨#[116,114,117,101]⟩,.string ⟨#[102,97,108,115,101]⟩] 9)).heap.size (some ⟨w.heap.size,0,none⟩) (strs Lex.words)):=Y1 (Z9c w Lex.words _ rfl);have hb:=Z00 w (.cells #[.string ⟨#[109,111,100,117,108,101]⟩,.string ⟨#[105,109,112,111,114,116]⟩,.string ⟨#[112,105,110]⟩,.string ⟨#[114,97,110,103,101]⟩,.string ⟨#[116,121,112,101]⟩,.string ⟨#[111,112,97,113,117,101]⟩,.string ⟨#[108,101,116]⟩,.string ⟨#[105,110]⟩,.string ⟨#[101,120,112,111,114,116]⟩,.string ⟨#[102,117,110]⟩,.string ⟨#[105,102]⟩,.string ⟨#[116,104,101,110]⟩,.string ⟨#[101,108,115,101]⟩,.string ⟨#[99,97,115,101]⟩,.string ⟨#[111,102]⟩,.string ⟨#[97,115]⟩,.string ⟨#[110,101,119]⟩,.string ⟨#[114,97,119]⟩,.string ⟨#[116,114,117,101]⟩,.string ⟨#[102,97,108,115,101]⟩] 9)
 have ha:=fun W h=>Z7Y s (some ⟨w.heap.size,0,none⟩) 20 Lex.words W h (by decide);have HI:Hid (Lex.isWord s=Lex.isIn s Lex.words):=Y1 rfl;rw[show Lex.words.length=20 from rfl] at ha;go_enter Tryd.func85,Tryd.ntmps85
 go_wp2_with fail
 refine (ha _ HS.out).mono ?_;rintro e w1 ⟨rfl,rfl⟩;go_wp2;go_ret;exact ⟨by rw[HI.out]; rfl,hb⟩
theorem Z9d {c:UInt8}:Lex.nameB c=(Lex.small c||Lex.great c||Lex.digit c||c==95):=rfl
theorem Z4k (s:ByteArray) (n:Nat) (h:n < s.size) (W:World): (Instr.index 9 (.string s) (.int .i64 (n:Int))).run Tryd.prog W= .ok (.int .u8 (s[n]'h).toNat) W:=by
 rw[run_index_string (P:=Tryd.prog) _ _ _ _ _ Tryd.underlying9,dif_pos ⟨by omega,by omega⟩];simp
theorem Z7B (c:UInt8): ((c.toNat:Int)==95)=(c==95):=by
 rw[Bool.eq_iff_iff,beq_iff_eq,beq_iff_eq];constructor
 {intro h; apply UInt8.toNat_inj.1; show c.toNat=95; omega}
 {rintro rfl; rfl}
theorem Z9e (s:ByteArray) (hs:s.size<=9223372036854775806) (w:World):
 Calls Tryd.prog 84 #[.string s] w fun e w'=>e= .returned (.int .i64 (s.data.toList.takeWhile Lex.nameB).length)/\w=w':=by
 have hsl:s.data.toList.length=s.size:=(Lib.size_eq s).symm;go_enter Tryd.func84,Tryd.ntmps84
 go_wp2_with fail
 go_loopw [3] (fun ii wr=> ∃n:Nat,ii= .int .i64 n/\n<=s.size/\Hid (∀j (hj:j < s.data.toList.length),j < n->Lex.nameB (s.data.toList[j]'hj)=true)/\w=wr)
  (fun i _=>s.size - (intOf i).toNat)
 case atStart=>exact ⟨0,rfl,Nat.zero_le _,Y1 (fun j _ hj=>absurd hj (by omega)),rfl⟩
 case round=>
  obtain ⟨n,rfl,hn,HN,rfl⟩:=hrel;by_cases hlt:n < s.size
  {have hi1: (n:Int) < (s.size:Int):=by omega
   obtain ⟨c,hc⟩: ∃c,c=s[n]'hlt:=⟨_,rfl⟩;have hcl:s.data.toList[n]'(by omega)=c:=hc.symm;have HCL:=Y1 hcl;have hidx: ∀W,(Instr.index 9 (.string s) (.int .i64 (n:Int))).run Tryd.prog W= .ok (.int .u8 c.toNat) W:=fun W=>by
    rw[hc]; exact Z4k s n hlt W
   have hcn:=c.toNat_lt;have h95:=Z7B c;have HB:=Y1 (@Z9d c);clear hcl hc;have yes:Lex.nameB c=true->Hid (∀j (hj:j < s.data.toList.length),j < n+1->Lex.nameB (s.data.toList[j]'hj)=true):=fun h=>Y1 (fun j hj hji=>by
    rcases Nat.lt_succ_iff_lt_or_eq.1 hji with h' | rfl
    {exact HN.out j hj h'}
    · rw[HCL.out]; exact h)
   have no:Lex.nameB c=false->Hid ((s.data.toList.takeWhile Lex.nameB).length=n):=fun h=>Y1 (Lex.Z7X (by omega) HN.out (fun h'=>by rw[HCL.out]; exact h));cases h1:Lex.small c
   {cases h2:Lex.great c
    {cases h3:Lex.digit c
     {cases h4: (c==95)
      {rw[h4] at h95;have HM:=no (by rw[HB.out,h1,h2,h3,h4]; rfl);clear yes no
       go_wp2_with fail
       refine (Z0T c _).mono ?_;rintro e w2 ⟨rfl,rfl⟩;rw[h1]
       go_wp2_with fail
       refine (Z11 c _).mono ?_;rintro e w2 ⟨rfl,rfl⟩;rw[h2]
       go_wp2_with fail
       refine (Z2r c _).mono ?_;rintro e w2 ⟨rfl,rfl⟩;rw[h3];go_wp2;go_ret;exact ⟨by rw[HM.out]; rfl,rfl⟩}
      {rw[h4] at h95;have HM:=yes (by rw[HB.out,h1,h2,h3,h4]; rfl);clear yes no
       go_wp2_with fail
       refine (Z0T c _).mono ?_;rintro e w2 ⟨rfl,rfl⟩;rw[h1]
       go_wp2_with fail
       refine (Z11 c _).mono ?_;rintro e w2 ⟨rfl,rfl⟩;rw[h2]
       go_wp2_with fail
       refine (Z2r c _).mono ?_;rintro e w2 ⟨rfl,rfl⟩;rw[h3];go_wp2
       go_roundw
       case rel=>exact ⟨n+1,by go_num,by omega,HM,trivial⟩
       case measure=>simp[intOf]; omega}}
     {have HM:=yes (by rw[HB.out,h1,h2,h3]; rfl);clear yes no
      go_wp2_with fail
      refine (Z0T c _).mono ?_;rintro e w2 ⟨rfl,rfl⟩;rw[h1]
      go_wp2_with fail
      refine (Z11 c _).mono ?_;rintro e w2 ⟨rfl,rfl⟩;rw[h2]
      go_wp2_with fail
      refine (Z2r c _).mono ?_;rintro e w2 ⟨rfl,rfl⟩;rw[h3];go_wp2
      go_roundw
      case rel=>exact ⟨n+1,by go_num,by omega,HM,trivial⟩
      case measure=>simp[intOf]; omega}}
    {have HM:=yes (by rw[HB.out,h1,h2]; rfl);clear yes no
     go_wp2_with fail
     refine (Z0T c _).mono ?_;rintro e w2 ⟨rfl,rfl⟩;rw[h1]
     go_wp2_with fail
     refine (Z11 c _).mono ?_;rintro e w2 ⟨rfl,rfl⟩;rw[h2];go_wp2
     go_roundw
     case rel=>exact ⟨n+1,by go_num,by omega,HM,trivial⟩
     case measure=>simp[intOf]; omega}}
   {have HM:=yes (by rw[HB.out,h1]; rfl);clear yes no
    go_wp2_with fail
    refine (Z0T c _).mono ?_;rintro e w2 ⟨rfl,rfl⟩;rw[h1];go_wp2
    go_roundw
    case rel=>exact ⟨n+1,by go_num,by omega,HM,trivial⟩
    case measure=>simp[intOf]; omega}}
  {have hi1: ¬(n:Int) < (s.size:Int):=by omega
   have HM:Hid ((s.data.toList.takeWhile Lex.nameB).length=n):=Y1 (Lex.Z7X (by omega) HN.out (fun h'=>absurd h' (by omega)));go_wp2;go_ret;exact ⟨by rw[HM.out]; rfl,rfl⟩}
end Go.Proofs.YtchklpedlbkgaaaDoor
namespace Go.Proofs.YtchklpedlbkgaaaDoor
open Go.RowKit Shp
theorem Z0Y {k:IntKind} {a b:Int} (h:a=b):Ending.returned (.int k a)= .returned (.int k b):=by rw[h]
theorem Z0j {a b:Bool} (h:a=b):Ending.returned (.bool a)= .returned (.bool b):=by rw[h]
structure Ptr where
 A:Option Addr
 c:Nat
 P:Option Addr
 d:Nat
abbrev Y8 (t:Shp.Sh) (q:Ptr):Array Value:=#[.int .i64 t.kind,.string ⟨t.of_.toArray⟩,.string ⟨t.name.toArray⟩,.slice q.A t.names.length q.c,.slice q.P t.parts.length q.d]
def Sh5 (w:World) (g o:Nat) (t:Sh) (q:Ptr):Prop:=
 w.cell? ⟨g,o,none⟩=some (.int .i64 t.kind)/\w.cell? ⟨g,o+1,none⟩=some (.string ⟨t.of_.toArray⟩)/\w.cell? ⟨g,o+2,none⟩=some (.string ⟨t.name.toArray⟩)/\
 w.cell? ⟨g,o+3,none⟩=some (.slice q.A t.names.length q.c)/\w.cell? ⟨g,o+4,none⟩=some (.slice q.P t.parts.length q.d)
theorem Sh5.of {w w':World} {g o:Nat} {t:Sh} {q:Ptr} (h:Sh5 w g o t q) (hc: ∀k,w'.cell? ⟨g,k,none⟩=w.cell? ⟨g,k,none⟩):Sh5 w' g o t q:=by
 obtain ⟨h0,h1,h2,h3,h4⟩:=h;exact ⟨(hc _).trans h0,(hc _).trans h1,(hc _).trans h2,(hc _).trans h3,(hc _).trans h4⟩
theorem Sh5.keep {w w':World} {g o B:Nat} {t:Sh} {q:Ptr} (h:Sh5 w g o t q) (hg:g < B) (hb:Below B w w'):Sh5 w' g o t q:=
 h.of (fun k=>hb.cell (p:=⟨g,k,none⟩) hg)
structure Small (t:Sh) (q:Ptr):Prop where
 o:t.of_.length<=9223372036854775807
 n:t.name.length<=9223372036854775807
 ns: ∀x∈t.names,x.length<=9223372036854775807
 l:t.names.length<=9223372036854775807
 m:t.parts.length<=9223372036854775807
 c:t.names.length<=q.c
 d:t.parts.length<=q.d
 A0:q.A=none->q.c=0
 P0:q.P=none->q.d=0
inductive ShAt (w:World) (B:Nat):Ptr->Sh->Prop
 | mk (q:Ptr) (t:Sh) (g off:Nat) (qs:Nat->Ptr) (hs:Small t q) (hn:Strs w B q.A (strs t.names)) (hp:t.parts.length=0\/q.P=some ⟨g,off,none⟩/\g < B)
  (hc: ∀i (h:i < t.parts.length),Sh5 w g (off+i * 5) (t.parts[i]'h) (qs i)) (hr: ∀i (h:i < t.parts.length),ShAt w B (qs i) (t.parts[i]'h)):ShAt w B q t
theorem ShAt.small {w:World} {B:Nat} {q:Ptr} {t:Sh} (h:ShAt w B q t):Small t q:=by cases h; assumption
theorem ShAt.strs {w:World} {B:Nat} {q:Ptr} {t:Sh} (h:ShAt w B q t):Strs w B q.A (strs t.names):=by cases h; assumption
theorem ShAt.part {w:World} {B:Nat} {q:Ptr} {t:Sh} (h:ShAt w B q t):t.parts.length=0\/ ∃(g off:Nat) (qs:Nat->Ptr),q.P=some ⟨g,off,none⟩/\g < B/\(∀i (h:i < t.parts.length),Sh5 w g (off+i * 5) (t.parts[i]'h) (qs i))/\ ∀i (h:i < t.parts.length),ShAt w B (qs i) (t.parts[i]'h):=by
 cases h with
 | mk _ _ g off qs hs hn hp hc hr=>
  rcases hp with hp | ⟨hp,hg⟩
  {exact Or.inl hp}
  {exact Or.inr ⟨g,off,qs,hp,hg,hc,hr⟩}
theorem ShAt.of {w w':World} {B B':Nat} {q:Ptr} {t:Sh} (h:ShAt w B q t) (hB:B<=B') (hc: ∀g k,g < B->w'.cell? ⟨g,k,none⟩=w.cell? ⟨g,k,none⟩):ShAt w' B' q t:=by
 induction h with
 | mk q t g off qs hs hn hp hc' hr ih=>
  refine .mk q t g off qs hs ?_ ?_ ?_ ih
  {rcases hn with h | ⟨b,o,hA,hlt,hcc⟩
   {exact Or.inl h}
   {exact Or.inr ⟨b,o,hA,Nat.lt_of_lt_of_le hlt hB,fun i hi=>(hc b _ hlt).trans (hcc i hi)⟩}}
  {rcases hp with h | ⟨h,hg⟩
   {exact Or.inl h}
   {exact Or.inr ⟨h,Nat.lt_of_lt_of_le hg hB⟩}}
  {intro i hi;rcases hp with h | ⟨h,hg⟩
   {omega}
   {exact (hc' i hi).of (fun k=>hc g k hg)}}
theorem ShAt.keep {w w':World} {B B':Nat} {q:Ptr} {t:Sh} (h:ShAt w B q t) (hb:Below B' w w') (hB:B<=B'):ShAt w' B q t:=
 h.of (Nat.le_refl _) (fun g k hg=>hb.cell (p:=⟨g,k,none⟩) (Nat.lt_of_lt_of_le hg hB))
theorem ShAt.more {w:World} {B B':Nat} {q:Ptr} {t:Sh} (h:ShAt w B q t) (hB:B<=B'):ShAt w B' q t:=h.of hB (fun _ _ _=>rfl)
theorem ShAt.next {w w':World} {q:Ptr} {t:Sh} (h:ShAt w w.heap.size q t) (hb:Below w.heap.size w w'):ShAt w' w'.heap.size q t:=(h.keep hb (Nat.le_refl _)).more hb.size
def Box5 (w:World) (g:Nat) (t:Sh) (q:Ptr):Prop:=
 g < w.heap.size/\Sh5 w g 0 t q/\w.frozen? ⟨g,0,none⟩=false/\w.frozen? ⟨g,1,none⟩=false/\w.frozen? ⟨g,2,none⟩=false/\w.frozen? ⟨g,3,none⟩=false/\w.frozen? ⟨g,4,none⟩=false
theorem Box5.keep {W W':World} {g B:Nat} {t:Sh} {q:Ptr} (h:Box5 W g t q) (hg:g < B) (hb:Below B W W'):Box5 W' g t q:=by
 obtain ⟨h0,h1,f0,f1,f2,f3,f4⟩:=h;exact ⟨Nat.lt_of_lt_of_le h0 hb.size,h1.keep hg hb,(hb.frozen (p:=⟨g,0,none⟩) hg).trans f0,(hb.frozen (p:=⟨g,1,none⟩) hg).trans f1,(hb.frozen (p:=⟨g,2,none⟩) hg).trans f2,(hb.frozen (p:=⟨g,3,none⟩) hg).trans f3,(hb.frozen (p:=⟨g,4,none⟩) hg).trans f4⟩
theorem Box5.next {W W':World} {g:Nat} {t:Sh} {q:Ptr} (h:Box5 W g t q) (hb:Below W.heap.size W W'):Box5 W' g t q:=h.keep h.1 hb
theorem Z06 (w:World) (t:Sh) (q:Ptr):Box5 (w.alloc (.cells (Y8 t q) 25)) w.heap.size t q:=
 ⟨by simp,⟨by simp[go_sem],by simp[go_sem],by simp[go_sem],by simp[go_sem],by simp[go_sem]⟩,by simp[go_sem],by simp[go_sem],by simp[go_sem],by simp[go_sem],by simp[go_sem]⟩
theorem Z0o (b off k:Nat): (⟨b,off,none⟩:Addr).add k=⟨b,off+k,none⟩:=by unfold Addr.add; split <;> simp_all
theorem Z9f (ss:List ByteArray):strs (ss.map fun s=>s.data.toList)=ss:=by
 unfold strs;rw[List.map_map]
 conv=>rhs; rw[<-List.map_id ss]
 rfl
section
variable {H : Type} {enc : TypeId × Value -> H} {W : World} {base : Nat} {held : Bool}
theorem Z80 {fuel:Nat} {cs:List Value} {x:DataW H×List MemPlace} (h:DataW.trod enc Tryd.prog W base (fun _=>true) held fuel 22 cs=some x):
 ∃(A:Option Addr) (l:List (List UInt8)) (c:Nat),cs= [.slice A l.length c]/\Strs W W.heap.size A (strs l)/\l.length<=9223372036854775807/\l.length<=c/\(A=none->c=0)/\ ∀y∈l,y.length<=9223372036854775807:=by
 rcases Go.ChangeShapes.open_strings Tryd.underlying22 Tryd.underlying9 (by kernel_rfl) h with ⟨hcs,_⟩ | ⟨a,len,cap,ss,hcs,_,hl,hm,hz,_,hcell,hws⟩
 {exact ⟨none,[],0,hcs,Or.inl rfl,by simp,by simp,fun _=>rfl,by simp⟩}
 {have hz':ss.length=cap:=by simpa using hz
  unfold maxLen at hm;refine ⟨some a,(ss.take len).map (fun s=>s.data.toList),cap, ?_, ?_, ?_, ?_,by simp, ?_⟩
  {rw[hcs,List.length_map,List.length_take,Nat.min_eq_left (by omega)]}
  {rw[Z9f]; exact Z3e hcell}
  {rw[List.length_map,List.length_take]; omega}
  {rw[List.length_map,List.length_take]; omega}
  {intro y hy;obtain ⟨s,hs,rfl⟩:=List.mem_map.1 hy;have:=hws s (List.mem_of_mem_take hs);unfold maxLen at this
   rwa [Lib.size_eq] at this}}
theorem Z30: ∀(fuel:Nat) {cs:List Value} {x:DataW H×List MemPlace},DataW.trod enc Tryd.prog W base (fun _=>true) held fuel 25 cs=some x->
 ∃(t:Sh) (q:Ptr),cs= [.int .i64 t.kind,.string ⟨t.of_.toArray⟩,.string ⟨t.name.toArray⟩,.slice q.A t.names.length q.c,.slice q.P t.parts.length q.d]/\ShAt W W.heap.size q t:=by
 intro fuel;induction fuel using Nat.strongRecOn with
 | _ fuel IH=>
 intro cs x h;obtain ⟨xs,n,hn,_,hlen,hxl,hf⟩:=DataW.trod_struct Tryd.underlying25 h;have hC:Tryd.prog.cellsOf 25=5:=by kernel_rfl
 have c1:Tryd.prog.cellsOf 3=1:=by kernel_rfl
 have c9:Tryd.prog.cellsOf 9=1:=by kernel_rfl
 have c22:Tryd.prog.cellsOf 22=1:=by kernel_rfl
 have c23:Tryd.prog.cellsOf 23=1:=by kernel_rfl
 rw[hC] at hlen
 match cs,hlen with
 | [a0,a1,a2,a3,a4],_=>
  have f0:=hf 0 _ rfl;have f1:=hf 1 _ rfl;have f2:=hf 2 _ rfl;have f3:=hf 3 _ rfl;have f4:=hf 4 _ rfl;have hz:xs.length=5:=hxl;change DataW.trod enc _ W base _ held n 3 (([a0,a1,a2,a3,a4].drop 0).take (Tryd.prog.cellsOf 3))=_ at f0;change DataW.trod enc _ W base _ held n 9 (([a0,a1,a2,a3,a4].drop 1).take (Tryd.prog.cellsOf 9))=_ at f1;change DataW.trod enc _ W base _ held n 9 (([a0,a1,a2,a3,a4].drop 2).take (Tryd.prog.cellsOf 9))=_ at f2;change DataW.trod enc _ W base _ held n 22 (([a0,a1,a2,a3,a4].drop 3).take (Tryd.prog.cellsOf 22))=_ at f3;change DataW.trod enc _ W base _ held n 23 (([a0,a1,a2,a3,a4].drop 4).take (Tryd.prog.cellsOf 23))=_ at f4;rw[c1,List.getElem?_eq_getElem (by omega)] at f0;rw[c9,List.getElem?_eq_getElem (by omega)] at f1 f2;rw[c22,List.getElem?_eq_getElem (by omega)] at f3;rw[c23,List.getElem?_eq_getElem (by omega)] at f4;obtain ⟨b0,hb0,_,_⟩:=DataW.trod_int Tryd.underlying3 f0;obtain ⟨b1,hb1,_,hm1⟩:=DataW.trod_string Tryd.underlying9 f1;obtain ⟨b2,hb2,_,hm2⟩:=DataW.trod_string Tryd.underlying9 f2;obtain ⟨A,l,c,hb3,hS,hl,hlc,hA0,hly⟩:=Z80 f3;unfold maxLen at hm1 hm2;simp at hb0 hb1 hb2 hb3;subst hb0 hb1 hb2 hb3;rcases DataW.trod_slice Tryd.underlying23 f4 with ⟨hb4,_⟩ | ⟨a,len,cap,elems,rest,n2,hn2,hb4,_,hb,hle,hmm,hel,hx,_⟩
  {simp at hb4;subst hb4;exact ⟨⟨b0,b1.data.toList,b2.data.toList,l,[]⟩,⟨A,c,none,0⟩,rfl,
    .mk _ _ 0 0 (fun _=>⟨none,0,none,0⟩) ⟨by rw[<-Lib.size_eq]; exact hm1,by rw[<-Lib.size_eq]; exact hm2,hly,hl,by simp,hlc,by simp,hA0,fun _=>rfl⟩ hS (Or.inl rfl) (fun i h=>absurd h (by simp)) (fun i h=>absurd h (by simp))⟩}
  {simp at hb4;subst hb4;unfold maxLen at hmm;have hv: ∀i,∃u:Sh×Ptr,i < len->W.cell? (a.add (i * 5+0))=some (.int .i64 u.1.kind)/\W.cell? (a.add (i * 5+1))=some (.string ⟨u.1.of_.toArray⟩)/\W.cell? (a.add (i * 5+2))=some (.string ⟨u.1.name.toArray⟩)/\
    W.cell? (a.add (i * 5+3))=some (.slice u.2.A u.1.names.length u.2.c)/\W.cell? (a.add (i * 5+4))=some (.slice u.2.P u.1.parts.length u.2.d)/\ShAt W W.heap.size u.2 u.1:=by
    intro i;by_cases hi:i < len
    {have h1:=hx i hi;rw[hC,List.getElem?_eq_getElem (by omega)] at h1;cases hcs:W.cells? base (a.add (i * 5)) 5 with
     | none=>rw[hcs] at h1; cases h1
     | some cs'=>
      rw[hcs] at h1;obtain ⟨u,q,hu,hat⟩:=IH n2 (by omega) h1;subst hu;obtain ⟨_,hcl,hat'⟩:=World.cells?_some hcs;refine ⟨(u,q),fun _=>⟨?_, ?_, ?_, ?_, ?_,hat⟩⟩
      {rw[<-Go.Deep.add_add]; exact hat' 0 (by omega)}
      {rw[<-Go.Deep.add_add]; exact hat' 1 (by omega)}
      {rw[<-Go.Deep.add_add]; exact hat' 2 (by omega)}
      {rw[<-Go.Deep.add_add]; exact hat' 3 (by omega)}
      {rw[<-Go.Deep.add_add]; exact hat' 4 (by omega)}}
    {exact ⟨(⟨0,[],[],[],[]⟩,⟨none,0,none,0⟩),fun h=>absurd h hi⟩}
   let f:=fun i=>(hv i).choose
   have hf2: ∀i,i < len->W.cell? (a.add (i * 5+0))=some (.int .i64 (f i).1.kind)/\W.cell? (a.add (i * 5+1))=some (.string ⟨(f i).1.of_.toArray⟩)/\W.cell? (a.add (i * 5+2))=some (.string ⟨(f i).1.name.toArray⟩)/\
    W.cell? (a.add (i * 5+3))=some (.slice (f i).2.A (f i).1.names.length (f i).2.c)/\W.cell? (a.add (i * 5+4))=some (.slice (f i).2.P (f i).1.parts.length (f i).2.d)/\ShAt W W.heap.size (f i).2 (f i).1:=fun i=>(hv i).choose_spec
   have hln: ((List.range len).map fun i=>(f i).1).length=len:=by simp
   refine ⟨⟨b0,b1.data.toList,b2.data.toList,l,(List.range len).map fun i=>(f i).1⟩,⟨A,c,some a,cap⟩,by simp, ?_⟩;obtain ⟨b,off,spot⟩:=a;have hsm:Small ⟨b0,b1.data.toList,b2.data.toList,l,(List.range len).map fun i=>(f i).1⟩ ⟨A,c,some ⟨b,off,spot⟩,cap⟩:=
    ⟨by rw[<-Lib.size_eq]; exact hm1,by rw[<-Lib.size_eq]; exact hm2,hly,hl,by simp; omega,hlc,by simp; omega,hA0,fun h=>by cases h⟩
   by_cases h0:len=0
   {exact .mk _ _ 0 0 (fun _=>⟨none,0,none,0⟩) hsm hS (Or.inl (by simp[h0])) (fun i h=>absurd h (by simp[h0])) (fun i h=>absurd h (by simp[h0]))}
   {have h1:=(hf2 0 (by omega)).1;have hspot:spot=none:=by simpa[Addr.add] using World.cell?_spot h1
    subst hspot;have hplain: ∀k,(⟨b,off,none⟩:Addr).add k=⟨b,off+k,none⟩:=fun k=>Z0o b off k;refine .mk _ _ b off (fun i=>(f i).2) hsm hS (Or.inr ⟨rfl, ?_⟩) ?_ ?_
    {rw[hplain] at h1;exact Z1x h1}
    {intro i hi;have hin:i < len:=by simpa using hi
     obtain ⟨g0,g1,g2,g3,g4,_⟩:=hf2 i hin;simp only[hplain] at g0 g1 g2 g3 g4;simp only[List.getElem_map,List.getElem_range];exact ⟨g0,g1,g2,g3,g4⟩}
    {intro i hi;have hin:i < len:=by simpa using hi
     simp only[List.getElem_map,List.getElem_range];exact (hf2 i hin).2.2.2.2.2}}}
end
end Go.Proofs.YtchklpedlbkgaaaDoor
namespace Go.Proofs.YtchklpedlbkgaaaDoor
section
open Go.RowKit Shp
theorem Z1h (l:List (List UInt8)): (strs l).length=l.length:=by simp[strs]
structure TxR (W:World) (g:Nat) (ts:List (List UInt8)):Prop where
 lt:g < W.heap.size
 at_: ∀j (h:j < ts.length),W.cell? ⟨g,j,none⟩=some (.string ⟨(ts[j]'h).toArray⟩)
 fz: ∀o,W.frozen? ⟨g,o,none⟩=false
theorem TxR.keep {W W':World} {g B:Nat} {ts:List (List UInt8)} (h:TxR W g ts) (hg:g < B) (hb:Below B W W'):TxR W' g ts:=
 ⟨Nat.lt_of_lt_of_le h.lt hb.size,fun j hj=>(hb.cell (p:=⟨g,j,none⟩) hg).trans (h.at_ j hj),fun o=>(hb.frozen (p:=⟨g,o,none⟩) hg).trans (h.fz o)⟩
theorem TxR.next {W W':World} {g:Nat} {ts:List (List UInt8)} (h:TxR W g ts) (hb:Below W.heap.size W W'):TxR W' g ts:=h.keep h.lt hb
end
end Go.Proofs.YtchklpedlbkgaaaDoor
namespace Go.Proofs.YtchklpedlbkgaaaDoor
open Go.RowKit
def upd (u:Nat->Value) (i:Nat) (v:Value):Nat->Value:=fun j=>cond (Nat.beq j i) v (u j)
theorem Z0g (u:Nat->Value) (i:Nat) (v:Value):upd u i v i=v:=by simp[upd]
theorem Z01 (u:Nat->Value) {i j:Nat} (v:Value) (h:j≠i):upd u i v j=u j:=by
 have:Nat.beq j i=false:=by cases hb:Nat.beq j i <;> first | rfl | exact absurd (Nat.eq_of_beq_eq_true hb) h
 simp[upd,this]
structure Want where
 ok:Value->World->Prop
 keep: ∀(v:Value) (w w':World),Below w.heap.size w w'->ok v w->ok v w'
theorem Want.mono {T:Want} {v:Value} {w w':World} (hb:Below w.heap.size w w') (h:T.ok v w):T.ok v w':=T.keep v w w' hb h
def Want.val (c:Value):Want:=⟨fun v _=>v=c,fun _ _ _ _ h=>h⟩
def Want.any:Want:=⟨fun _ _=>True,fun _ _ _ _ h=>h⟩
section
variable {P : Program} {ops : Array Oper} {Q : Exit -> Act -> World -> Prop}
def waits (o:Oper) (j:Nat):Bool:=o.after.any fun e=>Region.binds .any e&&e.on==j
def StepAt (P:Program) (ops:Array Oper) (Q:Exit->Act->World->Prop) (A: (Nat->Value)->Act) (T:Nat->Want) (J:World->Prop) (i:Nat):Prop:=
 ∀o,ops[i]? =some o-> ∀(u:Nat->Value) (W:World),J W->(∀j,waits o j=true->(T j).ok (u j) W)->
  wpOp P ops Q i (fun a' w'=> ∃v,a'=A (upd u i v)/\(T i).ok v w'/\J w'/\Below W.heap.size W w') (A u) W
def StepsAt (P:Program) (ops:Array Oper) (Q:Exit->Act->World->Prop) (A: (Nat->Value)->Act) (T:Nat->Want) (J:World->Prop) (rs:List Nat):Prop:=
 ∀i∈rs,StepAt P ops Q A T J i
section
variable {A : (Nat -> Value) -> Act} {T : Nat -> Want} {J : World -> Prop}
include A T J
theorem StepsAt.nil:StepsAt P ops Q A T J []:=fun _ h=>by cases h
theorem StepsAt.cons {i:Nat} {rs:List Nat} (o:Oper) (ho:ops[i]? =some o)
 (h: ∀(u:Nat->Value) (W:World) (K':Act->World->Prop),J W->(∀j,waits o j=true->(T j).ok (u j) W)->
  Shut (∀v w',(T i).ok v w'->J w'->Below W.heap.size W w'->K' (A (upd u i v)) w')->
  if Region.wanted o (yielded ops (A u).tmps)=true then Oper.wp P o (A u) W K' Q else K' ((A u).put o.dst undef) W)
 (hs:StepsAt P ops Q A T J rs):StepsAt P ops Q A T J (i::rs):=fun j hj=>by
 rcases List.mem_cons.1 hj with rfl | hj
 {intro o' ho' u W hJ hd;rw[ho] at ho';obtain rfl:o=o':=Option.some.inj ho';exact wpOp_step ho (fun K' hK=>h u W K' hJ hd (fun v w' h1 h2 h3=>hK _ _ ⟨v,rfl,h1,h2,h3⟩))}
 {exact hs j hj}
end
def lowAfter (ops:Array Oper):Bool:=(List.range ops.size).all fun i=>((ops[i]?).map fun o=>o.after.all fun e=> !Region.binds .any e||decide (e.on < i)).getD true
theorem Z5j (h:lowAfter ops=true) {i:Nat} {o:Oper} (ho:ops[i]? =some o): ∀e∈o.after,Region.binds .any e=true->e.on < i:=by
 intro e he hb;have hi:i < ops.size:=by
  rcases Nat.lt_or_ge i ops.size with h | h
  {exact h}
  {rw[Array.getElem?_eq_none h] at ho; cases ho}
 have h1:=List.all_eq_true.1 h i (List.mem_range.2 hi);rw[ho] at h1;simp only[Option.map_some,Option.getD_some] at h1;have:=Array.all_eq_true_iff_forall_mem.1 h1 e he;rw[hb] at this;simpa using this
theorem Z1Y (hl:lowAfter ops=true) (listed:Array Bool) (hr:Region.ready .any ops listed= []) (hsz:listed.size=ops.size):
 ∀n j,j < n->j < ops.size->listed.getD j false=true:=by
 intro n;induction n with
 | zero=>intro j hj; omega
 | succ n ih=>
  intro j hj hjs;by_cases hjn:j < n
  {exact ih j hjn hjs}
  {cases hlj:listed.getD j false with
   | true=>rfl
   | false=>
    have hmem:j∈Region.ready .any ops listed:=by
     refine mem_ready.2 ⟨?_,ops[j]'hjs,by simp[hjs],fun e he hb=> ?_⟩
     {have:j < listed.size:=by omega
      simp[this] at hlj ⊢;exact hlj}
     {have hlt:=Z5j hl (show ops[j]? =some (ops[j]'hjs) by simp[hjs]) e he hb;exact ih e.on (by omega) (by omega)}
    rw[hr] at hmem;cases hmem}
theorem Z4U (l:List Bool): ∀(i:Nat),l[i]? =some false->(l.set i true).count false+1=l.count false:=by
 induction l with
 | nil=>intro i h; simp at h
 | cons b l ih=>
  intro i h;cases i with
  | zero=>
   simp at h;subst h;simp
  | succ i=>
   simp at h;have:=ih i h;cases b <;> simp at this ⊢ <;> omega
theorem Z4l (l:List Bool) (h:l.count false=0) (j:Nat):l[j]? ≠some false:=by
 intro hj;have:=List.count_pos_iff.2 (List.mem_of_getElem? hj);omega
theorem Z05 {o:Oper} {a:Act} {W W':World} {K':Act->World->Prop} {v:Value} {E:Prop} (hw:Region.wanted o (yielded ops a.tmps)=true)
 (hrun: (execOp a.eval o).run P W= .ok (.value v) W') (hK:K' (a.put o.dst v) W'):
 if Region.wanted o (yielded ops a.tmps)=true then Oper.wp P o a W K' Q else E:=by
 rw[if_pos hw,Oper.wp,hrun,Oper.upon_value];exact hK
theorem Y0 {o:Oper} {a:Act} {W:World} {K':Act->World->Prop} {F:Value->Act} {T:Nat->Want} {J:World->Prop} {i:Nat} {E:Prop} {c:Value}
 (hK:Shut (∀v w',(T i).ok v w'->J w'->Below W.heap.size W w'->K' (F v) w')) (hJ:J W) (hT:T i=Want.val c) (hA:a.put o.dst c=F c)
 (hw:Region.wanted o (yielded ops a.tmps)=true) (hr: (execOp a.eval o).run P W= .ok (.value c) W):
 if Region.wanted o (yielded ops a.tmps)=true then Oper.wp P o a W K' Q else E:=
 Z05 (v:=c) (W':=W) hw hr (by rw[hA]; exact hK.out c W (by rw[hT]; rfl) hJ (Below.refl _ _))
end
end Go.Proofs.YtchklpedlbkgaaaDoor
namespace Go.Proofs.YtchklpedlbkgaaaDoor
section
open Go.RowKit
theorem Z1c {P:Program} (w:World) {ops:Array Oper} {rest:List Oper} {o:Oper} {a:Act} {Q:Exit->Act->World->Prop} (hgd:Region.wanted o (yielded ops a.tmps)=true) (s x:Operand) (t:TypeId)
 (ho:o.op= .call { callee:= .builtin .append,args:=#[s,x],argTypes:=#[t,t] })
 (base:Nat) (e:TypeId) (i:TypeInfo) (z:Value) (size bytes:Nat) (ht:P.underlying t=some (.slice e)) (hi:P.info? e=some i) (hz:i.zero=some z)
 (hsize:i.size=size) (hby:i.bytes=bytes) (hzs:z.cells.size=size) (hsz:0 < size)
 (v:Value) (n:Nat) (xs:List Value) (hs:a.eval s=v) (hown:w.ownsRow base e size v n xs)
 (A:Option Addr) (m c:Nat) (news:List Value) (hx:a.eval x= .slice A m c) (hA:A=none->m=0/\c=0) (hl:news.length=m * size)
 (hnews: ∀ad,A=some ad-> ∀j u,news[j]? =some u->w.cell? (ad.add j)=some u) (h1: ∀u∈news,u.oneCell'=true)
 (h63:n+m<=maxLen) (hbytes: (n+m) * bytes<=140737488355328) (hbase:base<=w.heap.size)
 (h: ∀v' w',w'.ownsRow base e size v' (n+m) (xs++news)->Below base w w'->wpList P ops Q rest (a.put o.dst v') w'):wpList P ops Q (o::rest) a w:=by
 refine wpList_step fun K hK=> ?_;rw[if_pos hgd]
 match A,hA,hnews,hx with
 | some ad,_,hnews,hx=>
  exact wp_append_own w s x t ho base e i z size bytes ht hi hz hsize hby hzs hsz v n xs hs hown ad m c news hx hl (hnews ad rfl) h1 h63 hbytes hbase
   fun v' w' h2 h3 _=>hK _ _ (h v' w' h2 (Y2.grown h3 hbase (fun k hk=>(hown.lt k hk).1)))
 | none,hA,_,hx=>
  obtain ⟨rfl,rfl⟩:=hA rfl;obtain rfl:news= []:=List.eq_nil_of_length_eq_zero (by rw[hl,Nat.zero_mul]);have hr:=run_append_owned_none (P:=P) (w:=w) base t o.type e i size ht hi v n xs hown;unfold Oper.wp execOp;simp only[ho,resolve,invoke,builtin,Sem.run_bind,Sem.run_pure,Result.andThen_ok,List.map_toArray,List.map_cons,List.map_nil,hs,hx,hr];exact hK _ _ (h v w (by rw[List.append_nil]; exact hown) Y2)
end
end Go.Proofs.YtchklpedlbkgaaaDoor
