/- What the proofs of ExpandDeclares want, part 0. -/
import Derived.Test.YtmeiijjpomcgcaaDoorRows
import Derived.WalkKit
import Derived.Lib.Hide
import Derived.Lib.Strings
import Derived.Lib.Builder
import Derived.BigQuiet
import Derived.Laws.Cover1
import Derived.SliceStrings
import Derived.SizedLaws
import Derived.OpenShut
import Derived.Deep.AppendLies
import Derived.StillTailTactics
import Derived.Deep.Fields
set_option linter.unusedVariables false
set_option linter.unusedSimpArgs false
set_option linter.unusedSectionVars false
set_option maxRecDepth 100000
set_option maxHeartbeats 16000000
namespace Utf
section
def pt (p:Int):Bool:=decide (0<=p)&&decide (p<=1114111)&&(decide (p < 55296)||decide (57343 < p))
def byte (x:Int):UInt8:=UInt8.ofNat (x % 256).toNat
def bytes (p:Int):List UInt8:=
 if p < 128 then [byte p]
 else if p < 2048 then [byte (192+p / 64),byte (128+p % 64)]
 else if p < 65536 then [byte (224+p / 4096),byte (128+p / 64 % 64),byte (128+p % 64)]
 else [byte (240+p / 262144),byte (128+p / 4096 % 64),byte (128+p / 64 % 64),byte (128+p % 64)]
def lead (a:Nat):Nat×Int:=
 if 240<=a then (4,(a:Int) - 240) else if 224<=a then (3,(a:Int) - 224) else if 192<=a then (2,(a:Int) - 192) else (1,a)
def val (p:Int):List UInt8->Int
 | []=>p
 | b::r=>val (p * 64+b.toNat - 128) r
def first:List UInt8->Int×Nat
 | []=>(0,0)
 | a::r=>
  if (lead a.toNat).1<=r.length+1/\pt (val (lead a.toNat).2 (r.take ((lead a.toNat).1 - 1)))=true/\
   bytes (val (lead a.toNat).2 (r.take ((lead a.toNat).1 - 1)))=(a::r).take (lead a.toNat).1
  then (val (lead a.toNat).2 (r.take ((lead a.toNat).1 - 1)),(lead a.toNat).1) else (0,0)
def enc (ps:List Int):List UInt8:=ps.flatMap bytes
def step (l:List UInt8) (k:Nat):Nat:=if (first (l.drop k)).2=0 then 1 else (first (l.drop k)).2
end
end Utf
namespace Sem
section
def dig (c:UInt8):Bool:=decide (48<=c.toNat)&&decide (c.toNat<=57)
def digits (l:List UInt8):Bool:= !l.isEmpty&&l.all dig
def parts:List UInt8->List (List UInt8)
 | []=> [[]]
 | c::r=>if c=46 then []::parts r else match parts r with
  | []=> [[c]]
  | p::ps=>(c::p)::ps
def join:List (List UInt8)->List UInt8
 | []=> []
 | [p]=>p
 | p::q::ps=>p++46::join (q::ps)
structure Ver where
 maj:Int
 min:Int
 pat:Int
 pre:List UInt8
deriving DecidableEq
def dec (n:Nat):List UInt8:=if h:n < 10 then [UInt8.ofNat (48+n)] else dec (n / 10)++ [UInt8.ofNat (48+n % 10)]
termination_by n
def text (v:Ver):List UInt8:=dec v.maj.toNat++46::(dec v.min.toNat++46::(dec v.pat.toNat++if v.pre= [] then [] else 45::v.pre))
def put (t:Nat×Nat×Nat) (k x:Nat):Nat×Nat×Nat:=if k=0 then (x,t.2.1,t.2.2) else if k=1 then (t.1,x,t.2.2) else (t.1,t.2.1,x)
def get (t:Nat×Nat×Nat) (k:Nat):Nat:=if k=0 then t.1 else if k=1 then t.2.1 else t.2.2
def num (l:List UInt8):Nat:=l.foldl (fun a c=>10 * a+(c.toNat - 48)) 0
def partKey (p:List UInt8):List Int:=if digits p then [0,(num p:Int)] else 1::p.map fun c=>(c.toNat:Int)
def preKey (p:List UInt8):List (List Int):=if p= [] then [[2]] else [1]::(parts p).map partKey
def key (v:Ver):List (List Int):= [v.maj]:: [v.min]:: [v.pat]::preKey v.pre
end
end Sem
namespace Lex
section
def small (c:UInt8):Bool:=decide (97<=c.toNat)&&decide (c.toNat<=122)
def great (c:UInt8):Bool:=decide (65<=c.toNat)&&decide (c.toNat<=90)
def digit (c:UInt8):Bool:=decide (48<=c.toNat)&&decide (c.toNat<=57)
def nameB (c:UInt8):Bool:=small c||great c||digit c||c==95
def words:List (List UInt8):= [[109,111,100,117,108,101],[105,109,112,111,114,116],[112,105,110],[114,97,110,103,101],[116,121,112,101],[111,112,97,113,117,101],[108,101,116],[105,110],[101,120,112,111,114,116],[102,117,110],[105,102],[116,104,101,110],[101,108,115,101],[99,97,115,101],[111,102],[97,115],[110,101,119],[114,97,119],[116,114,117,101],[102,97,108,115,101]]
def isWord (s:List UInt8):Bool:=words.contains s
def isName (s:List UInt8):Bool:=match s with
 | []=>false
 | c::_=>decide (s.length<=24)&&small c&&s.all nameB&& !isWord s
def isUpper (s:List UInt8):Bool:=match s with
 | []=>false
 | c::_=>decide (s.length<=24)&&great c&&s.all nameB
structure Tok where
 kind:Int
 text:List UInt8
deriving DecidableEq
def one:List UInt8->Option (Int×Nat)
 | []=>none
 | c::r=>if c=34\/c.toNat < 32 then none else if c=92 then
  (match r with
  | []=>none
  | d::_=>if d=110 then some (10,2) else if d=116 then some (9,2) else if d=34 then some (34,2) else if d=92 then some (92,2) else none)
  else if (Utf.first (c::r)).2=0 then none else some (Utf.first (c::r))
def body:Nat->List UInt8->List Int×List UInt8
 | 0,l=>([],l)
 | f+1,l=>match one l with
  | none=>([],l)
  | some (p,n)=>(p::(body f (l.drop n)).1,(body f (l.drop n)).2)
end
end Lex
namespace Shp
section
structure Sh where
 kind:Int
 of_:List UInt8
 name:List UInt8
 names:List (List UInt8)
 parts:List Sh
mutual
def size:Sh->Nat
 | ⟨_,_,_,_,ps⟩=>1+sizes ps
def sizes:List Sh->Nat
 | []=>0
 | p::ps=>size p+sizes ps
end
mutual
def deep:Sh->Nat
 | ⟨_,_,_,_,ps⟩=>deeps ps+1
def deeps:List Sh->Nat
 | []=>0
 | p::ps=>max (deep p) (deeps ps)
end
theorem size_eq (t:Sh):size t=1+sizes t.parts:=by cases t; rfl
theorem Z0l (t:Sh):deep t=deeps t.parts+1:=by cases t; rfl
theorem Z1V (t:Sh):1<=size t:=by rw[size_eq]; omega
section
variable {l : List Sh} {p : Sh} (h : p ∈ l)
include l p h
theorem Z1h:size p<=sizes l:=by
 induction l with
 | nil=>cases h
 | cons a l ih=>
  rcases List.mem_cons.1 h with rfl | h
  {simp[sizes]}
  {have:=ih h; simp[sizes]; omega}
theorem Z0z:deep p<=deeps l:=by
 induction l with
 | nil=>cases h
 | cons a l ih=>
  rcases List.mem_cons.1 h with rfl | h
  {simp[deeps]; omega}
  {have:=ih h; simp[deeps]; omega}
end
theorem Sh.ind {P:Sh->Prop} (h: ∀t,(∀p∈t.parts,P p)->P t) (t:Sh):P t:=by
 have: ∀n t,size t<=n->P t:=by
  intro n;induction n with
  | zero=>intro t ht; have:=Z1V t; omega
  | succ n ih=>
   intro t ht;refine h t (fun p hp=>ih p ?_);have:=Z1h hp;rw[size_eq] at ht;omega
 exact this _ t (Nat.le_refl _)
theorem Z3O (l m:List Sh):sizes (l++m)=sizes l+sizes m:=by
 induction l with
 | nil=>simp[sizes]
 | cons a l ih=>simp[sizes,ih]; omega
theorem Z3P (l m:List Sh):deeps (l++m)=max (deeps l) (deeps m):=by
 induction l with
 | nil=>simp[deeps]
 | cons a l ih=>simp[deeps,ih,Nat.max_assoc]
theorem Z1C {α:Type} {l:List α} {i:Nat} (h:i < l.length):l.take (i+1)=l.take i++ [l[i]'h]:=by rw[List.take_succ_eq_append_getElem h]
section
variable {l : List Sh} {i : Nat} (h : i < l.length)
include l i h
theorem Z1L:sizes (l.take (i+1))=sizes (l.take i)+size (l[i]'h):=by rw[Z1C h,Z3O]; simp[sizes]
theorem Z3k:deeps (l.take (i+1))=max (deeps (l.take i)) (deep (l[i]'h)):=by rw[Z1C h,Z3P]; simp[deeps]
end
theorem Z3l (l:List Sh) (i:Nat):sizes (l.take i)<=sizes l:=by
 have:=Z3O (l.take i) (l.drop i);rw[List.take_append_drop] at this;omega
theorem Z3m (l:List Sh) (i:Nat):deeps (l.take i)<=deeps l:=by
 have:=Z3P (l.take i) (l.drop i);rw[List.take_append_drop] at this;omega
theorem Z0F (l:List Sh):l.length<=sizes l:=by
 induction l with
 | nil=>simp
 | cons a l ih=>have:=Z1V a; simp[sizes]; omega
theorem Z1i (t:Sh):deep t<=size t:=by
 induction t using Sh.ind with
 | h t ih=>
  rw[Z0l,size_eq];have: ∀l:List Sh,(∀p∈l,deep p<=size p)->deeps l<=sizes l:=by
   intro l;induction l with
   | nil=>simp[deeps]
   | cons a l ihl=>
    intro h;have h1:=h a (by simp);have h2:=ihl (fun p hp=>h p (by simp[hp]));simp[deeps,sizes]; omega
  have:=this _ ih;omega
def sizeTo (m:Nat) (t:Sh):Nat:=min (size t) (m+1)
def noDup:List (List UInt8)->Bool
 | []=>true
 | x::l=> !l.contains x&&noDup l
def areNames (l:List (List UInt8)):Bool:=l.all Lex.isName&&noDup l
def plain (s:List UInt8):Bool:=s== [73,110,116]||s== [66,111,111,108]||s== [84,101,120,116]||s== [65,110,121]
def bare (t:Sh):Bool:=t.of_== []&&t.name== []
def fits (t:Sh):Bool:=
 if t.kind=9\/t.kind=10 then Lex.isUpper t.name&&(Lex.isName t.of_||(t.of_== []&&decide (t.kind=9)&& !plain t.name))&&decide (t.names.length=0)&&decide (t.parts.length=0)
 else if bare t=false then false
 else if t.kind=6\/t.kind=7 then areNames t.names&&decide (t.names.length=t.parts.length)
 else if 0 < t.names.length then false
 else if t.kind=8 then decide (1<=t.parts.length)
 else if t.kind=5 then decide (t.parts.length=1)
 else decide (1<=t.kind)&&decide (t.kind<=4)&&decide (t.parts.length=0)
mutual
def right:Sh->Bool
 | ⟨k,o,n,ns,ps⟩=>fits ⟨k,o,n,ns,ps⟩&&rights ps
def rights:List Sh->Bool
 | []=>true
 | p::ps=>right p&&rights ps
end
theorem Z1v (t:Sh):right t=(fits t&&rights t.parts):=by cases t; rfl
theorem Z1M (l:List Sh):rights l=l.all right:=by
 induction l with
 | nil=>rfl
 | cons a l ih=>simp[rights,ih]
def check (t:Sh):Int:=if 400 < size t then 3 else if 40 < deep t then 91 else if right t=false then 70 else 0
abbrev Fld:=List UInt8×Sh
def ins (x:Fld):List Fld->List Fld
 | []=> [x]
 | y::l=>if y.1 < x.1 then y::ins x l else x::y::l
def sortF (l:List Fld):List Fld:=l.foldl (fun a x=>ins x a) []
mutual
def sorted:Sh->Sh
 | ⟨k,o,n,ns,ps⟩=>if ns= [] then ⟨k,o,n,[],sorteds ps⟩ else ⟨k,o,n,(sortF (ns.zip (sorteds ps))).map Prod.fst,(sortF (ns.zip (sorteds ps))).map Prod.snd⟩
def sorteds:List Sh->List Sh
 | []=> []
 | p::ps=>sorted p::sorteds ps
end
theorem Z7h (l:List Sh):sorteds l=l.map sorted:=by
 induction l with
 | nil=>rfl
 | cons a l ih=>simp[sorteds,ih]
theorem Z0c (t:Sh):sorted t=if t.names= [] then ⟨t.kind,t.of_,t.name,[],t.parts.map sorted⟩ else ⟨t.kind,t.of_,t.name,(sortF (t.names.zip (t.parts.map sorted))).map Prod.fst,(sortF (t.names.zip (t.parts.map sorted))).map Prod.snd⟩:=by
 cases t with
 | mk k o n ns ps=>rw[<-Z7h]; rfl
mutual
def eqB:Sh->Sh->Bool
 | ⟨k,o,n,ns,ps⟩,⟨k',o',n',ns',ps'⟩=>k==k'&&o==o'&&n==n'&&ns==ns'&&eqs ps ps'
def eqs:List Sh->List Sh->Bool
 | [],[]=>true
 | p::ps,q::qs=>eqB p q&&eqs ps qs
 | [],_::_=>false
 | _::_,[]=>false
end
theorem Z9S (t u:Sh):eqB t u=(t.kind==u.kind&&t.of_==u.of_&&t.name==u.name&&t.names==u.names&&eqs t.parts u.parts):=by cases t; cases u; rfl
theorem Z4O {l:List Sh} (h: ∀p∈l,∀u,eqB p u=true ↔ p=u): ∀m,eqs l m=true ↔ l=m:=by
 induction l with
 | nil=>intro m; cases m <;> simp[eqs]
 | cons a l ih=>
  intro m;cases m with
  | nil=>simp[eqs]
  | cons b m=>simp[eqs,h a (by simp) b,ih (fun p hp=>h p (by simp[hp])) m]
theorem Z35 (t u:Sh):eqB t u=true ↔ t=u:=by
 induction t using Sh.ind generalizing u with
 | h t ih=>
  rw[Z9S];cases t; cases u;simp[Z4O ih,and_assoc]
theorem Z8h (l m:List Sh):eqs l m=true ↔ l=m:=Z4O (fun p _ u=>Z35 p u) m
theorem Z3n (t:Sh):eqB t t=true:=(Z35 t t).2 rfl
theorem Z5n {t u:Sh} (h:t≠u):eqB t u=false:=by
 cases e:eqB t u with
 | false=>rfl
 | true=>exact absurd ((Z35 t u).1 e) h
def same (t u:Sh):Bool:=decide (check t=0)&&decide (check u=0)&&eqB (sorted t) (sorted u)
def field (n t:List UInt8):List UInt8:=n++ [58,32]++t
def fields (ns ts:List (List UInt8)):List (List UInt8):=if ns= [] then ts else List.zipWith field ns ts
def named (t:Sh):List UInt8:=if t.of_= [] then t.name else t.of_++ [47]++t.name
def join (sep:List UInt8) (l:List (List UInt8)):List UInt8:=sep.intercalate l
def textOf (k:Int) (o n:List UInt8) (ns ts:List (List UInt8)):List UInt8:=
 if k=1 then [73,110,116] else if k=2 then [66,111,111,108] else if k=3 then [84,101,120,116] else if k=4 then [65,110,121]
 else if k=5 then [91]++ts.headD []++ [93]
 else if k=6 then [123]++join [44,32] (fields ns ts)++ [125]
 else if k=7 then [60]++join [32,124,32] (fields ns ts)++ [62]
 else if k=8 then [40]++join [44,32] ts.dropLast++ [41,32,45,62,32]++ts.getLastD []
 else if o= [] then n else o++ [47]++n
mutual
def text:Sh->List UInt8
 | ⟨k,o,n,ns,ps⟩=>textOf k o n ns (texts ps)
def texts:List Sh->List (List UInt8)
 | []=> []
 | p::ps=>text p::texts ps
end
end
end Shp
namespace Go.Proofs.YtmeiijjpomcgcaaDoor
section
open Go.RowKit
theorem Z0Q {B:Nat} {a w:World} (h:Below B a w) (n:Nat):Below B a (w.drewN n):=⟨h.os,h.tape,h.output,h.size,h.block⟩
abbrev Y9 (f:FuncId) (a:Array Value) (w:World) (v:Value):Prop:=Calls Tryd.prog f a w fun e w'=>e= .returned v/\Below w.heap.size w w'
abbrev Ya:Array Value:=#[.int .i64 0,.string ⟨#[]⟩,.string ⟨#[]⟩,.int .i64 0,.slice none 0 0,.slice none 0 0,.slice none 0 0,.slice none 0 0,.int .i64 0]
abbrev Yb:Array Value:=#[.int .i64 0,.string ⟨#[]⟩,.string ⟨#[]⟩,.slice none 0 0,.slice none 0 0]
abbrev Yc:Array Value:=#[.int .i64 0,.int .i64 0]
abbrev Yd:Array Value:=#[.int .i64 0,.string ⟨#[]⟩,.int .i64 0]
theorem Y1 {P:Prop} (h:P):Hid P:=Lib.hid h
theorem Y2 {B:Nat} {w:World}:Below B w w:=Below.refl _ _
section
variable {k n : Int} (m : Int) (h : k = n)
include k n m h
theorem Y3 (e: (n==m)=false): (k==m)=false:=by rw[h]; exact e
theorem Y4 (e: (n==m)=true): (k==m)=true:=by rw[h]; exact e
theorem Y5 (e: (n !=m)=false): (k !=m)=false:=by rw[h]; exact e
theorem Y6 (e: (n !=m)=true): (k !=m)=true:=by rw[h]; exact e
end
theorem Z0J (l:List UInt8): (⟨l.toArray⟩:ByteArray).size=l.length:=by simp[ByteArray.size]
theorem Z36 {B:Nat} {w w':World} (h:Below B w w') (hB:w.heap.size<=B) (row:Option Nat):w.grownBy w' row:=
 ⟨h.os,h.tape,h.output,h.size,fun i hi _=>h.block i (Nat.lt_of_lt_of_le hi hB)⟩
theorem Z03 {w W w':World} (h:Below w.heap.size w W) (hb:Below W.heap.size W w'):Below w.heap.size w w':=h.trans (hb.mono h.size)
theorem Z0h {w W:World} (h:Below w.heap.size w W) (o:Obj):Below w.heap.size w (W.alloc o):=h.alloc h.size o
theorem Z01 (w:World) (o:Obj):Below w.heap.size w (w.alloc o):=(Below.refl _ _).alloc (Nat.le_refl _) _
theorem Z4c: ∀(x y:List UInt8),Op.bytesLess x y=decide (x < y)
 | x,[]=>by simp[Op.bytesLess]
 | [],_::_=>by simp[Op.bytesLess]
 | a::x,b::y=>by
  rw[Op.bytesLess,Z4c x y,Bool.eq_iff_iff];simp[List.cons_lt_cons_iff]
def Strs (w:World) (B:Nat) (A:Option Addr) (ss:List ByteArray):Prop:=
 ss.length=0\/ ∃b off,A=some ⟨b,off,none⟩/\b < B/\ ∀i (h:i < ss.length),w.cell? ⟨b,off+i,none⟩=some (.string (ss[i]'h))
theorem Strs.keep {w w':World} {B B':Nat} {A:Option Addr} {ss:List ByteArray} (h:Strs w B A ss) (hb:Below B' w w') (hB:B<=B'):Strs w' B A ss:=by
 rcases h with h | ⟨b,off,hA,hlt,hc⟩
 {exact Or.inl h}
 {exact Or.inr ⟨b,off,hA,hlt,fun i hi=>(hb.cell (p:=⟨b,off+i,none⟩) (Nat.lt_of_lt_of_le hlt hB)).trans (hc i hi)⟩}
theorem Strs.more {w:World} {B B':Nat} {A:Option Addr} {ss:List ByteArray} (h:Strs w B A ss) (hB:B<=B'):Strs w B' A ss:=by
 rcases h with h | ⟨b,off,hA,hlt,hc⟩
 {exact Or.inl h}
 {exact Or.inr ⟨b,off,hA,Nat.lt_of_lt_of_le hlt hB,hc⟩}
theorem Strs.next {w w':World} {A:Option Addr} {ss:List ByteArray} (h:Strs w w.heap.size A ss) (hb:Below w.heap.size w w'):Strs w' w'.heap.size A ss:=
 (h.keep hb (Nat.le_refl _)).more hb.size
theorem Z1N {w:World} {b o:Nat} {v:Value} (h:w.cell? ⟨b,o,none⟩=some v):b < w.heap.size:=by
 rcases Nat.lt_or_ge b w.heap.size with h' | h'
 {exact h'}
 {simp[World.cell?,Array.getElem?_eq_none h'] at h}
theorem Z3D {w:World} {a:Addr} {ss:List ByteArray} {len:Nat} (hc: ∀i,i < ss.length->w.cell? (a.add i)=some (.string (ss.getD i ByteArray.empty))):Strs w w.heap.size (some a) (ss.take len):=by
 by_cases h0: (ss.take len).length=0
 {exact Or.inl h0}
 {have hpos:0 < ss.length:=by rw[List.length_take] at h0; omega
  obtain ⟨b,off,spot⟩:=a;have h1:=hc 0 hpos;have hspot:spot=none:=by simpa[Addr.add] using World.cell?_spot h1
  subst hspot;refine Or.inr ⟨b,off,rfl,Z1N (o:=off) (by simpa[Addr.add] using h1),fun i hi=> ?_⟩;rw[List.length_take] at hi;have hplain: (⟨b,off,none⟩:Addr).add i=⟨b,off+i,none⟩:=by unfold Addr.add; split <;> simp_all
  rw[<-hplain,hc i (by omega),List.getElem_take];simp[List.getD,List.getElem?_eq_getElem (show i < ss.length by omega)]}
def strs (l:List (List UInt8)):List ByteArray:=l.map fun p=>⟨p.toArray⟩
end
end Go.Proofs.YtmeiijjpomcgcaaDoor
namespace Lex
theorem Z8F {p:UInt8->Bool}: ∀ {s:List UInt8} {n:Nat},n<=s.length->(∀j (hj:j < s.length),j < n->p (s[j]'hj)=true)->(∀(h:n < s.length),p (s[n]'h)=false)->(s.takeWhile p).length=n
 | [],n,h,_,_=>by simp at h; simp[h]
 | x::r,0,_,_,h=>by
  have:=h (by simp);simp at this;rw[List.takeWhile_cons_of_neg (by simp[this])]; rfl
 | x::r,n+1,h1,h2,h3=>by
  have hx:=h2 0 (by simp) (by omega);simp at hx;rw[List.takeWhile_cons_of_pos hx,List.length_cons,Z8F (s:=r) (n:=n) (by simpa using h1) (fun j hj hn=>by
   have:=h2 (j+1) (by simpa using hj) (by omega);simpa using this) (fun h=>by
   have:=h3 (by simpa using h);simpa using this)]
def isIn (s:List UInt8) (l:List (List UInt8)):Bool:=l.contains s
theorem Z6e {p:UInt8->Bool}: ∀ {s:List UInt8},(s.takeWhile p).length=s.length ↔ s.all p=true
 | []=>by simp
 | x::r=>by
  by_cases hx:p x=true
  {rw[List.takeWhile_cons_of_pos hx,List.length_cons,List.length_cons,List.all_cons,hx,Bool.true_and, <-Z6e (s:=r)]; omega}
  {rw[List.takeWhile_cons_of_neg hx]; simp[hx]}
end Lex
namespace Go.Proofs.YtmeiijjpomcgcaaDoor
open Go.RowKit
section
variable (c : UInt8) (w : World)
include c w
theorem Z12:
 Calls Tryd.prog 83 #[.int .u8 (c.toNat:Int)] w fun e w'=>e= .returned (.bool (Lex.small c))/\w=w':=by
 have hlt:=c.toNat_lt;have H:c.toNat<=96\/(97<=c.toNat/\c.toNat<=122)\/123<=c.toNat:=by omega
 have HB:Hid (Lex.small c=(decide (97<=c.toNat)&&decide (c.toNat<=122))):=Y1 rfl;obtain ⟨n,hn⟩: ∃n,n=c.toNat:=⟨_,rfl⟩;rw[<-hn] at H HB hlt ⊢;clear hn;rcases H with h1 | ⟨h1,h2⟩ | h1
 {have h3:decide ((97:Int)<=(n:Int))=false:=decide_eq_false (by omega);go_enter Tryd.func83,Tryd.ntmps83;go_wp2;go_ret;exact ⟨by rw[HB.out,decide_eq_false (by omega)]; rfl,rfl⟩}
 {have h3:decide ((n:Int)<=122)=true:=decide_eq_true (by omega);have h4:decide ((97:Int)<=(n:Int))=true:=decide_eq_true (by omega);go_enter Tryd.func83,Tryd.ntmps83;go_wp2;go_ret;exact ⟨by rw[HB.out,decide_eq_true h1,decide_eq_true h2]; rfl,rfl⟩}
 {have h3:decide ((n:Int)<=122)=false:=decide_eq_false (by omega);have h4:decide ((97:Int)<=(n:Int))=true:=decide_eq_true (by omega);go_enter Tryd.func83,Tryd.ntmps83;go_wp2;go_ret;exact ⟨by rw[HB.out,decide_eq_false (p:=n<=122) (by omega),Bool.and_false]; rfl,rfl⟩}
theorem Z1c:
 Calls Tryd.prog 86 #[.int .u8 (c.toNat:Int)] w fun e w'=>e= .returned (.bool (Lex.great c))/\w=w':=by
 have hlt:=c.toNat_lt;have H:c.toNat<=64\/(65<=c.toNat/\c.toNat<=90)\/91<=c.toNat:=by omega
 have HB:Hid (Lex.great c=(decide (65<=c.toNat)&&decide (c.toNat<=90))):=Y1 rfl;obtain ⟨n,hn⟩: ∃n,n=c.toNat:=⟨_,rfl⟩;rw[<-hn] at H HB hlt ⊢;clear hn;rcases H with h1 | ⟨h1,h2⟩ | h1
 {have h3:decide ((65:Int)<=(n:Int))=false:=decide_eq_false (by omega);go_enter Tryd.func86,Tryd.ntmps86;go_wp2;go_ret;exact ⟨by rw[HB.out,decide_eq_false (by omega)]; rfl,rfl⟩}
 {have h3:decide ((n:Int)<=90)=true:=decide_eq_true (by omega);have h4:decide ((65:Int)<=(n:Int))=true:=decide_eq_true (by omega);go_enter Tryd.func86,Tryd.ntmps86;go_wp2;go_ret;exact ⟨by rw[HB.out,decide_eq_true h1,decide_eq_true h2]; rfl,rfl⟩}
 {have h3:decide ((n:Int)<=90)=false:=decide_eq_false (by omega);have h4:decide ((65:Int)<=(n:Int))=true:=decide_eq_true (by omega);go_enter Tryd.func86,Tryd.ntmps86;go_wp2;go_ret;exact ⟨by rw[HB.out,decide_eq_false (p:=n<=90) (by omega),Bool.and_false]; rfl,rfl⟩}
theorem Z2K:
 Calls Tryd.prog 93 #[.int .u8 (c.toNat:Int)] w fun e w'=>e= .returned (.bool (Lex.digit c))/\w=w':=by
 have hlt:=c.toNat_lt;have H:c.toNat<=47\/(48<=c.toNat/\c.toNat<=57)\/58<=c.toNat:=by omega
 have HB:Hid (Lex.digit c=(decide (48<=c.toNat)&&decide (c.toNat<=57))):=Y1 rfl;obtain ⟨n,hn⟩: ∃n,n=c.toNat:=⟨_,rfl⟩;rw[<-hn] at H HB hlt ⊢;clear hn;rcases H with h1 | ⟨h1,h2⟩ | h1
 {have h3:decide ((48:Int)<=(n:Int))=false:=decide_eq_false (by omega);go_enter Tryd.func93,Tryd.ntmps93;go_wp2;go_ret;exact ⟨by rw[HB.out,decide_eq_false (by omega)]; rfl,rfl⟩}
 {have h3:decide ((n:Int)<=57)=true:=decide_eq_true (by omega);have h4:decide ((48:Int)<=(n:Int))=true:=decide_eq_true (by omega);go_enter Tryd.func93,Tryd.ntmps93;go_wp2;go_ret;exact ⟨by rw[HB.out,decide_eq_true h1,decide_eq_true h2]; rfl,rfl⟩}
 {have h3:decide ((n:Int)<=57)=false:=decide_eq_false (by omega);have h4:decide ((48:Int)<=(n:Int))=true:=decide_eq_true (by omega);go_enter Tryd.func93,Tryd.ntmps93;go_wp2;go_ret;exact ⟨by rw[HB.out,decide_eq_false (p:=n<=57) (by omega),Bool.and_false]; rfl,rfl⟩}
end
section
variable {s : List UInt8} {l : List (List UInt8)}
include s l
theorem Zbm {i:Nat} (hi:i < l.length) (h: (s==l[i]'hi)=true):Lex.isIn s l=true:=by
 unfold Lex.isIn;rw[List.contains_iff_mem,beq_iff_eq.1 h]; exact List.getElem_mem _
theorem Zbn (h: ∀j (hj:j < l.length),(s==l[j]'hj)=false):Lex.isIn s l=false:=by
 unfold Lex.isIn;cases hq:l.contains s with
 | false=>rfl
 | true=>
  obtain ⟨j,hj,e⟩:=List.mem_iff_getElem.1 (List.contains_iff_mem.1 hq);have:=h j hj;rw[e] at this; simp at this
end
theorem Z8G (s:List UInt8) (A:Option Addr) (cap:Nat) (l:List (List UInt8)) (w:World) (hA:Strs w w.heap.size A (strs l)) (hl:l.length<=1000000):
 Calls Tryd.prog 94 #[.string ⟨s.toArray⟩,.slice A l.length cap] w fun e w'=>e= .returned (.bool (Lex.isIn s l))/\w=w':=by
 have HA:=Y1 hA;have hsl: (strs l).length=l.length:=by simp[strs]
 clear hA;go_enter Tryd.func94,Tryd.ntmps94
 go_wp2_with fail
 go_loopw [5] (fun ii wr=> ∃i:Nat,ii= .int .i64 i/\i<=l.length/\Hid (∀j (hj:j < l.length),j < i->(s==l[j]'hj)=false)/\w=wr)
  (fun i _=>l.length - (intOf i).toNat)
 case atStart=>exact ⟨0,rfl,Nat.zero_le _,Y1 (fun j _ hj=>absurd hj (by omega)),rfl⟩
 case round=>
  obtain ⟨i,rfl,hi,HN,rfl⟩:=hrel;by_cases hlt:i < l.length
  {have hi1: (i:Int) < (l.length:Int):=by omega
   rcases HA.out with h0 | ⟨g,off,rfl,hg,hc⟩
   {omega}
   {have hcell:=hc i (by omega);have e1: (strs l)[i]'(by omega)=⟨(l[i]'hlt).toArray⟩:=by simp[strs]
    rw[e1] at hcell;obtain ⟨p,hp⟩: ∃p,p=l[i]'hlt:=⟨_,rfl⟩;rw[<-hp] at hcell;have HP:=Y1 hp;clear hc e1 hp;cases hq: (s==p)
    {have HM:Hid ((s==l[i]'hlt)=false):=Y1 (by rw[<-HP.out]; exact hq);go_wp2
     go_roundw
     case rel=>exact ⟨i+1,by go_num,by omega,Y1 (fun j hj hji=>by
      rcases Nat.lt_succ_iff_lt_or_eq.1 hji with h | rfl
      {exact HN.out j hj h}
      · exact HM.out),trivial⟩
     case measure=>simp[intOf]; omega}
    {have HM:Hid (Lex.isIn s l=true):=Y1 (Zbm hlt (by rw[<-HP.out]; exact hq));go_wp2;go_ret;exact ⟨by rw[HM.out]; rfl,rfl⟩}}}
  {have hi1: ¬(i:Int) < (l.length:Int):=by omega
   have HM:Hid (Lex.isIn s l=false):=Y1 (Zbn (fun j hj=>HN.out j hj (by omega)));go_wp2;go_ret;exact ⟨by rw[HM.out]; rfl,rfl⟩}
theorem Z9V (W:World) (l:List (List UInt8)) (g:Nat) (hg:g=W.heap.size):Strs (W.alloc (.cells ((strs l).map Value.string).toArray 9)) (W.alloc (.cells ((strs l).map Value.string).toArray 9)).heap.size (some ⟨g,0,none⟩) (strs l):=by
 subst hg;refine Or.inr ⟨W.heap.size,0,rfl,by simp,fun i hi=> ?_⟩;rw[Nat.zero_add];simp[go_sem,hi]
theorem Z8H (s:List UInt8) (w:World):
 Y9 85 #[.string ⟨s.toArray⟩] w (.bool (Lex.isWord s)):=by
 have HS:Hid (Strs (w.alloc (.cells #[.string ⟨#[109,111,100,117,108,101]⟩,.string ⟨#[105,109,112,111,114,116]⟩,.string ⟨#[112,105,110]⟩,.string ⟨#[114,97,110,103,101]⟩,.string ⟨#[116,121,112,101]⟩,.string ⟨#[111,112,97,113,117,101]⟩,.string ⟨#[108,101,116]⟩,.string ⟨#[105,110]⟩,.string ⟨#[101,120,112,111,114,116]⟩,.string ⟨#[102,117,110]⟩,.string ⟨#[105,102]⟩,.string ⟨#[116,104,101,110]⟩,.string ⟨#[101,108,115,101]⟩,.string ⟨#[99,97,115,101]⟩,.string ⟨#[111,102]⟩,.string ⟨#[97,115]⟩,.string ⟨#[110,101,119]⟩,.string ⟨#[114,97,119]⟩,.string ⟨#[116,114,117,101]⟩,.string ⟨#[102,97,108,115,101]⟩] 9)) (w.alloc (.cells #[.string ⟨#[109,111,100,117,108,101]⟩,.string ⟨#[105,109,112,111,114,116]⟩,.string ⟨#[112,105,110]⟩,.string ⟨#[114,97,110,103,101]⟩,.string ⟨#[116,121,112,101]⟩,.string ⟨#[111,112,97,113,117,101]⟩,.string ⟨#[108,101,116]⟩,.string ⟨#[105,110]⟩,.string ⟨#[101,120,112,111,114,116]⟩,.string ⟨#[102,117,110]⟩,.string ⟨#[105,102]⟩,.string ⟨#[116,104,101,110]⟩,.string ⟨#[101,108,115,101]⟩,.string ⟨#[99,97,115,101]⟩,.string ⟨#[111,102]⟩,.string ⟨#[97,115]⟩,.string ⟨#[110,101,119]⟩,.string ⟨#[114,97,119]⟩,.string ⟨#[116,114,117,101]⟩,.string ⟨#[102,97,108,115,101]⟩] 9)).heap.size (some ⟨w.heap.size,0,none⟩) (strs Lex.words)):=Y1 (Z9V w Lex.words _ rfl);have hb:=Z01 w (.cells #[.string ⟨#[109,111,100,117,108,101]⟩,.string ⟨#[105,109,112,111,114,116]⟩,.string ⟨#[112,105,110]⟩,.string ⟨#[114,97,110,103,101]⟩,.string ⟨#[116,121,112,101]⟩,.string ⟨#[111,112,97,113,117,101]⟩,.string ⟨#[108,101,116]⟩,.string ⟨#[105,110]⟩,.string ⟨#[101,120,112,111,114,116]⟩,.string ⟨#[102,117,110]⟩,.string ⟨#[105,102]⟩,.string ⟨#[116,104,101,110]⟩,.string ⟨#[101,108,115,101]⟩,.string ⟨#[99,97,115,101]⟩,.string ⟨#[111,102]⟩,.string ⟨#[97,115]⟩,.string ⟨#[110,101,119]⟩,.string ⟨#[114,97,119]⟩,.string ⟨#[116,114,117,101]⟩,.string ⟨#[102,97,108,115,101]⟩] 9)
 have ha:=fun W h=>Z8G s (some ⟨w.heap.size,0,none⟩) 20 Lex.words W h (by decide);have HI:Hid (Lex.isWord s=Lex.isIn s Lex.words):=Y1 rfl;rw[show Lex.words.length=20 from rfl] at ha;go_enter Tryd.func85,Tryd.ntmps85
 go_wp2_with fail
 refine (ha _ HS.out).mono ?_;rintro e w1 ⟨rfl,rfl⟩;go_wp2;go_ret;exact ⟨by rw[HI.out]; rfl,hb⟩
theorem Z9W {c:UInt8}:Lex.nameB c=(Lex.small c||Lex.great c||Lex.digit c||c==95):=rfl
theorem Z4P (s:ByteArray) (n:Nat) (h:n < s.size) (W:World): (Instr.index 9 (.string s) (.int .i64 (n:Int))).run Tryd.prog W= .ok (.int .u8 (s[n]'h).toNat) W:=by
 rw[run_index_string (P:=Tryd.prog) _ _ _ _ _ Tryd.underlying9,dif_pos ⟨by omega,by omega⟩];simp
theorem Z8i (c:UInt8): ((c.toNat:Int)==95)=(c==95):=by
 rw[Bool.eq_iff_iff,beq_iff_eq,beq_iff_eq];constructor
 {intro h; apply UInt8.toNat_inj.1; show c.toNat=95; omega}
 {rintro rfl; rfl}
theorem Z9X (s:ByteArray) (hs:s.size<=9223372036854775806) (w:World):
 Calls Tryd.prog 84 #[.string s] w fun e w'=>e= .returned (.int .i64 (s.data.toList.takeWhile Lex.nameB).length)/\w=w':=by
 have hsl:s.data.toList.length=s.size:=(Lib.size_eq s).symm;go_enter Tryd.func84,Tryd.ntmps84
 go_wp2_with fail
 go_loopw [3] (fun ii wr=> ∃n:Nat,ii= .int .i64 n/\n<=s.size/\Hid (∀j (hj:j < s.data.toList.length),j < n->Lex.nameB (s.data.toList[j]'hj)=true)/\w=wr)
  (fun i _=>s.size - (intOf i).toNat)
 case atStart=>exact ⟨0,rfl,Nat.zero_le _,Y1 (fun j _ hj=>absurd hj (by omega)),rfl⟩
 case round=>
  obtain ⟨n,rfl,hn,HN,rfl⟩:=hrel;by_cases hlt:n < s.size
  {have hi1: (n:Int) < (s.size:Int):=by omega
   obtain ⟨c,hc⟩: ∃c,c=s[n]'hlt:=⟨_,rfl⟩;have hcl:s.data.toList[n]'(by omega)=c:=hc.symm;have HCL:=Y1 hcl;have hidx: ∀W,(Instr.index 9 (.string s) (.int .i64 (n:Int))).run Tryd.prog W= .ok (.int .u8 c.toNat) W:=fun W=>by
    rw[hc]; exact Z4P s n hlt W
   have hcn:=c.toNat_lt;have h95:=Z8i c;have HB:=Y1 (@Z9W c);clear hcl hc;have yes:Lex.nameB c=true->Hid (∀j (hj:j < s.data.toList.length),j < n+1->Lex.nameB (s.data.toList[j]'hj)=true):=fun h=>Y1 (fun j hj hji=>by
    rcases Nat.lt_succ_iff_lt_or_eq.1 hji with h' | rfl
    {exact HN.out j hj h'}
    · rw[HCL.out]; exact h)
   have no:Lex.nameB c=false->Hid ((s.data.toList.takeWhile Lex.nameB).length=n):=fun h=>Y1 (Lex.Z8F (by omega) HN.out (fun h'=>by rw[HCL.out]; exact h));cases h1:Lex.small c
   {cases h2:Lex.great c
    {cases h3:Lex.digit c
     {cases h4: (c==95)
      {rw[h4] at h95;have HM:=no (by rw[HB.out,h1,h2,h3,h4]; rfl);clear yes no
       go_wp2_with fail
       refine (Z12 c _).mono ?_;rintro e w2 ⟨rfl,rfl⟩;rw[h1]
       go_wp2_with fail
       refine (Z1c c _).mono ?_;rintro e w2 ⟨rfl,rfl⟩;rw[h2]
       go_wp2_with fail
       refine (Z2K c _).mono ?_;rintro e w2 ⟨rfl,rfl⟩;rw[h3];go_wp2;go_ret;exact ⟨by rw[HM.out]; rfl,rfl⟩}
      {rw[h4] at h95;have HM:=yes (by rw[HB.out,h1,h2,h3,h4]; rfl);clear yes no
       go_wp2_with fail
       refine (Z12 c _).mono ?_;rintro e w2 ⟨rfl,rfl⟩;rw[h1]
       go_wp2_with fail
       refine (Z1c c _).mono ?_;rintro e w2 ⟨rfl,rfl⟩;rw[h2]
       go_wp2_with fail
       refine (Z2K c _).mono ?_;rintro e w2 ⟨rfl,rfl⟩;rw[h3];go_wp2
       go_roundw
       case rel=>exact ⟨n+1,by go_num,by omega,HM,trivial⟩
       case measure=>simp[intOf]; omega}}
     {have HM:=yes (by rw[HB.out,h1,h2,h3]; rfl);clear yes no
      go_wp2_with fail
      refine (Z12 c _).mono ?_;rintro e w2 ⟨rfl,rfl⟩;rw[h1]
      go_wp2_with fail
      refine (Z1c c _).mono ?_;rintro e w2 ⟨rfl,rfl⟩;rw[h2]
      go_wp2_with fail
      refine (Z2K c _).mono ?_;rintro e w2 ⟨rfl,rfl⟩;rw[h3];go_wp2
      go_roundw
      case rel=>exact ⟨n+1,by go_num,by omega,HM,trivial⟩
      case measure=>simp[intOf]; omega}}
    {have HM:=yes (by rw[HB.out,h1,h2]; rfl);clear yes no
     go_wp2_with fail
     refine (Z12 c _).mono ?_;rintro e w2 ⟨rfl,rfl⟩;rw[h1]
     go_wp2_with fail
     refine (Z1c c _).mono ?_;rintro e w2 ⟨rfl,rfl⟩;rw[h2];go_wp2
     go_roundw
     case rel=>exact ⟨n+1,by go_num,by omega,HM,trivial⟩
     case measure=>simp[intOf]; omega}}
   {have HM:=yes (by rw[HB.out,h1]; rfl);clear yes no
    go_wp2_with fail
    refine (Z12 c _).mono ?_;rintro e w2 ⟨rfl,rfl⟩;rw[h1];go_wp2
    go_roundw
    case rel=>exact ⟨n+1,by go_num,by omega,HM,trivial⟩
    case measure=>simp[intOf]; omega}}
  {have hi1: ¬(n:Int) < (s.size:Int):=by omega
   have HM:Hid ((s.data.toList.takeWhile Lex.nameB).length=n):=Y1 (Lex.Z8F (by omega) HN.out (fun h'=>absurd h' (by omega)));go_wp2;go_ret;exact ⟨by rw[HM.out]; rfl,rfl⟩}
end Go.Proofs.YtmeiijjpomcgcaaDoor
namespace Go.Proofs.YtmeiijjpomcgcaaDoor
open Go.RowKit Shp
theorem Z17 {k:IntKind} {a b:Int} (h:a=b):Ending.returned (.int k a)= .returned (.int k b):=by rw[h]
theorem Z0p {a b:Bool} (h:a=b):Ending.returned (.bool a)= .returned (.bool b):=by rw[h]
structure Ptr where
 A:Option Addr
 c:Nat
 P:Option Addr
 d:Nat
abbrev Y8 (t:Shp.Sh) (q:Ptr):Array Value:=#[.int .i64 t.kind,.string ⟨t.of_.toArray⟩,.string ⟨t.name.toArray⟩,.slice q.A t.names.length q.c,.slice q.P t.parts.length q.d]
def Sh5 (w:World) (g o:Nat) (t:Sh) (q:Ptr):Prop:=
 w.cell? ⟨g,o,none⟩=some (.int .i64 t.kind)/\w.cell? ⟨g,o+1,none⟩=some (.string ⟨t.of_.toArray⟩)/\w.cell? ⟨g,o+2,none⟩=some (.string ⟨t.name.toArray⟩)/\
 w.cell? ⟨g,o+3,none⟩=some (.slice q.A t.names.length q.c)/\w.cell? ⟨g,o+4,none⟩=some (.slice q.P t.parts.length q.d)
theorem Sh5.of {w w':World} {g o:Nat} {t:Sh} {q:Ptr} (h:Sh5 w g o t q) (hc: ∀k,w'.cell? ⟨g,k,none⟩=w.cell? ⟨g,k,none⟩):Sh5 w' g o t q:=by
 obtain ⟨h0,h1,h2,h3,h4⟩:=h;exact ⟨(hc _).trans h0,(hc _).trans h1,(hc _).trans h2,(hc _).trans h3,(hc _).trans h4⟩
theorem Sh5.keep {w w':World} {g o B:Nat} {t:Sh} {q:Ptr} (h:Sh5 w g o t q) (hg:g < B) (hb:Below B w w'):Sh5 w' g o t q:=
 h.of (fun k=>hb.cell (p:=⟨g,k,none⟩) hg)
structure Small (t:Sh) (q:Ptr):Prop where
 o:t.of_.length<=9223372036854775807
 n:t.name.length<=9223372036854775807
 ns: ∀x∈t.names,x.length<=9223372036854775807
 l:t.names.length<=9223372036854775807
 m:t.parts.length<=9223372036854775807
 c:t.names.length<=q.c
 d:t.parts.length<=q.d
 A0:q.A=none->q.c=0
 P0:q.P=none->q.d=0
inductive ShAt (w:World) (B:Nat):Ptr->Sh->Prop
 | mk (q:Ptr) (t:Sh) (g off:Nat) (qs:Nat->Ptr) (hs:Small t q) (hn:Strs w B q.A (strs t.names)) (hp:t.parts.length=0\/q.P=some ⟨g,off,none⟩/\g < B)
  (hc: ∀i (h:i < t.parts.length),Sh5 w g (off+i * 5) (t.parts[i]'h) (qs i)) (hr: ∀i (h:i < t.parts.length),ShAt w B (qs i) (t.parts[i]'h)):ShAt w B q t
theorem ShAt.small {w:World} {B:Nat} {q:Ptr} {t:Sh} (h:ShAt w B q t):Small t q:=by cases h; assumption
theorem ShAt.strs {w:World} {B:Nat} {q:Ptr} {t:Sh} (h:ShAt w B q t):Strs w B q.A (strs t.names):=by cases h; assumption
theorem ShAt.part {w:World} {B:Nat} {q:Ptr} {t:Sh} (h:ShAt w B q t):t.parts.length=0\/ ∃(g off:Nat) (qs:Nat->Ptr),q.P=some ⟨g,off,none⟩/\g < B/\(∀i (h:i < t.parts.length),Sh5 w g (off+i * 5) (t.parts[i]'h) (qs i))/\ ∀i (h:i < t.parts.length),ShAt w B (qs i) (t.parts[i]'h):=by
 cases h with
 | mk _ _ g off qs hs hn hp hc hr=>
  rcases hp with hp | ⟨hp,hg⟩
  {exact Or.inl hp}
  {exact Or.inr ⟨g,off,qs,hp,hg,hc,hr⟩}
theorem ShAt.of {w w':World} {B B':Nat} {q:Ptr} {t:Sh} (h:ShAt w B q t) (hB:B<=B') (hc: ∀g k,g < B->w'.cell? ⟨g,k,none⟩=w.cell? ⟨g,k,none⟩):ShAt w' B' q t:=by
 induction h with
 | mk q t g off qs hs hn hp hc' hr ih=>
  refine .mk q t g off qs hs ?_ ?_ ?_ ih
  {rcases hn with h | ⟨b,o,hA,hlt,hcc⟩
   {exact Or.inl h}
   {exact Or.inr ⟨b,o,hA,Nat.lt_of_lt_of_le hlt hB,fun i hi=>(hc b _ hlt).trans (hcc i hi)⟩}}
  {rcases hp with h | ⟨h,hg⟩
   {exact Or.inl h}
   {exact Or.inr ⟨h,Nat.lt_of_lt_of_le hg hB⟩}}
  {intro i hi;rcases hp with h | ⟨h,hg⟩
   {omega}
   {exact (hc' i hi).of (fun k=>hc g k hg)}}
theorem ShAt.keep {w w':World} {B B':Nat} {q:Ptr} {t:Sh} (h:ShAt w B q t) (hb:Below B' w w') (hB:B<=B'):ShAt w' B q t:=
 h.of (Nat.le_refl _) (fun g k hg=>hb.cell (p:=⟨g,k,none⟩) (Nat.lt_of_lt_of_le hg hB))
theorem ShAt.more {w:World} {B B':Nat} {q:Ptr} {t:Sh} (h:ShAt w B q t) (hB:B<=B'):ShAt w B' q t:=h.of hB (fun _ _ _=>rfl)
theorem ShAt.next {w w':World} {q:Ptr} {t:Sh} (h:ShAt w w.heap.size q t) (hb:Below w.heap.size w w'):ShAt w' w'.heap.size q t:=(h.keep hb (Nat.le_refl _)).more hb.size
def Box5 (w:World) (g:Nat) (t:Sh) (q:Ptr):Prop:=
 g < w.heap.size/\Sh5 w g 0 t q/\w.frozen? ⟨g,0,none⟩=false/\w.frozen? ⟨g,1,none⟩=false/\w.frozen? ⟨g,2,none⟩=false/\w.frozen? ⟨g,3,none⟩=false/\w.frozen? ⟨g,4,none⟩=false
theorem Box5.keep {W W':World} {g B:Nat} {t:Sh} {q:Ptr} (h:Box5 W g t q) (hg:g < B) (hb:Below B W W'):Box5 W' g t q:=by
 obtain ⟨h0,h1,f0,f1,f2,f3,f4⟩:=h;exact ⟨Nat.lt_of_lt_of_le h0 hb.size,h1.keep hg hb,(hb.frozen (p:=⟨g,0,none⟩) hg).trans f0,(hb.frozen (p:=⟨g,1,none⟩) hg).trans f1,(hb.frozen (p:=⟨g,2,none⟩) hg).trans f2,(hb.frozen (p:=⟨g,3,none⟩) hg).trans f3,(hb.frozen (p:=⟨g,4,none⟩) hg).trans f4⟩
theorem Box5.next {W W':World} {g:Nat} {t:Sh} {q:Ptr} (h:Box5 W g t q) (hb:Below W.heap.size W W'):Box5 W' g t q:=h.keep h.1 hb
theorem Z07 (w:World) (t:Sh) (q:Ptr):Box5 (w.alloc (.cells (Y8 t q) 25)) w.heap.size t q:=
 ⟨by simp,⟨by simp[go_sem],by simp[go_sem],by simp[go_sem],by simp[go_sem],by simp[go_sem]⟩,by simp[go_sem],by simp[go_sem],by simp[go_sem],by simp[go_sem],by simp[go_sem]⟩
theorem Z0d (b off k:Nat): (⟨b,off,none⟩:Addr).add k=⟨b,off+k,none⟩:=by unfold Addr.add; split <;> simp_all
theorem Z9Y (ss:List ByteArray):strs (ss.map fun s=>s.data.toList)=ss:=by
 unfold strs;rw[List.map_map]
 conv=>rhs; rw[<-List.map_id ss]
 rfl
section
variable {H : Type} {enc : TypeId × Value -> H} {W : World} {base : Nat} {held : Bool}
theorem Z8I {fuel:Nat} {cs:List Value} {x:DataW H×List MemPlace} (h:DataW.trod enc Tryd.prog W base (fun _=>true) held fuel 22 cs=some x):
 ∃(A:Option Addr) (l:List (List UInt8)) (c:Nat),cs= [.slice A l.length c]/\Strs W W.heap.size A (strs l)/\l.length<=9223372036854775807/\l.length<=c/\(A=none->c=0)/\ ∀y∈l,y.length<=9223372036854775807:=by
 rcases Go.ChangeShapes.open_strings Tryd.underlying22 Tryd.underlying9 (by kernel_rfl) h with ⟨hcs,_⟩ | ⟨a,len,cap,ss,hcs,_,hl,hm,hz,_,hcell,hws⟩
 {exact ⟨none,[],0,hcs,Or.inl rfl,by simp,by simp,fun _=>rfl,by simp⟩}
 {have hz':ss.length=cap:=by simpa using hz
  unfold maxLen at hm;refine ⟨some a,(ss.take len).map (fun s=>s.data.toList),cap, ?_, ?_, ?_, ?_,by simp, ?_⟩
  {rw[hcs,List.length_map,List.length_take,Nat.min_eq_left (by omega)]}
  {rw[Z9Y]; exact Z3D hcell}
  {rw[List.length_map,List.length_take]; omega}
  {rw[List.length_map,List.length_take]; omega}
  {intro y hy;obtain ⟨s,hs,rfl⟩:=List.mem_map.1 hy;have:=hws s (List.mem_of_mem_take hs);unfold maxLen at this
   rwa [Lib.size_eq] at this}}
theorem Z2e: ∀(fuel:Nat) {cs:List Value} {x:DataW H×List MemPlace},DataW.trod enc Tryd.prog W base (fun _=>true) held fuel 25 cs=some x->
 ∃(t:Sh) (q:Ptr),cs= [.int .i64 t.kind,.string ⟨t.of_.toArray⟩,.string ⟨t.name.toArray⟩,.slice q.A t.names.length q.c,.slice q.P t.parts.length q.d]/\ShAt W W.heap.size q t:=by
 intro fuel;induction fuel using Nat.strongRecOn with
 | _ fuel IH=>
 intro cs x h;obtain ⟨xs,n,hn,_,hlen,hxl,hf⟩:=DataW.trod_struct Tryd.underlying25 h;have hC:Tryd.prog.cellsOf 25=5:=by kernel_rfl
 have c1:Tryd.prog.cellsOf 3=1:=by kernel_rfl
 have c9:Tryd.prog.cellsOf 9=1:=by kernel_rfl
 have c22:Tryd.prog.cellsOf 22=1:=by kernel_rfl
 have c23:Tryd.prog.cellsOf 23=1:=by kernel_rfl
 rw[hC] at hlen
 match cs,hlen with
 | [a0,a1,a2,a3,a4],_=>
  have f0:=hf 0 _ rfl;have f1:=hf 1 _ rfl;have f2:=hf 2 _ rfl;have f3:=hf 3 _ rfl;have f4:=hf 4 _ rfl;have hz:xs.length=5:=hxl;change DataW.trod enc _ W base _ held n 3 (([a0,a1,a2,a3,a4].drop 0).take (Tryd.prog.cellsOf 3))=_ at f0;change DataW.trod enc _ W base _ held n 9 (([a0,a1,a2,a3,a4].drop 1).take (Tryd.prog.cellsOf 9))=_ at f1;change DataW.trod enc _ W base _ held n 9 (([a0,a1,a2,a3,a4].drop 2).take (Tryd.prog.cellsOf 9))=_ at f2;change DataW.trod enc _ W base _ held n 22 (([a0,a1,a2,a3,a4].drop 3).take (Tryd.prog.cellsOf 22))=_ at f3;change DataW.trod enc _ W base _ held n 23 (([a0,a1,a2,a3,a4].drop 4).take (Tryd.prog.cellsOf 23))=_ at f4;rw[c1,List.getElem?_eq_getElem (by omega)] at f0;rw[c9,List.getElem?_eq_getElem (by omega)] at f1 f2;rw[c22,List.getElem?_eq_getElem (by omega)] at f3;rw[c23,List.getElem?_eq_getElem (by omega)] at f4;obtain ⟨b0,hb0,_,_⟩:=DataW.trod_int Tryd.underlying3 f0;obtain ⟨b1,hb1,_,hm1⟩:=DataW.trod_string Tryd.underlying9 f1;obtain ⟨b2,hb2,_,hm2⟩:=DataW.trod_string Tryd.underlying9 f2;obtain ⟨A,l,c,hb3,hS,hl,hlc,hA0,hly⟩:=Z8I f3;unfold maxLen at hm1 hm2;simp at hb0 hb1 hb2 hb3;subst hb0 hb1 hb2 hb3;rcases DataW.trod_slice Tryd.underlying23 f4 with ⟨hb4,_⟩ | ⟨a,len,cap,elems,rest,n2,hn2,hb4,_,hb,hle,hmm,hel,hx,_⟩
  {simp at hb4;subst hb4;exact ⟨⟨b0,b1.data.toList,b2.data.toList,l,[]⟩,⟨A,c,none,0⟩,rfl,
    .mk _ _ 0 0 (fun _=>⟨none,0,none,0⟩) ⟨by rw[<-Lib.size_eq]; exact hm1,by rw[<-Lib.size_eq]; exact hm2,hly,hl,by simp,hlc,by simp,hA0,fun _=>rfl⟩ hS (Or.inl rfl) (fun i h=>absurd h (by simp)) (fun i h=>absurd h (by simp))⟩}
  {simp at hb4;subst hb4;unfold maxLen at hmm;have hv: ∀i,∃u:Sh×Ptr,i < len->W.cell? (a.add (i * 5+0))=some (.int .i64 u.1.kind)/\W.cell? (a.add (i * 5+1))=some (.string ⟨u.1.of_.toArray⟩)/\W.cell? (a.add (i * 5+2))=some (.string ⟨u.1.name.toArray⟩)/\
    W.cell? (a.add (i * 5+3))=some (.slice u.2.A u.1.names.length u.2.c)/\W.cell? (a.add (i * 5+4))=some (.slice u.2.P u.1.parts.length u.2.d)/\ShAt W W.heap.size u.2 u.1:=by
    intro i;by_cases hi:i < len
    {have h1:=hx i hi;rw[hC,List.getElem?_eq_getElem (by omega)] at h1;cases hcs:W.cells? base (a.add (i * 5)) 5 with
     | none=>rw[hcs] at h1; cases h1
     | some cs'=>
      rw[hcs] at h1;obtain ⟨u,q,hu,hat⟩:=IH n2 (by omega) h1;subst hu;obtain ⟨_,hcl,hat'⟩:=World.cells?_some hcs;refine ⟨(u,q),fun _=>⟨?_, ?_, ?_, ?_, ?_,hat⟩⟩
      {rw[<-Go.Deep.add_add]; exact hat' 0 (by omega)}
      {rw[<-Go.Deep.add_add]; exact hat' 1 (by omega)}
      {rw[<-Go.Deep.add_add]; exact hat' 2 (by omega)}
      {rw[<-Go.Deep.add_add]; exact hat' 3 (by omega)}
      {rw[<-Go.Deep.add_add]; exact hat' 4 (by omega)}}
    {exact ⟨(⟨0,[],[],[],[]⟩,⟨none,0,none,0⟩),fun h=>absurd h hi⟩}
   let f:=fun i=>(hv i).choose
   have hf2: ∀i,i < len->W.cell? (a.add (i * 5+0))=some (.int .i64 (f i).1.kind)/\W.cell? (a.add (i * 5+1))=some (.string ⟨(f i).1.of_.toArray⟩)/\W.cell? (a.add (i * 5+2))=some (.string ⟨(f i).1.name.toArray⟩)/\
    W.cell? (a.add (i * 5+3))=some (.slice (f i).2.A (f i).1.names.length (f i).2.c)/\W.cell? (a.add (i * 5+4))=some (.slice (f i).2.P (f i).1.parts.length (f i).2.d)/\ShAt W W.heap.size (f i).2 (f i).1:=fun i=>(hv i).choose_spec
   have hln: ((List.range len).map fun i=>(f i).1).length=len:=by simp
   refine ⟨⟨b0,b1.data.toList,b2.data.toList,l,(List.range len).map fun i=>(f i).1⟩,⟨A,c,some a,cap⟩,by simp, ?_⟩;obtain ⟨b,off,spot⟩:=a;have hsm:Small ⟨b0,b1.data.toList,b2.data.toList,l,(List.range len).map fun i=>(f i).1⟩ ⟨A,c,some ⟨b,off,spot⟩,cap⟩:=
    ⟨by rw[<-Lib.size_eq]; exact hm1,by rw[<-Lib.size_eq]; exact hm2,hly,hl,by simp; omega,hlc,by simp; omega,hA0,fun h=>by cases h⟩
   by_cases h0:len=0
   {exact .mk _ _ 0 0 (fun _=>⟨none,0,none,0⟩) hsm hS (Or.inl (by simp[h0])) (fun i h=>absurd h (by simp[h0])) (fun i h=>absurd h (by simp[h0]))}
   {have h1:=(hf2 0 (by omega)).1;have hspot:spot=none:=by simpa[Addr.add] using World.cell?_spot h1
    subst hspot;have hplain: ∀k,(⟨b,off,none⟩:Addr).add k=⟨b,off+k,none⟩:=fun k=>Z0d b off k;refine .mk _ _ b off (fun i=>(f i).2) hsm hS (Or.inr ⟨rfl, ?_⟩) ?_ ?_
    {rw[hplain] at h1;exact Z1N h1}
    {intro i hi;have hin:i < len:=by simpa using hi
     obtain ⟨g0,g1,g2,g3,g4,_⟩:=hf2 i hin;simp only[hplain] at g0 g1 g2 g3 g4;simp only[List.getElem_map,List.getElem_range];exact ⟨g0,g1,g2,g3,g4⟩}
    {intro i hi;have hin:i < len:=by simpa using hi
     simp only[List.getElem_map,List.getElem_range];exact (hf2 i hin).2.2.2.2.2}}}
end
end Go.Proofs.YtmeiijjpomcgcaaDoor
namespace Go.Proofs.YtmeiijjpomcgcaaDoor
section
open Go.RowKit Shp
theorem Z1w (l:List (List UInt8)): (strs l).length=l.length:=by simp[strs]
structure TxR (W:World) (g:Nat) (ts:List (List UInt8)):Prop where
 lt:g < W.heap.size
 at_: ∀j (h:j < ts.length),W.cell? ⟨g,j,none⟩=some (.string ⟨(ts[j]'h).toArray⟩)
 fz: ∀o,W.frozen? ⟨g,o,none⟩=false
theorem TxR.keep {W W':World} {g B:Nat} {ts:List (List UInt8)} (h:TxR W g ts) (hg:g < B) (hb:Below B W W'):TxR W' g ts:=
 ⟨Nat.lt_of_lt_of_le h.lt hb.size,fun j hj=>(hb.cell (p:=⟨g,j,none⟩) hg).trans (h.at_ j hj),fun o=>(hb.frozen (p:=⟨g,o,none⟩) hg).trans (h.fz o)⟩
theorem TxR.next {W W':World} {g:Nat} {ts:List (List UInt8)} (h:TxR W g ts) (hb:Below W.heap.size W W'):TxR W' g ts:=h.keep h.lt hb
theorem Strs.cell7 {w:World} {B:Nat} {A:Option Addr} {l:List (List UInt8)} (h:Strs w B A (strs l)):l.length=0\/ ∃g off,A=some ⟨g,off,none⟩/\g < B/\ ∀i (hi:i < l.length),w.cell? ⟨g,off+i,none⟩=some (.string ⟨(l[i]'hi).toArray⟩):=by
 rcases h with h | ⟨g,off,hA,hg,hc⟩
 {exact Or.inl (by rwa [Z1w] at h)}
 {refine Or.inr ⟨g,off,hA,hg,fun i hi=> ?_⟩;rw[hc i (by rwa [Z1w])];simp[strs]}
end
end Go.Proofs.YtmeiijjpomcgcaaDoor
namespace Shp
section
theorem Z7j (l:List Sh):deeps l<=sizes l:=by
 induction l with
 | nil=>simp[deeps]
 | cons a l ih=>have:=Z1i a; simp[deeps,sizes]; omega
theorem Z5u (l:List (List UInt8)):noDup l=true ↔ l.Nodup:=by
 induction l with
 | nil=>simp[noDup]
 | cons a l ih=>simp[noDup,ih]
theorem Z0G (l:List (List UInt8)):areNames l=true ↔ (∀x∈l,Lex.isName x=true)/\l.Nodup:=by
 simp[areNames,Z5u]
section
variable {l : List (List UInt8)}
include l
theorem Z3Q {i:Nat} (hi:i < l.length) (h:Lex.isName (l[i]'hi)=false):areNames l=false:=by
 cases e:areNames l with
 | false=>rfl
 | true=>rw[((Z0G l).1 e).1 _ (List.getElem_mem hi)] at h; cases h
theorem Z37 {i k:Nat} (hi:i < l.length) (hk:k < i) (h:l[k]'(by omega)=l[i]'hi):areNames l=false:=by
 cases e:areNames l with
 | false=>rfl
 | true=>
  have:=((Z0G l).1 e).2;have:=(List.pairwise_iff_getElem.1 this) k i (by omega) hi hk;exact absurd h this
theorem Z4h (h1: ∀i (hi:i < l.length),Lex.isName (l[i]'hi)=true) (h2: ∀i (hi:i < l.length),∀k (hk:k < i),l[k]'(by omega)≠l[i]'hi):areNames l=true:=by
 refine (Z0G l).2 ⟨fun x hx=> ?_, ?_⟩
 {obtain ⟨i,hi,rfl⟩:=List.getElem_of_mem hx; exact h1 i hi}
 {exact List.pairwise_iff_getElem.2 (fun k i hk hi hki=>h2 i hi k hki)}
end
def ofOk (t:Sh):Bool:=Lex.isName t.of_||(t.of_== []&&decide (t.kind=9)&& !plain t.name)
section
variable {t : Sh}
include t
theorem Z29 (h:t.kind=9\/t.kind=10):fits t=(Lex.isUpper t.name&&ofOk t&&decide (t.names.length=0)&&decide (t.parts.length=0)):=by unfold fits ofOk; rw[if_pos h]
theorem Z0Z (h: ¬(t.kind=9\/t.kind=10)) (hb:bare t=false):fits t=false:=by unfold fits; rw[if_neg h,if_pos hb]
theorem Z2o (hb:bare t=true) (h:t.kind=6\/t.kind=7):fits t=(areNames t.names&&decide (t.names.length=t.parts.length)):=by
 unfold fits; rw[if_neg (by omega),if_neg (by rw[hb]; decide),if_pos h]
theorem Z1E (h: ¬(t.kind=9\/t.kind=10)) (hb:bare t=true) (h2: ¬(t.kind=6\/t.kind=7)) (h3:0 < t.names.length):fits t=false:=by
 unfold fits; rw[if_neg h,if_neg (by rw[hb]; decide),if_neg h2,if_pos h3]
theorem Z4B (hb:bare t=true) (h:t.kind=8) (h3: ¬0 < t.names.length):fits t=decide (1<=t.parts.length):=by
 unfold fits; rw[if_neg (by omega),if_neg (by rw[hb]; decide),if_neg (by omega),if_neg h3,if_pos h]
theorem Z3R (hb:bare t=true) (h:t.kind=5) (h3: ¬0 < t.names.length):fits t=decide (t.parts.length=1):=by
 unfold fits; rw[if_neg (by omega),if_neg (by rw[hb]; decide),if_neg (by omega),if_neg h3,if_neg (by omega),if_pos h]
theorem Z2C (hb:bare t=true) (h: ¬(t.kind=9\/t.kind=10)) (h2: ¬(t.kind=6\/t.kind=7)) (h3: ¬0 < t.names.length) (h4:t.kind≠8) (h5:t.kind≠5):
 fits t=(decide (1<=t.kind)&&decide (t.kind<=4)&&decide (t.parts.length=0)):=by
 unfold fits; rw[if_neg h,if_neg (by rw[hb]; decide),if_neg h2,if_neg h3,if_neg h4,if_neg h5]
end
theorem Z2p (t:Sh):bare t=true ↔ t.of_= []/\t.name= []:=by simp[bare]
theorem ZbV {t:Sh} (h: (t.of_== [])=false):bare t=false:=by simp[bare,h]
theorem Z9Z {t:Sh} (h: (t.name== [])=false):bare t=false:=by simp[bare,h]
theorem Z0b {t:Sh} (h:right t=true):fits t=true:=by rw[Z1v,Bool.and_eq_true] at h; exact h.1
theorem Z05 {t p:Sh} (h:right t=true) (hp:p∈t.parts):right p=true:=by
 rw[Z1v,Z1M,Bool.and_eq_true,List.all_eq_true] at h; exact h.2 p hp
theorem Z2q {t:Sh} (h:fits t=true) (hp: ∀p∈t.parts,right p=true):right t=true:=by
 rw[Z1v,Z1M,Bool.and_eq_true,List.all_eq_true]; exact ⟨h,hp⟩
theorem Za0 {t p:Sh} (hp:p∈t.parts) (h:right p=false):right t=false:=by
 cases e:right t with
 | false=>rfl
 | true=>rw[Z05 e hp] at h; cases h
end
end Shp
namespace Go.Proofs.YtmeiijjpomcgcaaDoor
section
open Go.RowKit
theorem Z4Q (l:List UInt8) (hl:l.length<=1000000) (w:World):
 Calls Tryd.prog 84 #[.string ⟨l.toArray⟩] w fun e w'=>e= .returned (.int .i64 (l.takeWhile Lex.nameB).length)/\w=w':=
 Z9X ⟨l.toArray⟩ (by rw[Z0J]; omega) w
theorem Z8J (c:UInt8) (r:List UInt8):Lex.isName (c::r)=(decide ((c::r).length<=24)&&Lex.small c&&(c::r).all Lex.nameB&& !Lex.isWord (c::r)):=rfl
theorem Z3o (l:List UInt8) (hl:l.length<=9223372036854775807) (w:World):
 Y9 64 #[.string ⟨l.toArray⟩] w (.bool (Lex.isName l)):=by
 cases l with
 | nil=>
  have HM:Hid (Lex.isName []=false):=Y1 rfl;go_enter Tryd.func64,Tryd.ntmps64;go_wp2;go_ret;exact ⟨by rw[HM.out]; rfl,Below.refl _ _⟩
 | cons c r=>
  have HM:=Y1 (Z8J c r);have HT:=Y1 (Lex.Z6e (p:=Lex.nameB) (s:=c::r));obtain ⟨l,hll⟩: ∃l:List UInt8,l=c::r:=⟨_,rfl⟩;rw[<-hll] at hl HM HT ⊢;have hz: (⟨l.toArray⟩:ByteArray).size=l.length:=Z0J _;have he:l.isEmpty=false:=by rw[hll]; rfl
  have hidx: ∀W,(Instr.index 9 (.string ⟨l.toArray⟩) (.int .i64 0)).run Tryd.prog W= .ok (.int .u8 c.toNat) W:=fun W=>by rw[hll]; rfl
  clear hll;by_cases h24:l.length<=24
  {have h24d:decide ((l.length:Int)<=24)=true:=decide_eq_true (by omega);cases h1:Lex.small c
   {have HF:Hid (Lex.isName l=false):=Y1 (by rw[HM.out,h1]; simp);go_enter Tryd.func64,Tryd.ntmps64
    go_wp2_with fail
    refine (Z12 c _).mono ?_;rintro e w2 ⟨rfl,rfl⟩;rw[h1];go_wp2;go_ret;exact ⟨by rw[HF.out]; rfl,Below.refl _ _⟩}
   {have H1:=Y1 h1;go_enter Tryd.func64,Tryd.ntmps64
    go_wp2_with fail
    refine (Z12 c _).mono ?_;rintro e w2 ⟨rfl,rfl⟩;rw[h1];clear h1
    go_wp2_with fail
    refine (Z4Q l (by omega) _).mono ?_;rintro e w2 ⟨rfl,rfl⟩;obtain ⟨k,hk⟩: ∃k,k=(l.takeWhile Lex.nameB).length:=⟨_,rfl⟩;rw[<-hk] at HT ⊢;clear hk;by_cases hkl:k=l.length
    {have hkd: ((k:Int)==(l.length:Int))=true:=by rw[beq_iff_eq]; omega
     have HA:Hid (l.all Lex.nameB=true):=Y1 (HT.out.1 hkl);have HF:Hid (Lex.isName l= !Lex.isWord l):=Y1 (by rw[HM.out,H1.out,HA.out,decide_eq_true h24]; simp);clear hkl
     go_wp2_with fail
     refine (Z8H l _).mono ?_;rintro e w2 ⟨rfl,hb2⟩;go_wp2;go_ret;exact ⟨by rw[HF.out]; rfl,hb2⟩}
    {have hkd: ((k:Int)==(l.length:Int))=false:=by rw[beq_eq_false_iff_ne]; omega
     have HF:Hid (Lex.isName l=false):=Y1 (by
      have:l.all Lex.nameB=false:=by
       cases hq:l.all Lex.nameB with
       | false=>rfl
       | true=>exact absurd (HT.out.2 hq) hkl
      rw[HM.out,this]; simp)
     clear hkl;go_wp2;go_ret;exact ⟨by rw[HF.out]; rfl,Below.refl _ _⟩}}}
  {have h24d:decide ((l.length:Int)<=24)=false:=decide_eq_false (by omega);have HF:Hid (Lex.isName l=false):=Y1 (by rw[HM.out,decide_eq_false h24]; rfl);go_enter Tryd.func64,Tryd.ntmps64;go_wp2;go_ret;exact ⟨by rw[HF.out]; rfl,Below.refl _ _⟩}
theorem Z7k (c:UInt8) (r:List UInt8):Lex.isUpper (c::r)=(decide ((c::r).length<=24)&&Lex.great c&&(c::r).all Lex.nameB):=rfl
theorem Z7l (l:List UInt8) (hl:l.length<=9223372036854775807) (w:World):
 Y9 65 #[.string ⟨l.toArray⟩] w (.bool (Lex.isUpper l)):=by
 cases l with
 | nil=>
  have HM:Hid (Lex.isUpper []=false):=Y1 rfl;go_enter Tryd.func65,Tryd.ntmps65;go_wp2;go_ret;exact ⟨by rw[HM.out]; rfl,Below.refl _ _⟩
 | cons c r=>
  have HM:=Y1 (Z7k c r);have HT:=Y1 (Lex.Z6e (p:=Lex.nameB) (s:=c::r));obtain ⟨l,hll⟩: ∃l:List UInt8,l=c::r:=⟨_,rfl⟩;rw[<-hll] at hl HM HT ⊢;have hz: (⟨l.toArray⟩:ByteArray).size=l.length:=Z0J _;have he:l.isEmpty=false:=by rw[hll]; rfl
  have hidx: ∀W,(Instr.index 9 (.string ⟨l.toArray⟩) (.int .i64 0)).run Tryd.prog W= .ok (.int .u8 c.toNat) W:=fun W=>by rw[hll]; rfl
  clear hll;by_cases h24:l.length<=24
  {have h24d:decide ((l.length:Int)<=24)=true:=decide_eq_true (by omega);cases h1:Lex.great c
   {have HF:Hid (Lex.isUpper l=false):=Y1 (by rw[HM.out,h1]; simp);go_enter Tryd.func65,Tryd.ntmps65
    go_wp2_with fail
    refine (Z1c c _).mono ?_;rintro e w2 ⟨rfl,rfl⟩;rw[h1];go_wp2;go_ret;exact ⟨by rw[HF.out]; rfl,Below.refl _ _⟩}
   {have H1:=Y1 h1;go_enter Tryd.func65,Tryd.ntmps65
    go_wp2_with fail
    refine (Z1c c _).mono ?_;rintro e w2 ⟨rfl,rfl⟩;rw[h1];clear h1
    go_wp2_with fail
    refine (Z4Q l (by omega) _).mono ?_;rintro e w2 ⟨rfl,rfl⟩;obtain ⟨k,hk⟩: ∃k,k=(l.takeWhile Lex.nameB).length:=⟨_,rfl⟩;rw[<-hk] at HT ⊢;clear hk;by_cases hkl:k=l.length
    {have hkd: ((k:Int)==(l.length:Int))=true:=by rw[beq_iff_eq]; omega
     have HA:Hid (l.all Lex.nameB=true):=Y1 (HT.out.1 hkl);have HF:Hid (Lex.isUpper l=true):=Y1 (by rw[HM.out,H1.out,HA.out,decide_eq_true h24]; rfl);clear hkl;go_wp2;go_ret;exact ⟨by rw[HF.out]; rfl,Below.refl _ _⟩}
    {have hkd: ((k:Int)==(l.length:Int))=false:=by rw[beq_eq_false_iff_ne]; omega
     have HF:Hid (Lex.isUpper l=false):=Y1 (by
      have:l.all Lex.nameB=false:=by
       cases hq:l.all Lex.nameB with
       | false=>rfl
       | true=>exact absurd (HT.out.2 hq) hkl
      rw[HM.out,this]; simp)
     clear hkl;go_wp2;go_ret;exact ⟨by rw[HF.out]; rfl,Below.refl _ _⟩}}}
  {have h24d:decide ((l.length:Int)<=24)=false:=decide_eq_false (by omega);have HF:Hid (Lex.isUpper l=false):=Y1 (by rw[HM.out,decide_eq_false h24]; rfl);go_enter Tryd.func65,Tryd.ntmps65;go_wp2;go_ret;exact ⟨by rw[HF.out]; rfl,Below.refl _ _⟩}
end
end Go.Proofs.YtmeiijjpomcgcaaDoor
