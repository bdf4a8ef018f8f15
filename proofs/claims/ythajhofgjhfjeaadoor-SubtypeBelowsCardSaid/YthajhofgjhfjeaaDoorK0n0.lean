/- What the proofs of SubtypeBelows want, part 0. -/
import Derived.Test.YthajhofgjhfjeaaDoorRows
import Derived.Lib.Hide
import Derived.Lib.Strings
import Derived.Lib.Builder
import Derived.BigQuiet
import Derived.Laws.Cover1
import Derived.SliceStrings
import Derived.OpenShut
import Derived.Deep.AppendLies
import Derived.StillTailTactics
import Derived.Deep.Fields
import Derived.DeepKeys4
import Derived.Deep.RegionHeld3
import Derived.WalkSpells
set_option linter.unusedVariables false
set_option linter.unusedSimpArgs false
set_option linter.unusedSectionVars false
set_option maxRecDepth 100000
set_option maxHeartbeats 16000000
namespace Utf
section
def pt (p:Int):Bool:=decide (0<=p)&&decide (p<=1114111)&&(decide (p < 55296)||decide (57343 < p))
def byte (x:Int):UInt8:=UInt8.ofNat (x % 256).toNat
def bytes (p:Int):List UInt8:=
 if p < 128 then [byte p]
 else if p < 2048 then [byte (192+p / 64),byte (128+p % 64)]
 else if p < 65536 then [byte (224+p / 4096),byte (128+p / 64 % 64),byte (128+p % 64)]
 else [byte (240+p / 262144),byte (128+p / 4096 % 64),byte (128+p / 64 % 64),byte (128+p % 64)]
def lead (a:Nat):Nat×Int:=
 if 240<=a then (4,(a:Int) - 240) else if 224<=a then (3,(a:Int) - 224) else if 192<=a then (2,(a:Int) - 192) else (1,a)
def val (p:Int):List UInt8->Int
 | []=>p
 | b::r=>val (p * 64+b.toNat - 128) r
def first:List UInt8->Int×Nat
 | []=>(0,0)
 | a::r=>
  if (lead a.toNat).1<=r.length+1/\pt (val (lead a.toNat).2 (r.take ((lead a.toNat).1 - 1)))=true/\
   bytes (val (lead a.toNat).2 (r.take ((lead a.toNat).1 - 1)))=(a::r).take (lead a.toNat).1
  then (val (lead a.toNat).2 (r.take ((lead a.toNat).1 - 1)),(lead a.toNat).1) else (0,0)
def enc (ps:List Int):List UInt8:=ps.flatMap bytes
def step (l:List UInt8) (k:Nat):Nat:=if (first (l.drop k)).2=0 then 1 else (first (l.drop k)).2
end
end Utf
namespace Sem
section
def dig (c:UInt8):Bool:=decide (48<=c.toNat)&&decide (c.toNat<=57)
def digits (l:List UInt8):Bool:= !l.isEmpty&&l.all dig
def parts:List UInt8->List (List UInt8)
 | []=> [[]]
 | c::r=>if c=46 then []::parts r else match parts r with
  | []=> [[c]]
  | p::ps=>(c::p)::ps
def join:List (List UInt8)->List UInt8
 | []=> []
 | [p]=>p
 | p::q::ps=>p++46::join (q::ps)
structure Ver where
 maj:Int
 min:Int
 pat:Int
 pre:List UInt8
deriving DecidableEq
def dec (n:Nat):List UInt8:=if h:n < 10 then [UInt8.ofNat (48+n)] else dec (n / 10)++ [UInt8.ofNat (48+n % 10)]
termination_by n
def text (v:Ver):List UInt8:=dec v.maj.toNat++46::(dec v.min.toNat++46::(dec v.pat.toNat++if v.pre= [] then [] else 45::v.pre))
def put (t:Nat×Nat×Nat) (k x:Nat):Nat×Nat×Nat:=if k=0 then (x,t.2.1,t.2.2) else if k=1 then (t.1,x,t.2.2) else (t.1,t.2.1,x)
def get (t:Nat×Nat×Nat) (k:Nat):Nat:=if k=0 then t.1 else if k=1 then t.2.1 else t.2.2
def num (l:List UInt8):Nat:=l.foldl (fun a c=>10 * a+(c.toNat - 48)) 0
def partKey (p:List UInt8):List Int:=if digits p then [0,(num p:Int)] else 1::p.map fun c=>(c.toNat:Int)
def preKey (p:List UInt8):List (List Int):=if p= [] then [[2]] else [1]::(parts p).map partKey
def key (v:Ver):List (List Int):= [v.maj]:: [v.min]:: [v.pat]::preKey v.pre
end
end Sem
namespace Lex
section
def small (c:UInt8):Bool:=decide (97<=c.toNat)&&decide (c.toNat<=122)
def great (c:UInt8):Bool:=decide (65<=c.toNat)&&decide (c.toNat<=90)
def digit (c:UInt8):Bool:=decide (48<=c.toNat)&&decide (c.toNat<=57)
def nameB (c:UInt8):Bool:=small c||great c||digit c||c==95
def words:List (List UInt8):= [[109,111,100,117,108,101],[105,109,112,111,114,116],[112,105,110],[114,97,110,103,101],[116,121,112,101],[111,112,97,113,117,101],[108,101,116],[105,110],[101,120,112,111,114,116],[102,117,110],[105,102],[116,104,101,110],[101,108,115,101],[99,97,115,101],[111,102],[97,115],[110,101,119],[114,97,119],[116,114,117,101],[102,97,108,115,101]]
def isWord (s:List UInt8):Bool:=words.contains s
def isName (s:List UInt8):Bool:=match s with
 | []=>false
 | c::_=>decide (s.length<=24)&&small c&&s.all nameB&& !isWord s
def isUpper (s:List UInt8):Bool:=match s with
 | []=>false
 | c::_=>decide (s.length<=24)&&great c&&s.all nameB
structure Tok where
 kind:Int
 text:List UInt8
deriving DecidableEq
end
end Lex
namespace Shp
section
structure Sh where
 kind:Int
 of_:List UInt8
 name:List UInt8
 names:List (List UInt8)
 parts:List Sh
mutual
def size:Sh->Nat
 | ⟨_,_,_,_,ps⟩=>1+sizes ps
def sizes:List Sh->Nat
 | []=>0
 | p::ps=>size p+sizes ps
end
mutual
def deep:Sh->Nat
 | ⟨_,_,_,_,ps⟩=>deeps ps+1
def deeps:List Sh->Nat
 | []=>0
 | p::ps=>max (deep p) (deeps ps)
end
theorem size_eq (t:Sh):size t=1+sizes t.parts:=by cases t; rfl
theorem Z0T (t:Sh):deep t=deeps t.parts+1:=by cases t; rfl
theorem Z1I (t:Sh):1<=size t:=by rw[size_eq]; omega
section
variable {l : List Sh} {p : Sh} (h : p ∈ l)
include l p h
theorem Z1O:size p<=sizes l:=by
 induction l with
 | nil=>cases h
 | cons a l ih=>
  rcases List.mem_cons.1 h with rfl | h
  {simp[sizes]}
  {have:=ih h; simp[sizes]; omega}
theorem Z2N:deep p<=deeps l:=by
 induction l with
 | nil=>cases h
 | cons a l ih=>
  rcases List.mem_cons.1 h with rfl | h
  {simp[deeps]; omega}
  {have:=ih h; simp[deeps]; omega}
end
theorem Sh.ind {P:Sh->Prop} (h: ∀t,(∀p∈t.parts,P p)->P t) (t:Sh):P t:=by
 have: ∀n t,size t<=n->P t:=by
  intro n;induction n with
  | zero=>intro t ht; have:=Z1I t; omega
  | succ n ih=>
   intro t ht;refine h t (fun p hp=>ih p ?_);have:=Z1O hp;rw[size_eq] at ht;omega
 exact this _ t (Nat.le_refl _)
theorem Z2O (l m:List Sh):sizes (l++m)=sizes l+sizes m:=by
 induction l with
 | nil=>simp[sizes]
 | cons a l ih=>simp[sizes,ih]; omega
theorem Z2P (l m:List Sh):deeps (l++m)=max (deeps l) (deeps m):=by
 induction l with
 | nil=>simp[deeps]
 | cons a l ih=>simp[deeps,ih,Nat.max_assoc]
theorem Z1P {α:Type} {l:List α} {i:Nat} (h:i < l.length):l.take (i+1)=l.take i++ [l[i]'h]:=by rw[List.take_succ_eq_append_getElem h]
section
variable {l : List Sh} {i : Nat} (h : i < l.length)
include l i h
theorem Z1a:sizes (l.take (i+1))=sizes (l.take i)+size (l[i]'h):=by rw[Z1P h,Z2O]; simp[sizes]
theorem Z2l:deeps (l.take (i+1))=max (deeps (l.take i)) (deep (l[i]'h)):=by rw[Z1P h,Z2P]; simp[deeps]
end
theorem Z2m (l:List Sh) (i:Nat):sizes (l.take i)<=sizes l:=by
 have:=Z2O (l.take i) (l.drop i);rw[List.take_append_drop] at this;omega
theorem Z2n (l:List Sh) (i:Nat):deeps (l.take i)<=deeps l:=by
 have:=Z2P (l.take i) (l.drop i);rw[List.take_append_drop] at this;omega
theorem Z0P (l:List Sh):l.length<=sizes l:=by
 induction l with
 | nil=>simp
 | cons a l ih=>have:=Z1I a; simp[sizes]; omega
theorem Z13 (t:Sh):deep t<=size t:=by
 induction t using Sh.ind with
 | h t ih=>
  rw[Z0T,size_eq];have: ∀l:List Sh,(∀p∈l,deep p<=size p)->deeps l<=sizes l:=by
   intro l;induction l with
   | nil=>simp[deeps]
   | cons a l ihl=>
    intro h;have h1:=h a (by simp);have h2:=ihl (fun p hp=>h p (by simp[hp]));simp[deeps,sizes]; omega
  have:=this _ ih;omega
def sizeTo (m:Nat) (t:Sh):Nat:=min (size t) (m+1)
def noDup:List (List UInt8)->Bool
 | []=>true
 | x::l=> !l.contains x&&noDup l
def areNames (l:List (List UInt8)):Bool:=l.all Lex.isName&&noDup l
def plain (s:List UInt8):Bool:=s== [73,110,116]||s== [66,111,111,108]||s== [84,101,120,116]||s== [65,110,121]
def bare (t:Sh):Bool:=t.of_== []&&t.name== []
def fits (t:Sh):Bool:=
 if t.kind=9\/t.kind=10 then Lex.isUpper t.name&&(Lex.isName t.of_||(t.of_== []&&decide (t.kind=9)&& !plain t.name))&&decide (t.names.length=0)&&decide (t.parts.length=0)
 else if bare t=false then false
 else if t.kind=6\/t.kind=7 then areNames t.names&&decide (t.names.length=t.parts.length)
 else if 0 < t.names.length then false
 else if t.kind=8 then decide (1<=t.parts.length)
 else if t.kind=5 then decide (t.parts.length=1)
 else decide (1<=t.kind)&&decide (t.kind<=4)&&decide (t.parts.length=0)
mutual
def right:Sh->Bool
 | ⟨k,o,n,ns,ps⟩=>fits ⟨k,o,n,ns,ps⟩&&rights ps
def rights:List Sh->Bool
 | []=>true
 | p::ps=>right p&&rights ps
end
theorem Z0Z (t:Sh):right t=(fits t&&rights t.parts):=by cases t; rfl
theorem Z1b (l:List Sh):rights l=l.all right:=by
 induction l with
 | nil=>rfl
 | cons a l ih=>simp[rights,ih]
def check (t:Sh):Int:=if 400 < size t then 3 else if 40 < deep t then 91 else if right t=false then 70 else 0
abbrev Fld:=List UInt8×Sh
def ins (x:Fld):List Fld->List Fld
 | []=> [x]
 | y::l=>if y.1 < x.1 then y::ins x l else x::y::l
def sortF (l:List Fld):List Fld:=l.foldl (fun a x=>ins x a) []
mutual
def sorted:Sh->Sh
 | ⟨k,o,n,ns,ps⟩=>if ns= [] then ⟨k,o,n,[],sorteds ps⟩ else ⟨k,o,n,(sortF (ns.zip (sorteds ps))).map Prod.fst,(sortF (ns.zip (sorteds ps))).map Prod.snd⟩
def sorteds:List Sh->List Sh
 | []=> []
 | p::ps=>sorted p::sorteds ps
end
theorem Z5z (l:List Sh):sorteds l=l.map sorted:=by
 induction l with
 | nil=>rfl
 | cons a l ih=>simp[sorteds,ih]
theorem Z09 (t:Sh):sorted t=if t.names= [] then ⟨t.kind,t.of_,t.name,[],t.parts.map sorted⟩ else ⟨t.kind,t.of_,t.name,(sortF (t.names.zip (t.parts.map sorted))).map Prod.fst,(sortF (t.names.zip (t.parts.map sorted))).map Prod.snd⟩:=by
 cases t with
 | mk k o n ns ps=>rw[<-Z5z]; rfl
mutual
def eqB:Sh->Sh->Bool
 | ⟨k,o,n,ns,ps⟩,⟨k',o',n',ns',ps'⟩=>k==k'&&o==o'&&n==n'&&ns==ns'&&eqs ps ps'
def eqs:List Sh->List Sh->Bool
 | [],[]=>true
 | p::ps,q::qs=>eqB p q&&eqs ps qs
 | [],_::_=>false
 | _::_,[]=>false
end
theorem Z7J (t u:Sh):eqB t u=(t.kind==u.kind&&t.of_==u.of_&&t.name==u.name&&t.names==u.names&&eqs t.parts u.parts):=by cases t; cases u; rfl
theorem Z3D {l:List Sh} (h: ∀p∈l,∀u,eqB p u=true ↔ p=u): ∀m,eqs l m=true ↔ l=m:=by
 induction l with
 | nil=>intro m; cases m <;> simp[eqs]
 | cons a l ih=>
  intro m;cases m with
  | nil=>simp[eqs]
  | cons b m=>simp[eqs,h a (by simp) b,ih (fun p hp=>h p (by simp[hp])) m]
theorem Z29 (t u:Sh):eqB t u=true ↔ t=u:=by
 induction t using Sh.ind generalizing u with
 | h t ih=>
  rw[Z7J];cases t; cases u;simp[Z3D ih,and_assoc]
theorem Z6r (l m:List Sh):eqs l m=true ↔ l=m:=Z3D (fun p _ u=>Z29 p u) m
theorem Z0Q (t:Sh):eqB t t=true:=(Z29 t t).2 rfl
theorem Z49 {t u:Sh} (h:t≠u):eqB t u=false:=by
 cases e:eqB t u with
 | false=>rfl
 | true=>exact absurd ((Z29 t u).1 e) h
def field (n t:List UInt8):List UInt8:=n++ [58,32]++t
def fields (ns ts:List (List UInt8)):List (List UInt8):=if ns= [] then ts else List.zipWith field ns ts
def named (t:Sh):List UInt8:=if t.of_= [] then t.name else t.of_++ [47]++t.name
def join (sep:List UInt8) (l:List (List UInt8)):List UInt8:=sep.intercalate l
def textOf (k:Int) (o n:List UInt8) (ns ts:List (List UInt8)):List UInt8:=
 if k=1 then [73,110,116] else if k=2 then [66,111,111,108] else if k=3 then [84,101,120,116] else if k=4 then [65,110,121]
 else if k=5 then [91]++ts.headD []++ [93]
 else if k=6 then [123]++join [44,32] (fields ns ts)++ [125]
 else if k=7 then [60]++join [32,124,32] (fields ns ts)++ [62]
 else if k=8 then [40]++join [44,32] ts.dropLast++ [41,32,45,62,32]++ts.getLastD []
 else if o= [] then n else o++ [47]++n
mutual
def text:Sh->List UInt8
 | ⟨k,o,n,ns,ps⟩=>textOf k o n ns (texts ps)
def texts:List Sh->List (List UInt8)
 | []=> []
 | p::ps=>text p::texts ps
end
end
end Shp
namespace Go.Proofs.YthajhofgjhfjeaaDoor
section
open Go.RowKit
theorem Z0K {B:Nat} {a w:World} (h:Below B a w) (n:Nat):Below B a (w.drewN n):=⟨h.os,h.tape,h.output,h.size,h.block⟩
abbrev Y9 (f:FuncId) (a:Array Value) (w:World) (v:Value):Prop:=Calls Tryd.prog f a w fun e w'=>e= .returned v/\Below w.heap.size w w'
abbrev Ya:Array Value:=#[.int .i64 0,.string ⟨#[]⟩,.string ⟨#[]⟩,.int .i64 0,.slice none 0 0,.slice none 0 0,.slice none 0 0,.slice none 0 0,.int .i64 0]
abbrev Yb:Array Value:=#[.int .i64 0,.string ⟨#[]⟩,.string ⟨#[]⟩,.slice none 0 0,.slice none 0 0]
abbrev Yc:Array Value:=#[.int .i64 0,.int .i64 0]
abbrev Yd:Array Value:=#[.int .i64 0,.string ⟨#[]⟩,.int .i64 0]
theorem Y1 {P:Prop} (h:P):Hid P:=Lib.hid h
theorem Y2 {B:Nat} {w:World}:Below B w w:=Below.refl _ _
section
variable {k n : Int} (m : Int) (h : k = n)
include k n m h
theorem Y3 (e: (n==m)=false): (k==m)=false:=by rw[h]; exact e
theorem Y4 (e: (n==m)=true): (k==m)=true:=by rw[h]; exact e
theorem Y5 (e: (n !=m)=false): (k !=m)=false:=by rw[h]; exact e
theorem Y6 (e: (n !=m)=true): (k !=m)=true:=by rw[h]; exact e
end
theorem Z0m (l:List UInt8): (⟨l.toArray⟩:ByteArray).size=l.length:=by simp[ByteArray.size]
theorem Z2a {B:Nat} {w w':World} (h:Below B w w') (hB:w.heap.size<=B) (row:Option Nat):w.grownBy w' row:=
 ⟨h.os,h.tape,h.output,h.size,fun i hi _=>h.block i (Nat.lt_of_lt_of_le hi hB)⟩
theorem Z00 {w W w':World} (h:Below w.heap.size w W) (hb:Below W.heap.size W w'):Below w.heap.size w w':=h.trans (hb.mono h.size)
theorem Z06 {w W:World} (h:Below w.heap.size w W) (o:Obj):Below w.heap.size w (W.alloc o):=h.alloc h.size o
theorem Z01 (w:World) (o:Obj):Below w.heap.size w (w.alloc o):=(Below.refl _ _).alloc (Nat.le_refl _) _
theorem flip {P:Program} {f:FuncId} {args:Array Value} {w:World} {v:Value} (h:Calls P f args w fun e w'=>e= .returned v/\w=w'):Calls P f args w fun e w'=>e= .returned v/\w'=w:=
 h.mono fun _ _ ⟨he,hw⟩=>⟨he,hw.symm⟩
theorem Z6s: ∀(x y:List UInt8),Op.bytesLess x y=decide (x < y)
 | x,[]=>by simp[Op.bytesLess]
 | [],_::_=>by simp[Op.bytesLess]
 | a::x,b::y=>by
  rw[Op.bytesLess,Z6s x y,Bool.eq_iff_iff];simp[List.cons_lt_cons_iff]
def Strs (w:World) (B:Nat) (A:Option Addr) (ss:List ByteArray):Prop:=
 ss.length=0\/ ∃b off,A=some ⟨b,off,none⟩/\b < B/\ ∀i (h:i < ss.length),w.cell? ⟨b,off+i,none⟩=some (.string (ss[i]'h))
theorem Strs.keep {w w':World} {B B':Nat} {A:Option Addr} {ss:List ByteArray} (h:Strs w B A ss) (hb:Below B' w w') (hB:B<=B'):Strs w' B A ss:=by
 rcases h with h | ⟨b,off,hA,hlt,hc⟩
 {exact Or.inl h}
 {exact Or.inr ⟨b,off,hA,hlt,fun i hi=>(hb.cell (p:=⟨b,off+i,none⟩) (Nat.lt_of_lt_of_le hlt hB)).trans (hc i hi)⟩}
theorem Strs.more {w:World} {B B':Nat} {A:Option Addr} {ss:List ByteArray} (h:Strs w B A ss) (hB:B<=B'):Strs w B' A ss:=by
 rcases h with h | ⟨b,off,hA,hlt,hc⟩
 {exact Or.inl h}
 {exact Or.inr ⟨b,off,hA,Nat.lt_of_lt_of_le hlt hB,hc⟩}
theorem Strs.next {w w':World} {A:Option Addr} {ss:List ByteArray} (h:Strs w w.heap.size A ss) (hb:Below w.heap.size w w'):Strs w' w'.heap.size A ss:=
 (h.keep hb (Nat.le_refl _)).more hb.size
theorem Z1y {w:World} {b o:Nat} {v:Value} (h:w.cell? ⟨b,o,none⟩=some v):b < w.heap.size:=by
 rcases Nat.lt_or_ge b w.heap.size with h' | h'
 {exact h'}
 {simp[World.cell?,Array.getElem?_eq_none h'] at h}
theorem Z2E {w:World} {a:Addr} {ss:List ByteArray} {len:Nat} (hc: ∀i,i < ss.length->w.cell? (a.add i)=some (.string (ss.getD i ByteArray.empty))):Strs w w.heap.size (some a) (ss.take len):=by
 by_cases h0: (ss.take len).length=0
 {exact Or.inl h0}
 {have hpos:0 < ss.length:=by rw[List.length_take] at h0; omega
  obtain ⟨b,off,spot⟩:=a;have h1:=hc 0 hpos;have hspot:spot=none:=by simpa[Addr.add] using World.cell?_spot h1
  subst hspot;refine Or.inr ⟨b,off,rfl,Z1y (o:=off) (by simpa[Addr.add] using h1),fun i hi=> ?_⟩;rw[List.length_take] at hi;have hplain: (⟨b,off,none⟩:Addr).add i=⟨b,off+i,none⟩:=by unfold Addr.add; split <;> simp_all
  rw[<-hplain,hc i (by omega),List.getElem_take];simp[List.getD,List.getElem?_eq_getElem (show i < ss.length by omega)]}
def strs (l:List (List UInt8)):List ByteArray:=l.map fun p=>⟨p.toArray⟩
end
end Go.Proofs.YthajhofgjhfjeaaDoor
namespace Lex
theorem Z6M {p:UInt8->Bool}: ∀ {s:List UInt8} {n:Nat},n<=s.length->(∀j (hj:j < s.length),j < n->p (s[j]'hj)=true)->(∀(h:n < s.length),p (s[n]'h)=false)->(s.takeWhile p).length=n
 | [],n,h,_,_=>by simp at h; simp[h]
 | x::r,0,_,_,h=>by
  have:=h (by simp);simp at this;rw[List.takeWhile_cons_of_neg (by simp[this])]; rfl
 | x::r,n+1,h1,h2,h3=>by
  have hx:=h2 0 (by simp) (by omega);simp at hx;rw[List.takeWhile_cons_of_pos hx,List.length_cons,Z6M (s:=r) (n:=n) (by simpa using h1) (fun j hj hn=>by
   have:=h2 (j+1) (by simpa using hj) (by omega);simpa using this) (fun h=>by
   have:=h3 (by simpa using h);simpa using this)]
def isIn (s:List UInt8) (l:List (List UInt8)):Bool:=l.contains s
theorem Z4L {p:UInt8->Bool}: ∀ {s:List UInt8},(s.takeWhile p).length=s.length ↔ s.all p=true
 | []=>by simp
 | x::r=>by
  by_cases hx:p x=true
  {rw[List.takeWhile_cons_of_pos hx,List.length_cons,List.length_cons,List.all_cons,hx,Bool.true_and, <-Z4L (s:=r)]; omega}
  {rw[List.takeWhile_cons_of_neg hx]; simp[hx]}
end Lex
namespace Go.Proofs.YthajhofgjhfjeaaDoor
open Go.RowKit
section
variable (c : UInt8) (w : World)
include c w
theorem Z0B:
 Calls Tryd.prog 90 #[.int .u8 (c.toNat:Int)] w fun e w'=>e= .returned (.bool (Lex.small c))/\w=w':=by
 have hlt:=c.toNat_lt;have H:c.toNat<=96\/(97<=c.toNat/\c.toNat<=122)\/123<=c.toNat:=by omega
 have HB:Hid (Lex.small c=(decide (97<=c.toNat)&&decide (c.toNat<=122))):=Y1 rfl;obtain ⟨n,hn⟩: ∃n,n=c.toNat:=⟨_,rfl⟩;rw[<-hn] at H HB hlt ⊢;clear hn;rcases H with h1 | ⟨h1,h2⟩ | h1
 {have h3:decide ((97:Int)<=(n:Int))=false:=decide_eq_false (by omega);go_enter Tryd.func90,Tryd.ntmps90;go_wp2;go_ret;exact ⟨by rw[HB.out,decide_eq_false (by omega)]; rfl,rfl⟩}
 {have h3:decide ((n:Int)<=122)=true:=decide_eq_true (by omega);have h4:decide ((97:Int)<=(n:Int))=true:=decide_eq_true (by omega);go_enter Tryd.func90,Tryd.ntmps90;go_wp2;go_ret;exact ⟨by rw[HB.out,decide_eq_true h1,decide_eq_true h2]; rfl,rfl⟩}
 {have h3:decide ((n:Int)<=122)=false:=decide_eq_false (by omega);have h4:decide ((97:Int)<=(n:Int))=true:=decide_eq_true (by omega);go_enter Tryd.func90,Tryd.ntmps90;go_wp2;go_ret;exact ⟨by rw[HB.out,decide_eq_false (p:=n<=122) (by omega),Bool.and_false]; rfl,rfl⟩}
theorem Z0L:
 Calls Tryd.prog 93 #[.int .u8 (c.toNat:Int)] w fun e w'=>e= .returned (.bool (Lex.great c))/\w=w':=by
 have hlt:=c.toNat_lt;have H:c.toNat<=64\/(65<=c.toNat/\c.toNat<=90)\/91<=c.toNat:=by omega
 have HB:Hid (Lex.great c=(decide (65<=c.toNat)&&decide (c.toNat<=90))):=Y1 rfl;obtain ⟨n,hn⟩: ∃n,n=c.toNat:=⟨_,rfl⟩;rw[<-hn] at H HB hlt ⊢;clear hn;rcases H with h1 | ⟨h1,h2⟩ | h1
 {have h3:decide ((65:Int)<=(n:Int))=false:=decide_eq_false (by omega);go_enter Tryd.func93,Tryd.ntmps93;go_wp2;go_ret;exact ⟨by rw[HB.out,decide_eq_false (by omega)]; rfl,rfl⟩}
 {have h3:decide ((n:Int)<=90)=true:=decide_eq_true (by omega);have h4:decide ((65:Int)<=(n:Int))=true:=decide_eq_true (by omega);go_enter Tryd.func93,Tryd.ntmps93;go_wp2;go_ret;exact ⟨by rw[HB.out,decide_eq_true h1,decide_eq_true h2]; rfl,rfl⟩}
 {have h3:decide ((n:Int)<=90)=false:=decide_eq_false (by omega);have h4:decide ((65:Int)<=(n:Int))=true:=decide_eq_true (by omega);go_enter Tryd.func93,Tryd.ntmps93;go_wp2;go_ret;exact ⟨by rw[HB.out,decide_eq_false (p:=n<=90) (by omega),Bool.and_false]; rfl,rfl⟩}
theorem Z1W:
 Calls Tryd.prog 100 #[.int .u8 (c.toNat:Int)] w fun e w'=>e= .returned (.bool (Lex.digit c))/\w=w':=by
 have hlt:=c.toNat_lt;have H:c.toNat<=47\/(48<=c.toNat/\c.toNat<=57)\/58<=c.toNat:=by omega
 have HB:Hid (Lex.digit c=(decide (48<=c.toNat)&&decide (c.toNat<=57))):=Y1 rfl;obtain ⟨n,hn⟩: ∃n,n=c.toNat:=⟨_,rfl⟩;rw[<-hn] at H HB hlt ⊢;clear hn;rcases H with h1 | ⟨h1,h2⟩ | h1
 {have h3:decide ((48:Int)<=(n:Int))=false:=decide_eq_false (by omega);go_enter Tryd.func100,Tryd.ntmps100;go_wp2;go_ret;exact ⟨by rw[HB.out,decide_eq_false (by omega)]; rfl,rfl⟩}
 {have h3:decide ((n:Int)<=57)=true:=decide_eq_true (by omega);have h4:decide ((48:Int)<=(n:Int))=true:=decide_eq_true (by omega);go_enter Tryd.func100,Tryd.ntmps100;go_wp2;go_ret;exact ⟨by rw[HB.out,decide_eq_true h1,decide_eq_true h2]; rfl,rfl⟩}
 {have h3:decide ((n:Int)<=57)=false:=decide_eq_false (by omega);have h4:decide ((48:Int)<=(n:Int))=true:=decide_eq_true (by omega);go_enter Tryd.func100,Tryd.ntmps100;go_wp2;go_ret;exact ⟨by rw[HB.out,decide_eq_false (p:=n<=57) (by omega),Bool.and_false]; rfl,rfl⟩}
end
section
variable {s : List UInt8} {l : List (List UInt8)}
include s l
theorem Z8U {i:Nat} (hi:i < l.length) (h: (s==l[i]'hi)=true):Lex.isIn s l=true:=by
 unfold Lex.isIn;rw[List.contains_iff_mem,beq_iff_eq.1 h]; exact List.getElem_mem _
theorem Z8V (h: ∀j (hj:j < l.length),(s==l[j]'hj)=false):Lex.isIn s l=false:=by
 unfold Lex.isIn;cases hq:l.contains s with
 | false=>rfl
 | true=>
  obtain ⟨j,hj,e⟩:=List.mem_iff_getElem.1 (List.contains_iff_mem.1 hq);have:=h j hj;rw[e] at this; simp at this
end
theorem Z6N (s:List UInt8) (A:Option Addr) (cap:Nat) (l:List (List UInt8)) (w:World) (hA:Strs w w.heap.size A (strs l)) (hl:l.length<=1000000):
 Calls Tryd.prog 101 #[.string ⟨s.toArray⟩,.slice A l.length cap] w fun e w'=>e= .returned (.bool (Lex.isIn s l))/\w=w':=by
 have HA:=Y1 hA;have hsl: (strs l).length=l.length:=by simp[strs]
 clear hA;go_enter Tryd.func101,Tryd.ntmps101
 go_wp2_with fail
 go_loopw [5] (fun ii wr=> ∃i:Nat,ii= .int .i64 i/\i<=l.length/\Hid (∀j (hj:j < l.length),j < i->(s==l[j]'hj)=false)/\w=wr)
  (fun i _=>l.length - (intOf i).toNat)
 case atStart=>exact ⟨0,rfl,Nat.zero_le _,Y1 (fun j _ hj=>absurd hj (by omega)),rfl⟩
 case round=>
  obtain ⟨i,rfl,hi,HN,rfl⟩:=hrel;by_cases hlt:i < l.length
  {have hi1: (i:Int) < (l.length:Int):=by omega
   rcases HA.out with h0 | ⟨g,off,rfl,hg,hc⟩
   {omega}
   {have hcell:=hc i (by omega);have e1: (strs l)[i]'(by omega)=⟨(l[i]'hlt).toArray⟩:=by simp[strs]
    rw[e1] at hcell;obtain ⟨p,hp⟩: ∃p,p=l[i]'hlt:=⟨_,rfl⟩;rw[<-hp] at hcell;have HP:=Y1 hp;clear hc e1 hp;cases hq: (s==p)
    {have HM:Hid ((s==l[i]'hlt)=false):=Y1 (by rw[<-HP.out]; exact hq);go_wp2
     go_roundw
     case rel=>exact ⟨i+1,by go_num,by omega,Y1 (fun j hj hji=>by
      rcases Nat.lt_succ_iff_lt_or_eq.1 hji with h | rfl
      {exact HN.out j hj h}
      · exact HM.out),trivial⟩
     case measure=>simp[intOf]; omega}
    {have HM:Hid (Lex.isIn s l=true):=Y1 (Z8U hlt (by rw[<-HP.out]; exact hq));go_wp2;go_ret;exact ⟨by rw[HM.out]; rfl,rfl⟩}}}
  {have hi1: ¬(i:Int) < (l.length:Int):=by omega
   have HM:Hid (Lex.isIn s l=false):=Y1 (Z8V (fun j hj=>HN.out j hj (by omega)));go_wp2;go_ret;exact ⟨by rw[HM.out]; rfl,rfl⟩}
theorem Z7M (W:World) (l:List (List UInt8)) (g:Nat) (hg:g=W.heap.size):Strs (W.alloc (.cells ((strs l).map Value.string).toArray 9)) (W.alloc (.cells ((strs l).map Value.string).toArray 9)).heap.size (some ⟨g,0,none⟩) (strs l):=by
 subst hg;refine Or.inr ⟨W.heap.size,0,rfl,by simp,fun i hi=> ?_⟩;rw[Nat.zero_add];simp[go_sem,hi]
theorem Z6O (s:List UInt8) (w:World):
 Y9 92 #[.string ⟨s.toArray⟩] w (.bool (Lex.isWord s)):=by
 have HS:Hid (Strs (w.alloc (.cells #[.string ⟨#[109,111,100,117,108,101]⟩,.string ⟨#[105,109,112,111,114,116]⟩,.string ⟨#[112,105,110]⟩,.string ⟨#[114,97,110,103,101]⟩,.string ⟨#[116,121,112,101]⟩,.string ⟨#[111,112,97,113,117,101]⟩,.string ⟨#[108,101,116]⟩,.string ⟨#[105,110]⟩,.string ⟨#[101,120,112,111,114,116]⟩,.string ⟨#[102,117,110]⟩,.string ⟨#[105,102]⟩,.string ⟨#[116,104,101,110]⟩,.string ⟨#[101,108,115,101]⟩,.string ⟨#[99,97,115,101]⟩,.string ⟨#[111,102]⟩,.string ⟨#[97,115]⟩,.string ⟨#[110,101,119]⟩,.string ⟨#[114,97,119]⟩,.string ⟨#[116,114,117,101]⟩,.string ⟨#[102,97,108,115,101]⟩] 9)) (w.alloc (.cells #[.string ⟨#[109,111,100,117,108,101]⟩,.string ⟨#[105,109,112,111,114,116]⟩,.string ⟨#[112,105,110]⟩,.string ⟨#[114,97,110,103,101]⟩,.string ⟨#[116,121,112,101]⟩,.string ⟨#[111,112,97,113,117,101]⟩,.string ⟨#[108,101,116]⟩,.string ⟨#[105,110]⟩,.string ⟨#[101,120,112,111,114,116]⟩,.string ⟨#[102,117,110]⟩,.string ⟨#[105,102]⟩,.string ⟨#[116,104,101,110]⟩,.string ⟨#[101,108,115,101]⟩,.string ⟨#[99,97,115,101]⟩,.string ⟨#[111,102]⟩,.string ⟨#[97,115]⟩,.string ⟨#[110,101,119]⟩,.string ⟨#[114,97,119]⟩,.string ⟨#[116,114,117,101]⟩,.string ⟨#[102,97,108,115,101]⟩] 9)).heap.size (some ⟨w.heap.size,0,none⟩) (strs Lex.words)):=Y1 (Z7M w Lex.words _ rfl);have hb:=Z01 w (.cells #[.string ⟨#[109,111,100,117,108,101]⟩,.string ⟨#[105,109,112,111,114,116]⟩,.string ⟨#[112,105,110]⟩,.string ⟨#[114,97,110,103,101]⟩,.string ⟨#[116,121,112,101]⟩,.string ⟨#[111,112,97,113,117,101]⟩,.string ⟨#[108,101,116]⟩,.string ⟨#[105,110]⟩,.string ⟨#[101,120,112,111,114,116]⟩,.string ⟨#[102,117,110]⟩,.string ⟨#[105,102]⟩,.string ⟨#[116,104,101,110]⟩,.string ⟨#[101,108,115,101]⟩,.string ⟨#[99,97,115,101]⟩,.string ⟨#[111,102]⟩,.string ⟨#[97,115]⟩,.string ⟨#[110,101,119]⟩,.string ⟨#[114,97,119]⟩,.string ⟨#[116,114,117,101]⟩,.string ⟨#[102,97,108,115,101]⟩] 9)
 have ha:=fun W h=>Z6N s (some ⟨w.heap.size,0,none⟩) 20 Lex.words W h (by decide);have HI:Hid (Lex.isWord s=Lex.isIn s Lex.words):=Y1 rfl;rw[show Lex.words.length=20 from rfl] at ha;go_enter Tryd.func92,Tryd.ntmps92
 go_wp2_with fail
 refine (ha _ HS.out).mono ?_;rintro e w1 ⟨rfl,rfl⟩;go_wp2;go_ret;exact ⟨by rw[HI.out]; rfl,hb⟩
theorem Z7N {c:UInt8}:Lex.nameB c=(Lex.small c||Lex.great c||Lex.digit c||c==95):=rfl
theorem Z3E (s:ByteArray) (n:Nat) (h:n < s.size) (W:World): (Instr.index 9 (.string s) (.int .i64 (n:Int))).run Tryd.prog W= .ok (.int .u8 (s[n]'h).toNat) W:=by
 rw[run_index_string (P:=Tryd.prog) _ _ _ _ _ Tryd.underlying9,dif_pos ⟨by omega,by omega⟩];simp
theorem Z6t (c:UInt8): ((c.toNat:Int)==95)=(c==95):=by
 rw[Bool.eq_iff_iff,beq_iff_eq,beq_iff_eq];constructor
 {intro h; apply UInt8.toNat_inj.1; show c.toNat=95; omega}
 {rintro rfl; rfl}
theorem Z7O (s:ByteArray) (hs:s.size<=9223372036854775806) (w:World):
 Calls Tryd.prog 91 #[.string s] w fun e w'=>e= .returned (.int .i64 (s.data.toList.takeWhile Lex.nameB).length)/\w=w':=by
 have hsl:s.data.toList.length=s.size:=(Lib.size_eq s).symm;go_enter Tryd.func91,Tryd.ntmps91
 go_wp2_with fail
 go_loopw [3] (fun ii wr=> ∃n:Nat,ii= .int .i64 n/\n<=s.size/\Hid (∀j (hj:j < s.data.toList.length),j < n->Lex.nameB (s.data.toList[j]'hj)=true)/\w=wr)
  (fun i _=>s.size - (intOf i).toNat)
 case atStart=>exact ⟨0,rfl,Nat.zero_le _,Y1 (fun j _ hj=>absurd hj (by omega)),rfl⟩
 case round=>
  obtain ⟨n,rfl,hn,HN,rfl⟩:=hrel;by_cases hlt:n < s.size
  {have hi1: (n:Int) < (s.size:Int):=by omega
   obtain ⟨c,hc⟩: ∃c,c=s[n]'hlt:=⟨_,rfl⟩;have hcl:s.data.toList[n]'(by omega)=c:=hc.symm;have HCL:=Y1 hcl;have hidx: ∀W,(Instr.index 9 (.string s) (.int .i64 (n:Int))).run Tryd.prog W= .ok (.int .u8 c.toNat) W:=fun W=>by
    rw[hc]; exact Z3E s n hlt W
   have hcn:=c.toNat_lt;have h95:=Z6t c;have HB:=Y1 (@Z7N c);clear hcl hc;have yes:Lex.nameB c=true->Hid (∀j (hj:j < s.data.toList.length),j < n+1->Lex.nameB (s.data.toList[j]'hj)=true):=fun h=>Y1 (fun j hj hji=>by
    rcases Nat.lt_succ_iff_lt_or_eq.1 hji with h' | rfl
    {exact HN.out j hj h'}
    · rw[HCL.out]; exact h)
   have no:Lex.nameB c=false->Hid ((s.data.toList.takeWhile Lex.nameB).length=n):=fun h=>Y1 (Lex.Z6M (by omega) HN.out (fun h'=>by rw[HCL.out]; exact h));cases h1:Lex.small c
   {cases h2:Lex.great c
    {cases h3:Lex.digit c
     {cases h4: (c==95)
      {rw[h4] at h95;have HM:=no (by rw[HB.out,h1,h2,h3,h4]; rfl);clear yes no
       go_wp2_with fail
       refine (Z0B c _).mono ?_;rintro e w2 ⟨rfl,rfl⟩;rw[h1]
       go_wp2_with fail
       refine (Z0L c _).mono ?_;rintro e w2 ⟨rfl,rfl⟩;rw[h2]
       go_wp2_with fail
       refine (Z1W c _).mono ?_;rintro e w2 ⟨rfl,rfl⟩;rw[h3];go_wp2;go_ret;exact ⟨by rw[HM.out]; rfl,rfl⟩}
      {rw[h4] at h95;have HM:=yes (by rw[HB.out,h1,h2,h3,h4]; rfl);clear yes no
       go_wp2_with fail
       refine (Z0B c _).mono ?_;rintro e w2 ⟨rfl,rfl⟩;rw[h1]
       go_wp2_with fail
       refine (Z0L c _).mono ?_;rintro e w2 ⟨rfl,rfl⟩;rw[h2]
       go_wp2_with fail
       refine (Z1W c _).mono ?_;rintro e w2 ⟨rfl,rfl⟩;rw[h3];go_wp2
       go_roundw
       case rel=>exact ⟨n+1,by go_num,by omega,HM,trivial⟩
       case measure=>simp[intOf]; omega}}
     {have HM:=yes (by rw[HB.out,h1,h2,h3]; rfl);clear yes no
      go_wp2_with fail
      refine (Z0B c _).mono ?_;rintro e w2 ⟨rfl,rfl⟩;rw[h1]
      go_wp2_with fail
      refine (Z0L c _).mono ?_;rintro e w2 ⟨rfl,rfl⟩;rw[h2]
      go_wp2_with fail
      refine (Z1W c _).mono ?_;rintro e w2 ⟨rfl,rfl⟩;rw[h3];go_wp2
      go_roundw
      case rel=>exact ⟨n+1,by go_num,by omega,HM,trivial⟩
      case measure=>simp[intOf]; omega}}
    {have HM:=yes (by rw[HB.out,h1,h2]; rfl);clear yes no
     go_wp2_with fail
     refine (Z0B c _).mono ?_;rintro e w2 ⟨rfl,rfl⟩;rw[h1]
     go_wp2_with fail
     refine (Z0L c _).mono ?_;rintro e w2 ⟨rfl,rfl⟩;rw[h2];go_wp2
     go_roundw
     case rel=>exact ⟨n+1,by go_num,by omega,HM,trivial⟩
     case measure=>simp[intOf]; omega}}
   {have HM:=yes (by rw[HB.out,h1]; rfl);clear yes no
    go_wp2_with fail
    refine (Z0B c _).mono ?_;rintro e w2 ⟨rfl,rfl⟩;rw[h1];go_wp2
    go_roundw
    case rel=>exact ⟨n+1,by go_num,by omega,HM,trivial⟩
    case measure=>simp[intOf]; omega}}
  {have hi1: ¬(n:Int) < (s.size:Int):=by omega
   have HM:Hid ((s.data.toList.takeWhile Lex.nameB).length=n):=Y1 (Lex.Z6M (by omega) HN.out (fun h'=>absurd h' (by omega)));go_wp2;go_ret;exact ⟨by rw[HM.out]; rfl,rfl⟩}
end Go.Proofs.YthajhofgjhfjeaaDoor
namespace Go.Proofs.YthajhofgjhfjeaaDoor
open Go.RowKit Shp
theorem Z0w {k:IntKind} {a b:Int} (h:a=b):Ending.returned (.int k a)= .returned (.int k b):=by rw[h]
theorem Z08 {a b:Bool} (h:a=b):Ending.returned (.bool a)= .returned (.bool b):=by rw[h]
structure Ptr where
 A:Option Addr
 c:Nat
 P:Option Addr
 d:Nat
abbrev Y8 (t:Shp.Sh) (q:Ptr):Array Value:=#[.int .i64 t.kind,.string ⟨t.of_.toArray⟩,.string ⟨t.name.toArray⟩,.slice q.A t.names.length q.c,.slice q.P t.parts.length q.d]
def Sh5 (w:World) (g o:Nat) (t:Sh) (q:Ptr):Prop:=
 w.cell? ⟨g,o,none⟩=some (.int .i64 t.kind)/\w.cell? ⟨g,o+1,none⟩=some (.string ⟨t.of_.toArray⟩)/\w.cell? ⟨g,o+2,none⟩=some (.string ⟨t.name.toArray⟩)/\
 w.cell? ⟨g,o+3,none⟩=some (.slice q.A t.names.length q.c)/\w.cell? ⟨g,o+4,none⟩=some (.slice q.P t.parts.length q.d)
theorem Sh5.of {w w':World} {g o:Nat} {t:Sh} {q:Ptr} (h:Sh5 w g o t q) (hc: ∀k,w'.cell? ⟨g,k,none⟩=w.cell? ⟨g,k,none⟩):Sh5 w' g o t q:=by
 obtain ⟨h0,h1,h2,h3,h4⟩:=h;exact ⟨(hc _).trans h0,(hc _).trans h1,(hc _).trans h2,(hc _).trans h3,(hc _).trans h4⟩
theorem Sh5.keep {w w':World} {g o B:Nat} {t:Sh} {q:Ptr} (h:Sh5 w g o t q) (hg:g < B) (hb:Below B w w'):Sh5 w' g o t q:=
 h.of (fun k=>hb.cell (p:=⟨g,k,none⟩) hg)
structure Small (t:Sh) (q:Ptr):Prop where
 o:t.of_.length<=9223372036854775807
 n:t.name.length<=9223372036854775807
 ns: ∀x∈t.names,x.length<=9223372036854775807
 l:t.names.length<=9223372036854775807
 m:t.parts.length<=9223372036854775807
 c:t.names.length<=q.c
 d:t.parts.length<=q.d
 A0:q.A=none->q.c=0
 P0:q.P=none->q.d=0
inductive ShAt (w:World) (B:Nat):Ptr->Sh->Prop
 | mk (q:Ptr) (t:Sh) (g off:Nat) (qs:Nat->Ptr) (hs:Small t q) (hn:Strs w B q.A (strs t.names)) (hp:t.parts.length=0\/q.P=some ⟨g,off,none⟩/\g < B)
  (hc: ∀i (h:i < t.parts.length),Sh5 w g (off+i * 5) (t.parts[i]'h) (qs i)) (hr: ∀i (h:i < t.parts.length),ShAt w B (qs i) (t.parts[i]'h)):ShAt w B q t
theorem ShAt.small {w:World} {B:Nat} {q:Ptr} {t:Sh} (h:ShAt w B q t):Small t q:=by cases h; assumption
theorem ShAt.strs {w:World} {B:Nat} {q:Ptr} {t:Sh} (h:ShAt w B q t):Strs w B q.A (strs t.names):=by cases h; assumption
theorem ShAt.part {w:World} {B:Nat} {q:Ptr} {t:Sh} (h:ShAt w B q t):t.parts.length=0\/ ∃(g off:Nat) (qs:Nat->Ptr),q.P=some ⟨g,off,none⟩/\g < B/\(∀i (h:i < t.parts.length),Sh5 w g (off+i * 5) (t.parts[i]'h) (qs i))/\ ∀i (h:i < t.parts.length),ShAt w B (qs i) (t.parts[i]'h):=by
 cases h with
 | mk _ _ g off qs hs hn hp hc hr=>
  rcases hp with hp | ⟨hp,hg⟩
  {exact Or.inl hp}
  {exact Or.inr ⟨g,off,qs,hp,hg,hc,hr⟩}
theorem ShAt.of {w w':World} {B B':Nat} {q:Ptr} {t:Sh} (h:ShAt w B q t) (hB:B<=B') (hc: ∀g k,g < B->w'.cell? ⟨g,k,none⟩=w.cell? ⟨g,k,none⟩):ShAt w' B' q t:=by
 induction h with
 | mk q t g off qs hs hn hp hc' hr ih=>
  refine .mk q t g off qs hs ?_ ?_ ?_ ih
  {rcases hn with h | ⟨b,o,hA,hlt,hcc⟩
   {exact Or.inl h}
   {exact Or.inr ⟨b,o,hA,Nat.lt_of_lt_of_le hlt hB,fun i hi=>(hc b _ hlt).trans (hcc i hi)⟩}}
  {rcases hp with h | ⟨h,hg⟩
   {exact Or.inl h}
   {exact Or.inr ⟨h,Nat.lt_of_lt_of_le hg hB⟩}}
  {intro i hi;rcases hp with h | ⟨h,hg⟩
   {omega}
   {exact (hc' i hi).of (fun k=>hc g k hg)}}
theorem ShAt.keep {w w':World} {B B':Nat} {q:Ptr} {t:Sh} (h:ShAt w B q t) (hb:Below B' w w') (hB:B<=B'):ShAt w' B q t:=
 h.of (Nat.le_refl _) (fun g k hg=>hb.cell (p:=⟨g,k,none⟩) (Nat.lt_of_lt_of_le hg hB))
theorem ShAt.more {w:World} {B B':Nat} {q:Ptr} {t:Sh} (h:ShAt w B q t) (hB:B<=B'):ShAt w B' q t:=h.of hB (fun _ _ _=>rfl)
theorem ShAt.next {w w':World} {q:Ptr} {t:Sh} (h:ShAt w w.heap.size q t) (hb:Below w.heap.size w w'):ShAt w' w'.heap.size q t:=(h.keep hb (Nat.le_refl _)).more hb.size
def Box5 (w:World) (g:Nat) (t:Sh) (q:Ptr):Prop:=
 g < w.heap.size/\Sh5 w g 0 t q/\w.frozen? ⟨g,0,none⟩=false/\w.frozen? ⟨g,1,none⟩=false/\w.frozen? ⟨g,2,none⟩=false/\w.frozen? ⟨g,3,none⟩=false/\w.frozen? ⟨g,4,none⟩=false
theorem Box5.keep {W W':World} {g B:Nat} {t:Sh} {q:Ptr} (h:Box5 W g t q) (hg:g < B) (hb:Below B W W'):Box5 W' g t q:=by
 obtain ⟨h0,h1,f0,f1,f2,f3,f4⟩:=h;exact ⟨Nat.lt_of_lt_of_le h0 hb.size,h1.keep hg hb,(hb.frozen (p:=⟨g,0,none⟩) hg).trans f0,(hb.frozen (p:=⟨g,1,none⟩) hg).trans f1,(hb.frozen (p:=⟨g,2,none⟩) hg).trans f2,(hb.frozen (p:=⟨g,3,none⟩) hg).trans f3,(hb.frozen (p:=⟨g,4,none⟩) hg).trans f4⟩
theorem Box5.next {W W':World} {g:Nat} {t:Sh} {q:Ptr} (h:Box5 W g t q) (hb:Below W.heap.size W W'):Box5 W' g t q:=h.keep h.1 hb
theorem Z03 (w:World) (t:Sh) (q:Ptr):Box5 (w.alloc (.cells (Y8 t q) 25)) w.heap.size t q:=
 ⟨by simp,⟨by simp[go_sem],by simp[go_sem],by simp[go_sem],by simp[go_sem],by simp[go_sem]⟩,by simp[go_sem],by simp[go_sem],by simp[go_sem],by simp[go_sem],by simp[go_sem]⟩
theorem Z1z (b off k:Nat): (⟨b,off,none⟩:Addr).add k=⟨b,off+k,none⟩:=by unfold Addr.add; split <;> simp_all
theorem Z7P (ss:List ByteArray):strs (ss.map fun s=>s.data.toList)=ss:=by
 unfold strs;rw[List.map_map]
 conv=>rhs; rw[<-List.map_id ss]
 rfl
section
variable {H : Type} {enc : TypeId × Value -> H} {W : World} {base : Nat} {held : Bool}
theorem Z6P {fuel:Nat} {cs:List Value} {x:DataW H×List MemPlace} (h:DataW.trod enc Tryd.prog W base (fun _=>true) held fuel 22 cs=some x):
 ∃(A:Option Addr) (l:List (List UInt8)) (c:Nat),cs= [.slice A l.length c]/\Strs W W.heap.size A (strs l)/\l.length<=9223372036854775807/\l.length<=c/\(A=none->c=0)/\ ∀y∈l,y.length<=9223372036854775807:=by
 rcases Go.ChangeShapes.open_strings Tryd.underlying22 Tryd.underlying9 (by kernel_rfl) h with ⟨hcs,_⟩ | ⟨a,len,cap,ss,hcs,_,hl,hm,hz,_,hcell,hws⟩
 {exact ⟨none,[],0,hcs,Or.inl rfl,by simp,by simp,fun _=>rfl,by simp⟩}
 {have hz':ss.length=cap:=by simpa using hz
  unfold maxLen at hm;refine ⟨some a,(ss.take len).map (fun s=>s.data.toList),cap, ?_, ?_, ?_, ?_,by simp, ?_⟩
  {rw[hcs,List.length_map,List.length_take,Nat.min_eq_left (by omega)]}
  {rw[Z7P]; exact Z2E hcell}
  {rw[List.length_map,List.length_take]; omega}
  {rw[List.length_map,List.length_take]; omega}
  {intro y hy;obtain ⟨s,hs,rfl⟩:=List.mem_map.1 hy;have:=hws s (List.mem_of_mem_take hs);unfold maxLen at this
   rwa [Lib.size_eq] at this}}
theorem Z2o: ∀(fuel:Nat) {cs:List Value} {x:DataW H×List MemPlace},DataW.trod enc Tryd.prog W base (fun _=>true) held fuel 25 cs=some x->
 ∃(t:Sh) (q:Ptr),cs= [.int .i64 t.kind,.string ⟨t.of_.toArray⟩,.string ⟨t.name.toArray⟩,.slice q.A t.names.length q.c,.slice q.P t.parts.length q.d]/\ShAt W W.heap.size q t:=by
 intro fuel;induction fuel using Nat.strongRecOn with
 | _ fuel IH=>
 intro cs x h;obtain ⟨xs,n,hn,_,hlen,hxl,hf⟩:=DataW.trod_struct Tryd.underlying25 h;have hC:Tryd.prog.cellsOf 25=5:=by kernel_rfl
 have c1:Tryd.prog.cellsOf 3=1:=by kernel_rfl
 have c9:Tryd.prog.cellsOf 9=1:=by kernel_rfl
 have c22:Tryd.prog.cellsOf 22=1:=by kernel_rfl
 have c23:Tryd.prog.cellsOf 23=1:=by kernel_rfl
 rw[hC] at hlen
 match cs,hlen with
 | [a0,a1,a2,a3,a4],_=>
  have f0:=hf 0 _ rfl;have f1:=hf 1 _ rfl;have f2:=hf 2 _ rfl;have f3:=hf 3 _ rfl;have f4:=hf 4 _ rfl;have hz:xs.length=5:=hxl;change DataW.trod enc _ W base _ held n 3 (([a0,a1,a2,a3,a4].drop 0).take (Tryd.prog.cellsOf 3))=_ at f0;change DataW.trod enc _ W base _ held n 9 (([a0,a1,a2,a3,a4].drop 1).take (Tryd.prog.cellsOf 9))=_ at f1;change DataW.trod enc _ W base _ held n 9 (([a0,a1,a2,a3,a4].drop 2).take (Tryd.prog.cellsOf 9))=_ at f2;change DataW.trod enc _ W base _ held n 22 (([a0,a1,a2,a3,a4].drop 3).take (Tryd.prog.cellsOf 22))=_ at f3;change DataW.trod enc _ W base _ held n 23 (([a0,a1,a2,a3,a4].drop 4).take (Tryd.prog.cellsOf 23))=_ at f4;rw[c1,List.getElem?_eq_getElem (by omega)] at f0;rw[c9,List.getElem?_eq_getElem (by omega)] at f1 f2;rw[c22,List.getElem?_eq_getElem (by omega)] at f3;rw[c23,List.getElem?_eq_getElem (by omega)] at f4;obtain ⟨b0,hb0,_,_⟩:=DataW.trod_int Tryd.underlying3 f0;obtain ⟨b1,hb1,_,hm1⟩:=DataW.trod_string Tryd.underlying9 f1;obtain ⟨b2,hb2,_,hm2⟩:=DataW.trod_string Tryd.underlying9 f2;obtain ⟨A,l,c,hb3,hS,hl,hlc,hA0,hly⟩:=Z6P f3;unfold maxLen at hm1 hm2;simp at hb0 hb1 hb2 hb3;subst hb0 hb1 hb2 hb3;rcases DataW.trod_slice Tryd.underlying23 f4 with ⟨hb4,_⟩ | ⟨a,len,cap,elems,rest,n2,hn2,hb4,_,hb,hle,hmm,hel,hx,_⟩
  {simp at hb4;subst hb4;exact ⟨⟨b0,b1.data.toList,b2.data.toList,l,[]⟩,⟨A,c,none,0⟩,rfl,
    .mk _ _ 0 0 (fun _=>⟨none,0,none,0⟩) ⟨by rw[<-Lib.size_eq]; exact hm1,by rw[<-Lib.size_eq]; exact hm2,hly,hl,by simp,hlc,by simp,hA0,fun _=>rfl⟩ hS (Or.inl rfl) (fun i h=>absurd h (by simp)) (fun i h=>absurd h (by simp))⟩}
  {simp at hb4;subst hb4;unfold maxLen at hmm;have hv: ∀i,∃u:Sh×Ptr,i < len->W.cell? (a.add (i * 5+0))=some (.int .i64 u.1.kind)/\W.cell? (a.add (i * 5+1))=some (.string ⟨u.1.of_.toArray⟩)/\W.cell? (a.add (i * 5+2))=some (.string ⟨u.1.name.toArray⟩)/\
    W.cell? (a.add (i * 5+3))=some (.slice u.2.A u.1.names.length u.2.c)/\W.cell? (a.add (i * 5+4))=some (.slice u.2.P u.1.parts.length u.2.d)/\ShAt W W.heap.size u.2 u.1:=by
    intro i;by_cases hi:i < len
    {have h1:=hx i hi;rw[hC,List.getElem?_eq_getElem (by omega)] at h1;cases hcs:W.cells? base (a.add (i * 5)) 5 with
     | none=>rw[hcs] at h1; cases h1
     | some cs'=>
      rw[hcs] at h1;obtain ⟨u,q,hu,hat⟩:=IH n2 (by omega) h1;subst hu;obtain ⟨_,hcl,hat'⟩:=World.cells?_some hcs;refine ⟨(u,q),fun _=>⟨?_, ?_, ?_, ?_, ?_,hat⟩⟩
      {rw[<-Go.Deep.add_add]; exact hat' 0 (by omega)}
      {rw[<-Go.Deep.add_add]; exact hat' 1 (by omega)}
      {rw[<-Go.Deep.add_add]; exact hat' 2 (by omega)}
      {rw[<-Go.Deep.add_add]; exact hat' 3 (by omega)}
      {rw[<-Go.Deep.add_add]; exact hat' 4 (by omega)}}
    {exact ⟨(⟨0,[],[],[],[]⟩,⟨none,0,none,0⟩),fun h=>absurd h hi⟩}
   let f:=fun i=>(hv i).choose
   have hf2: ∀i,i < len->W.cell? (a.add (i * 5+0))=some (.int .i64 (f i).1.kind)/\W.cell? (a.add (i * 5+1))=some (.string ⟨(f i).1.of_.toArray⟩)/\W.cell? (a.add (i * 5+2))=some (.string ⟨(f i).1.name.toArray⟩)/\
    W.cell? (a.add (i * 5+3))=some (.slice (f i).2.A (f i).1.names.length (f i).2.c)/\W.cell? (a.add (i * 5+4))=some (.slice (f i).2.P (f i).1.parts.length (f i).2.d)/\ShAt W W.heap.size (f i).2 (f i).1:=fun i=>(hv i).choose_spec
   have hln: ((List.range len).map fun i=>(f i).1).length=len:=by simp
   refine ⟨⟨b0,b1.data.toList,b2.data.toList,l,(List.range len).map fun i=>(f i).1⟩,⟨A,c,some a,cap⟩,by simp, ?_⟩;obtain ⟨b,off,spot⟩:=a;have hsm:Small ⟨b0,b1.data.toList,b2.data.toList,l,(List.range len).map fun i=>(f i).1⟩ ⟨A,c,some ⟨b,off,spot⟩,cap⟩:=
    ⟨by rw[<-Lib.size_eq]; exact hm1,by rw[<-Lib.size_eq]; exact hm2,hly,hl,by simp; omega,hlc,by simp; omega,hA0,fun h=>by cases h⟩
   by_cases h0:len=0
   {exact .mk _ _ 0 0 (fun _=>⟨none,0,none,0⟩) hsm hS (Or.inl (by simp[h0])) (fun i h=>absurd h (by simp[h0])) (fun i h=>absurd h (by simp[h0]))}
   {have h1:=(hf2 0 (by omega)).1;have hspot:spot=none:=by simpa[Addr.add] using World.cell?_spot h1
    subst hspot;have hplain: ∀k,(⟨b,off,none⟩:Addr).add k=⟨b,off+k,none⟩:=fun k=>Z1z b off k;refine .mk _ _ b off (fun i=>(f i).2) hsm hS (Or.inr ⟨rfl, ?_⟩) ?_ ?_
    {rw[hplain] at h1;exact Z1y h1}
    {intro i hi;have hin:i < len:=by simpa using hi
     obtain ⟨g0,g1,g2,g3,g4,_⟩:=hf2 i hin;simp only[hplain] at g0 g1 g2 g3 g4;simp only[List.getElem_map,List.getElem_range];exact ⟨g0,g1,g2,g3,g4⟩}
    {intro i hi;have hin:i < len:=by simpa using hi
     simp only[List.getElem_map,List.getElem_range];exact (hf2 i hin).2.2.2.2.2}}}
end
end Go.Proofs.YthajhofgjhfjeaaDoor
namespace Go.Proofs.YthajhofgjhfjeaaDoor
section
open Go.RowKit Shp
theorem Z10 (l:List (List UInt8)): (strs l).length=l.length:=by simp[strs]
structure TxR (W:World) (g:Nat) (ts:List (List UInt8)):Prop where
 lt:g < W.heap.size
 at_: ∀j (h:j < ts.length),W.cell? ⟨g,j,none⟩=some (.string ⟨(ts[j]'h).toArray⟩)
 fz: ∀o,W.frozen? ⟨g,o,none⟩=false
theorem TxR.keep {W W':World} {g B:Nat} {ts:List (List UInt8)} (h:TxR W g ts) (hg:g < B) (hb:Below B W W'):TxR W' g ts:=
 ⟨Nat.lt_of_lt_of_le h.lt hb.size,fun j hj=>(hb.cell (p:=⟨g,j,none⟩) hg).trans (h.at_ j hj),fun o=>(hb.frozen (p:=⟨g,o,none⟩) hg).trans (h.fz o)⟩
theorem TxR.next {W W':World} {g:Nat} {ts:List (List UInt8)} (h:TxR W g ts) (hb:Below W.heap.size W W'):TxR W' g ts:=h.keep h.lt hb
theorem Strs.cell7 {w:World} {B:Nat} {A:Option Addr} {l:List (List UInt8)} (h:Strs w B A (strs l)):l.length=0\/ ∃g off,A=some ⟨g,off,none⟩/\g < B/\ ∀i (hi:i < l.length),w.cell? ⟨g,off+i,none⟩=some (.string ⟨(l[i]'hi).toArray⟩):=by
 rcases h with h | ⟨g,off,hA,hg,hc⟩
 {exact Or.inl (by rwa [Z10] at h)}
 {refine Or.inr ⟨g,off,hA,hg,fun i hi=> ?_⟩;rw[hc i (by rwa [Z10])];simp[strs]}
end
end Go.Proofs.YthajhofgjhfjeaaDoor
namespace Shp
section
theorem Z5E (l:List Sh):deeps l<=sizes l:=by
 induction l with
 | nil=>simp[deeps]
 | cons a l ih=>have:=Z13 a; simp[deeps,sizes]; omega
theorem Z4f (l:List (List UInt8)):noDup l=true ↔ l.Nodup:=by
 induction l with
 | nil=>simp[noDup]
 | cons a l ih=>simp[noDup,ih]
theorem Z0E (l:List (List UInt8)):areNames l=true ↔ (∀x∈l,Lex.isName x=true)/\l.Nodup:=by
 simp[areNames,Z4f]
section
variable {l : List (List UInt8)}
include l
theorem Z2R {i:Nat} (hi:i < l.length) (h:Lex.isName (l[i]'hi)=false):areNames l=false:=by
 cases e:areNames l with
 | false=>rfl
 | true=>rw[((Z0E l).1 e).1 _ (List.getElem_mem hi)] at h; cases h
theorem Z2b {i k:Nat} (hi:i < l.length) (hk:k < i) (h:l[k]'(by omega)=l[i]'hi):areNames l=false:=by
 cases e:areNames l with
 | false=>rfl
 | true=>
  have:=((Z0E l).1 e).2;have:=(List.pairwise_iff_getElem.1 this) k i (by omega) hi hk;exact absurd h this
theorem Z3a (h1: ∀i (hi:i < l.length),Lex.isName (l[i]'hi)=true) (h2: ∀i (hi:i < l.length),∀k (hk:k < i),l[k]'(by omega)≠l[i]'hi):areNames l=true:=by
 refine (Z0E l).2 ⟨fun x hx=> ?_, ?_⟩
 {obtain ⟨i,hi,rfl⟩:=List.getElem_of_mem hx; exact h1 i hi}
 {exact List.pairwise_iff_getElem.2 (fun k i hk hi hki=>h2 i hi k hki)}
end
def ofOk (t:Sh):Bool:=Lex.isName t.of_||(t.of_== []&&decide (t.kind=9)&& !plain t.name)
section
variable {t : Sh}
include t
theorem Z1u (h:t.kind=9\/t.kind=10):fits t=(Lex.isUpper t.name&&ofOk t&&decide (t.names.length=0)&&decide (t.parts.length=0)):=by unfold fits ofOk; rw[if_pos h]
theorem Z0G (h: ¬(t.kind=9\/t.kind=10)) (hb:bare t=false):fits t=false:=by unfold fits; rw[if_neg h,if_pos hb]
theorem Z3r (hb:bare t=true) (h:t.kind=6\/t.kind=7):fits t=(areNames t.names&&decide (t.names.length=t.parts.length)):=by
 unfold fits; rw[if_neg (by omega),if_neg (by rw[hb]; decide),if_pos h]
theorem Z16 (h: ¬(t.kind=9\/t.kind=10)) (hb:bare t=true) (h2: ¬(t.kind=6\/t.kind=7)) (h3:0 < t.names.length):fits t=false:=by
 unfold fits; rw[if_neg h,if_neg (by rw[hb]; decide),if_neg h2,if_pos h3]
theorem Z3s (hb:bare t=true) (h:t.kind=8) (h3: ¬0 < t.names.length):fits t=decide (1<=t.parts.length):=by
 unfold fits; rw[if_neg (by omega),if_neg (by rw[hb]; decide),if_neg (by omega),if_neg h3,if_pos h]
theorem Z2S (hb:bare t=true) (h:t.kind=5) (h3: ¬0 < t.names.length):fits t=decide (t.parts.length=1):=by
 unfold fits; rw[if_neg (by omega),if_neg (by rw[hb]; decide),if_neg (by omega),if_neg h3,if_neg (by omega),if_pos h]
theorem Z1Q (hb:bare t=true) (h: ¬(t.kind=9\/t.kind=10)) (h2: ¬(t.kind=6\/t.kind=7)) (h3: ¬0 < t.names.length) (h4:t.kind≠8) (h5:t.kind≠5):
 fits t=(decide (1<=t.kind)&&decide (t.kind<=4)&&decide (t.parts.length=0)):=by
 unfold fits; rw[if_neg h,if_neg (by rw[hb]; decide),if_neg h2,if_neg h3,if_neg h4,if_neg h5]
end
theorem Z8W (t:Sh):bare t=true ↔ t.of_= []/\t.name= []:=by simp[bare]
theorem Z9p {t:Sh} (h: (t.of_== [])=false):bare t=false:=by simp[bare,h]
theorem Z7U {t:Sh} (h: (t.name== [])=false):bare t=false:=by simp[bare,h]
theorem Z1c {t:Sh} (h:right t=true):fits t=true:=by rw[Z0Z,Bool.and_eq_true] at h; exact h.1
theorem Z05 {t p:Sh} (h:right t=true) (hp:p∈t.parts):right p=true:=by
 rw[Z0Z,Z1b,Bool.and_eq_true,List.all_eq_true] at h; exact h.2 p hp
theorem Z4O {t:Sh} (h:fits t=true) (hp: ∀p∈t.parts,right p=true):right t=true:=by
 rw[Z0Z,Z1b,Bool.and_eq_true,List.all_eq_true]; exact ⟨h,hp⟩
theorem Z7V {t p:Sh} (hp:p∈t.parts) (h:right p=false):right t=false:=by
 cases e:right t with
 | false=>rfl
 | true=>rw[Z05 e hp] at h; cases h
end
end Shp
namespace Go.Proofs.YthajhofgjhfjeaaDoor
section
open Go.RowKit
theorem Z40 (l:List UInt8) (hl:l.length<=1000000) (w:World):
 Calls Tryd.prog 91 #[.string ⟨l.toArray⟩] w fun e w'=>e= .returned (.int .i64 (l.takeWhile Lex.nameB).length)/\w=w':=
 Z7O ⟨l.toArray⟩ (by rw[Z0m]; omega) w
theorem Z7d (c:UInt8) (r:List UInt8):Lex.isName (c::r)=(decide ((c::r).length<=24)&&Lex.small c&&(c::r).all Lex.nameB&& !Lex.isWord (c::r)):=rfl
theorem Z2y (l:List UInt8) (hl:l.length<=9223372036854775807) (w:World):
 Y9 71 #[.string ⟨l.toArray⟩] w (.bool (Lex.isName l)):=by
 cases l with
 | nil=>
  have HM:Hid (Lex.isName []=false):=Y1 rfl;go_enter Tryd.func71,Tryd.ntmps71;go_wp2;go_ret;exact ⟨by rw[HM.out]; rfl,Below.refl _ _⟩
 | cons c r=>
  have HM:=Y1 (Z7d c r);have HT:=Y1 (Lex.Z4L (p:=Lex.nameB) (s:=c::r));obtain ⟨l,hll⟩: ∃l:List UInt8,l=c::r:=⟨_,rfl⟩;rw[<-hll] at hl HM HT ⊢;have hz: (⟨l.toArray⟩:ByteArray).size=l.length:=Z0m _;have he:l.isEmpty=false:=by rw[hll]; rfl
  have hidx: ∀W,(Instr.index 9 (.string ⟨l.toArray⟩) (.int .i64 0)).run Tryd.prog W= .ok (.int .u8 c.toNat) W:=fun W=>by rw[hll]; rfl
  clear hll;by_cases h24:l.length<=24
  {have h24d:decide ((l.length:Int)<=24)=true:=decide_eq_true (by omega);cases h1:Lex.small c
   {have HF:Hid (Lex.isName l=false):=Y1 (by rw[HM.out,h1]; simp);go_enter Tryd.func71,Tryd.ntmps71
    go_wp2_with fail
    refine (Z0B c _).mono ?_;rintro e w2 ⟨rfl,rfl⟩;rw[h1];go_wp2;go_ret;exact ⟨by rw[HF.out]; rfl,Below.refl _ _⟩}
   {have H1:=Y1 h1;go_enter Tryd.func71,Tryd.ntmps71
    go_wp2_with fail
    refine (Z0B c _).mono ?_;rintro e w2 ⟨rfl,rfl⟩;rw[h1];clear h1
    go_wp2_with fail
    refine (Z40 l (by omega) _).mono ?_;rintro e w2 ⟨rfl,rfl⟩;obtain ⟨k,hk⟩: ∃k,k=(l.takeWhile Lex.nameB).length:=⟨_,rfl⟩;rw[<-hk] at HT ⊢;clear hk;by_cases hkl:k=l.length
    {have hkd: ((k:Int)==(l.length:Int))=true:=by rw[beq_iff_eq]; omega
     have HA:Hid (l.all Lex.nameB=true):=Y1 (HT.out.1 hkl);have HF:Hid (Lex.isName l= !Lex.isWord l):=Y1 (by rw[HM.out,H1.out,HA.out,decide_eq_true h24]; simp);clear hkl
     go_wp2_with fail
     refine (Z6O l _).mono ?_;rintro e w2 ⟨rfl,hb2⟩;go_wp2;go_ret;exact ⟨by rw[HF.out]; rfl,hb2⟩}
    {have hkd: ((k:Int)==(l.length:Int))=false:=by rw[beq_eq_false_iff_ne]; omega
     have HF:Hid (Lex.isName l=false):=Y1 (by
      have:l.all Lex.nameB=false:=by
       cases hq:l.all Lex.nameB with
       | false=>rfl
       | true=>exact absurd (HT.out.2 hq) hkl
      rw[HM.out,this]; simp)
     clear hkl;go_wp2;go_ret;exact ⟨by rw[HF.out]; rfl,Below.refl _ _⟩}}}
  {have h24d:decide ((l.length:Int)<=24)=false:=decide_eq_false (by omega);have HF:Hid (Lex.isName l=false):=Y1 (by rw[HM.out,decide_eq_false h24]; rfl);go_enter Tryd.func71,Tryd.ntmps71;go_wp2;go_ret;exact ⟨by rw[HF.out]; rfl,Below.refl _ _⟩}
theorem Z69 (c:UInt8) (r:List UInt8):Lex.isUpper (c::r)=(decide ((c::r).length<=24)&&Lex.great c&&(c::r).all Lex.nameB):=rfl
theorem Z6a (l:List UInt8) (hl:l.length<=9223372036854775807) (w:World):
 Y9 72 #[.string ⟨l.toArray⟩] w (.bool (Lex.isUpper l)):=by
 cases l with
 | nil=>
  have HM:Hid (Lex.isUpper []=false):=Y1 rfl;go_enter Tryd.func72,Tryd.ntmps72;go_wp2;go_ret;exact ⟨by rw[HM.out]; rfl,Below.refl _ _⟩
 | cons c r=>
  have HM:=Y1 (Z69 c r);have HT:=Y1 (Lex.Z4L (p:=Lex.nameB) (s:=c::r));obtain ⟨l,hll⟩: ∃l:List UInt8,l=c::r:=⟨_,rfl⟩;rw[<-hll] at hl HM HT ⊢;have hz: (⟨l.toArray⟩:ByteArray).size=l.length:=Z0m _;have he:l.isEmpty=false:=by rw[hll]; rfl
  have hidx: ∀W,(Instr.index 9 (.string ⟨l.toArray⟩) (.int .i64 0)).run Tryd.prog W= .ok (.int .u8 c.toNat) W:=fun W=>by rw[hll]; rfl
  clear hll;by_cases h24:l.length<=24
  {have h24d:decide ((l.length:Int)<=24)=true:=decide_eq_true (by omega);cases h1:Lex.great c
   {have HF:Hid (Lex.isUpper l=false):=Y1 (by rw[HM.out,h1]; simp);go_enter Tryd.func72,Tryd.ntmps72
    go_wp2_with fail
    refine (Z0L c _).mono ?_;rintro e w2 ⟨rfl,rfl⟩;rw[h1];go_wp2;go_ret;exact ⟨by rw[HF.out]; rfl,Below.refl _ _⟩}
   {have H1:=Y1 h1;go_enter Tryd.func72,Tryd.ntmps72
    go_wp2_with fail
    refine (Z0L c _).mono ?_;rintro e w2 ⟨rfl,rfl⟩;rw[h1];clear h1
    go_wp2_with fail
    refine (Z40 l (by omega) _).mono ?_;rintro e w2 ⟨rfl,rfl⟩;obtain ⟨k,hk⟩: ∃k,k=(l.takeWhile Lex.nameB).length:=⟨_,rfl⟩;rw[<-hk] at HT ⊢;clear hk;by_cases hkl:k=l.length
    {have hkd: ((k:Int)==(l.length:Int))=true:=by rw[beq_iff_eq]; omega
     have HA:Hid (l.all Lex.nameB=true):=Y1 (HT.out.1 hkl);have HF:Hid (Lex.isUpper l=true):=Y1 (by rw[HM.out,H1.out,HA.out,decide_eq_true h24]; rfl);clear hkl;go_wp2;go_ret;exact ⟨by rw[HF.out]; rfl,Below.refl _ _⟩}
    {have hkd: ((k:Int)==(l.length:Int))=false:=by rw[beq_eq_false_iff_ne]; omega
     have HF:Hid (Lex.isUpper l=false):=Y1 (by
      have:l.all Lex.nameB=false:=by
       cases hq:l.all Lex.nameB with
       | false=>rfl
       | true=>exact absurd (HT.out.2 hq) hkl
      rw[HM.out,this]; simp)
     clear hkl;go_wp2;go_ret;exact ⟨by rw[HF.out]; rfl,Below.refl _ _⟩}}}
  {have h24d:decide ((l.length:Int)<=24)=false:=decide_eq_false (by omega);have HF:Hid (Lex.isUpper l=false):=Y1 (by rw[HM.out,decide_eq_false h24]; rfl);go_enter Tryd.func72,Tryd.ntmps72;go_wp2;go_ret;exact ⟨by rw[HF.out]; rfl,Below.refl _ _⟩}
end
section
open Go.RowKit Shp
theorem Z6b (A:Option Addr) (c:Nat) (l:List (List UInt8)) (p:Nat) (w:World) (hA:Strs w w.heap.size A (strs l)) (hl:l.length<=9223372036854775807) (hx: ∀x∈l,x.length<=9223372036854775807):
 Y9 73 #[.slice A l.length c,.int .i64 (p:Int)] w (.bool (areNames l&&decide (l.length=p))):=by
 have HA:=Y1 hA;have HX:=Y1 hx;clear hA hx;go_enter Tryd.func73,Tryd.ntmps73
 go_wp2_with fail
 go_loopw [5] (fun ii wr=> ∃i:Nat,ii= .int .i64 i/\i<=l.length/\Hid (∀j (hj:j < l.length),j < i->Lex.isName (l[j]'hj)=true/\ ∀k (hk:k < j),l[k]'(by omega)≠l[j]'hj)/\Below w.heap.size w wr)
  (fun i _=>l.length - (intOf i).toNat)
 case atStart=>exact ⟨0,rfl,Nat.zero_le _,Y1 (fun j _ hj=>absurd hj (by omega)),Below.refl _ _⟩
 case round=>
  obtain ⟨i,rfl,hi,HN,hb⟩:=hrel;by_cases hlt:i < l.length
  {have hi1: (i:Int) < (l.length:Int):=by omega
   rcases (HA.out.next hb).cell7 with h0 | ⟨g,off,rfl,hg,hc⟩
   {omega}
   {have hcell:=hc i hlt;obtain ⟨x,hx⟩: ∃x,x=l[i]'hlt:=⟨_,rfl⟩;rw[<-hx] at hcell;have hxl:x.length<=9223372036854775807:=by rw[hx]; exact HX.out _ (List.getElem_mem _)
    have HE:=Y1 hx;have HC:=Y1 hc;clear hx hc;cases hn:Lex.isName x with
    | false=>
     have HF:Hid (areNames l=false):=Y1 (Z2R hlt (by rw[<-HE.out]; exact hn));have hw:=Z2y x hxl wr;rw[hn] at hw;clear hn
     go_wp2_with (refine hw.mono ?_; rintro e w' ⟨rfl,hb'⟩)
     go_ret;exact ⟨by rw[HF.out]; rfl,Z00 hb hb'⟩
    | true=>
     have HT:Hid (Lex.isName (l[i]'hlt)=true):=Y1 (by rw[<-HE.out]; exact hn);have hw:=Z2y x hxl wr;rw[hn] at hw;clear hn
     go_wp2_with (refine hw.mono ?_; rintro e w' ⟨rfl,hb'⟩)
     have hbw:=Z00 hb hb';have HC2:Hid (∀j (hj:j < l.length),w'.cell? ⟨g,off+j,none⟩=some (.string ⟨(l[j]'hj).toArray⟩)):=Y1 (fun j hj=>((hb'.cell (p:=⟨g,off+j,none⟩) hg).trans (HC.out j hj)));have hcell2:=HC2.out i hlt;rw[<-HE.out] at hcell2;have HH2:=Y1 hcell2;have HBW:=Y1 hbw;clear hw hb hb' hbw hcell hcell2
     go_loopw [6] (fun kk wr2=> ∃k:Nat,kk= .int .i64 k/\k<=i/\Hid (∀j (hj:j < i),j < k->l[j]'(by omega)≠l[i]'hlt)/\Hid (Below w'.heap.size w' wr2))
      (fun k _=>i - (intOf k).toNat)
     case atStart=>exact ⟨0,rfl,Nat.zero_le _,Y1 (fun j _ hj=>absurd hj (by omega)),Y1 Y2⟩
     case round=>
      obtain ⟨k,rfl,hk,HK,HB2⟩:=hrel;have hgw:g < w'.heap.size:=Z1y HH2.out;by_cases hki:k < i
      {have hk1: (k:Int) < (i:Int):=by omega
       have hk2: (k:Int) < (l.length:Int):=by omega
       have hck:=(HB2.out.cell (p:=⟨g,off+k,none⟩) hgw).trans (HC2.out k (by omega));have hci:=(HB2.out.cell (p:=⟨g,off+i,none⟩) hgw).trans HH2.out;obtain ⟨y,hy⟩: ∃y,y=l[k]'(by omega):=⟨_,rfl⟩;rw[<-hy] at hck;have HY:=Y1 hy;clear hy;cases hq: (y==x)
       {have HM:Hid (l[k]'(by omega)≠l[i]'hlt):=Y1 (by rw[<-HY.out, <-HE.out]; intro h; rw[h] at hq; simp at hq)
        go_wp2_with fail
        go_quiet (fail)
        go_wp2
        go_roundw
        case rel=>exact ⟨k+1,by go_num,by omega,Y1 (fun j hj hji=>by
         rcases Nat.lt_succ_iff_lt_or_eq.1 hji with h | rfl
         {exact HK.out j hj h}
         · exact HM.out),Y1 (Z0K HB2.out _)⟩
        case measure=>simp[intOf]; omega}
       {have HF:Hid (areNames l=false):=Y1 (Z2b hlt hki (by rw[<-HY.out, <-HE.out]; simpa using hq))
        go_wp2_with fail
        go_quiet (fail)
        go_wp2;go_ret;exact ⟨by rw[HF.out]; rfl,Z0K (Z00 HBW.out HB2.out) _⟩}}
      {have hke:k=i:=by omega
       have HN2:Hid (∀j (hj:j < l.length),j < i+1->Lex.isName (l[j]'hj)=true/\ ∀k (hk:k < j),l[k]'(by omega)≠l[j]'hj):=Y1 (fun j hj hji=>by
        rcases Nat.lt_succ_iff_lt_or_eq.1 hji with h | rfl
        {exact HN.out j hj h}
        · exact ⟨HT.out,fun m hm=>HK.out m hm (by omega)⟩)
       have hk1: ¬(k:Int) < (i:Int):=by omega
       clear hke;go_wp2
       go_roundw
       case rel=>exact ⟨i+1,by go_num,by omega,HN2,Z00 HBW.out HB2.out⟩
       case measure=>simp[intOf]; omega}}}
  {have hi1: ¬(i:Int) < (l.length:Int):=by omega
   have HM:Hid (areNames l=true):=Y1 (Z3a (fun j hj=>(HN.out j hj (by omega)).1) (fun j hj=>(HN.out j hj (by omega)).2));go_wp2;go_ret;exact ⟨Z08 (by rw[HM.out,Bool.true_and,Bool.eq_iff_iff]; simp; omega),hb⟩}
end
end Go.Proofs.YthajhofgjhfjeaaDoor
namespace Lex
section
def join:List (List UInt8)->List UInt8
 | []=> []
 | [p]=>p
 | p::q::ps=>p++32::join (q::ps)
def Placed (s:List UInt8):Nat->List (Tok×Nat)->Prop
 | a,[]=>a<=s.length
 | a,(t,p)::r=>a<=p/\p<=s.length/\1<=t.kind/\t.kind<=7/\(t.kind=4->Placed s (p+2) r)/\(t.kind≠4->p+t.text.length<=s.length/\(s.drop p).take t.text.length=t.text/\Placed s (p+t.text.length) r)
theorem Placed.less {s:List UInt8} {a b:Nat} (hab:b<=a): ∀ {l:List (Tok×Nat)},Placed s a l->Placed s b l
 | [],h=>Nat.le_trans hab h
 | (t,p)::r,h=>by
  obtain ⟨h1,h2⟩:=h;exact ⟨Nat.le_trans hab h1,h2⟩
def up (k:Nat):Except Nat Nat->Except Nat Nat
 | .ok n=> .ok (k+n)
 | .error n=> .error (k+n)
end
end Lex
namespace Lex
def letter (c:UInt8):Bool:=small c||great c
theorem Z5j (c:UInt8):nameB c=(letter c||digit c||c==95):=rfl
end Lex
namespace Go.Proofs.YthajhofgjhfjeaaDoor
open Go.RowKit
section
variable (c : UInt8) (w : World)
include c w
theorem Z0Y:
 Calls Tryd.prog 75 #[.int .u8 (c.toNat:Int)] w fun e w'=>e= .returned (.bool (Lex.small c))/\w=w':=by
 have hlt:=c.toNat_lt;have H:c.toNat<=96\/(97<=c.toNat/\c.toNat<=122)\/123<=c.toNat:=by omega
 have HB:Hid (Lex.small c=(decide (97<=c.toNat)&&decide (c.toNat<=122))):=Y1 rfl;obtain ⟨n,hn⟩: ∃n,n=c.toNat:=⟨_,rfl⟩;rw[<-hn] at H HB hlt ⊢;clear hn;rcases H with h1 | ⟨h1,h2⟩ | h1
 {have h3:decide ((97:Int)<=(n:Int))=false:=decide_eq_false (by omega);go_enter Tryd.func75,Tryd.ntmps75;go_wp2;go_ret;exact ⟨by rw[HB.out,decide_eq_false (by omega)]; rfl,rfl⟩}
 {have h3:decide ((n:Int)<=122)=true:=decide_eq_true (by omega);have h4:decide ((97:Int)<=(n:Int))=true:=decide_eq_true (by omega);go_enter Tryd.func75,Tryd.ntmps75;go_wp2;go_ret;exact ⟨by rw[HB.out,decide_eq_true h1,decide_eq_true h2]; rfl,rfl⟩}
 {have h3:decide ((n:Int)<=122)=false:=decide_eq_false (by omega);have h4:decide ((97:Int)<=(n:Int))=true:=decide_eq_true (by omega);go_enter Tryd.func75,Tryd.ntmps75;go_wp2;go_ret;exact ⟨by rw[HB.out,decide_eq_false (p:=n<=122) (by omega),Bool.and_false]; rfl,rfl⟩}
theorem Z24:
 Calls Tryd.prog 78 #[.int .u8 (c.toNat:Int)] w fun e w'=>e= .returned (.bool (Lex.great c))/\w=w':=by
 have hlt:=c.toNat_lt;have H:c.toNat<=64\/(65<=c.toNat/\c.toNat<=90)\/91<=c.toNat:=by omega
 have HB:Hid (Lex.great c=(decide (65<=c.toNat)&&decide (c.toNat<=90))):=Y1 rfl;obtain ⟨n,hn⟩: ∃n,n=c.toNat:=⟨_,rfl⟩;rw[<-hn] at H HB hlt ⊢;clear hn;rcases H with h1 | ⟨h1,h2⟩ | h1
 {have h3:decide ((65:Int)<=(n:Int))=false:=decide_eq_false (by omega);go_enter Tryd.func78,Tryd.ntmps78;go_wp2;go_ret;exact ⟨by rw[HB.out,decide_eq_false (by omega)]; rfl,rfl⟩}
 {have h3:decide ((n:Int)<=90)=true:=decide_eq_true (by omega);have h4:decide ((65:Int)<=(n:Int))=true:=decide_eq_true (by omega);go_enter Tryd.func78,Tryd.ntmps78;go_wp2;go_ret;exact ⟨by rw[HB.out,decide_eq_true h1,decide_eq_true h2]; rfl,rfl⟩}
 {have h3:decide ((n:Int)<=90)=false:=decide_eq_false (by omega);have h4:decide ((65:Int)<=(n:Int))=true:=decide_eq_true (by omega);go_enter Tryd.func78,Tryd.ntmps78;go_wp2;go_ret;exact ⟨by rw[HB.out,decide_eq_false (p:=n<=90) (by omega),Bool.and_false]; rfl,rfl⟩}
theorem Z25:
 Calls Tryd.prog 103 #[.int .u8 (c.toNat:Int)] w fun e w'=>e= .returned (.bool (Lex.digit c))/\w=w':=by
 have hlt:=c.toNat_lt;have H:c.toNat<=47\/(48<=c.toNat/\c.toNat<=57)\/58<=c.toNat:=by omega
 have HB:Hid (Lex.digit c=(decide (48<=c.toNat)&&decide (c.toNat<=57))):=Y1 rfl;obtain ⟨n,hn⟩: ∃n,n=c.toNat:=⟨_,rfl⟩;rw[<-hn] at H HB hlt ⊢;clear hn;rcases H with h1 | ⟨h1,h2⟩ | h1
 {have h3:decide ((48:Int)<=(n:Int))=false:=decide_eq_false (by omega);go_enter Tryd.func103,Tryd.ntmps103;go_wp2;go_ret;exact ⟨by rw[HB.out,decide_eq_false (by omega)]; rfl,rfl⟩}
 {have h3:decide ((n:Int)<=57)=true:=decide_eq_true (by omega);have h4:decide ((48:Int)<=(n:Int))=true:=decide_eq_true (by omega);go_enter Tryd.func103,Tryd.ntmps103;go_wp2;go_ret;exact ⟨by rw[HB.out,decide_eq_true h1,decide_eq_true h2]; rfl,rfl⟩}
 {have h3:decide ((n:Int)<=57)=false:=decide_eq_false (by omega);have h4:decide ((48:Int)<=(n:Int))=true:=decide_eq_true (by omega);go_enter Tryd.func103,Tryd.ntmps103;go_wp2;go_ret;exact ⟨by rw[HB.out,decide_eq_false (p:=n<=57) (by omega),Bool.and_false]; rfl,rfl⟩}
theorem Z1h:
 Calls Tryd.prog 102 #[.int .u8 (c.toNat:Int)] w fun e w'=>e= .returned (.bool (Lex.letter c))/\w=w':=by
 have HM:Hid (Lex.letter c=(Lex.small c||Lex.great c)):=Y1 rfl;cases h1:Lex.small c
 {have HF:Hid (Lex.letter c=Lex.great c):=Y1 (by rw[HM.out,h1]; rfl);go_enter Tryd.func102,Tryd.ntmps102
  go_wp2_with fail
  refine (Z0Y c _).mono ?_;rintro e w2 ⟨rfl,rfl⟩;rw[h1]
  go_wp2_with fail
  refine (Z24 c _).mono ?_;rintro e w2 ⟨rfl,rfl⟩;go_wp2;go_ret;exact ⟨by rw[HF.out]; rfl,rfl⟩}
 {have HF:Hid (Lex.letter c=true):=Y1 (by rw[HM.out,h1]; rfl);go_enter Tryd.func102,Tryd.ntmps102
  go_wp2_with fail
  refine (Z0Y c _).mono ?_;rintro e w2 ⟨rfl,rfl⟩;rw[h1];go_wp2;go_ret;exact ⟨by rw[HF.out]; rfl,rfl⟩}
theorem Z3k:
 Calls Tryd.prog 94 #[.int .u8 (c.toNat:Int)] w fun e w'=>e= .returned (.bool (Lex.nameB c))/\w=w':=by
 have HM:=Y1 (Lex.Z5j c);have b95:=Z6t c;cases h1:Lex.letter c
 {cases h2:Lex.digit c
  {cases g95: (c==95)
   {rw[g95] at b95;have HF:Hid (Lex.nameB c=false):=Y1 (by rw[HM.out,h1,h2,g95]; rfl);clear HM;go_enter Tryd.func94,Tryd.ntmps94
    go_wp2_with fail
    refine (Z1h c _).mono ?_;rintro e w2 ⟨rfl,rfl⟩;rw[h1]
    go_wp2_with fail
    refine (Z25 c _).mono ?_;rintro e w2 ⟨rfl,rfl⟩;rw[h2];go_wp2;go_ret;exact ⟨by rw[HF.out]; rfl,rfl⟩}
   {rw[g95] at b95;have HF:Hid (Lex.nameB c=true):=Y1 (by rw[HM.out,h1,h2,g95]; rfl);clear HM;go_enter Tryd.func94,Tryd.ntmps94
    go_wp2_with fail
    refine (Z1h c _).mono ?_;rintro e w2 ⟨rfl,rfl⟩;rw[h1]
    go_wp2_with fail
    refine (Z25 c _).mono ?_;rintro e w2 ⟨rfl,rfl⟩;rw[h2];go_wp2;go_ret;exact ⟨by rw[HF.out]; rfl,rfl⟩}}
  {have HF:Hid (Lex.nameB c=true):=Y1 (by rw[HM.out,h1,h2]; rfl);clear HM;go_enter Tryd.func94,Tryd.ntmps94
   go_wp2_with fail
   refine (Z1h c _).mono ?_;rintro e w2 ⟨rfl,rfl⟩;rw[h1]
   go_wp2_with fail
   refine (Z25 c _).mono ?_;rintro e w2 ⟨rfl,rfl⟩;rw[h2];go_wp2;go_ret;exact ⟨by rw[HF.out]; rfl,rfl⟩}}
 {have HF:Hid (Lex.nameB c=true):=Y1 (by rw[HM.out,h1]; rfl);clear HM;go_enter Tryd.func94,Tryd.ntmps94
  go_wp2_with fail
  refine (Z1h c _).mono ?_;rintro e w2 ⟨rfl,rfl⟩;rw[h1];go_wp2;go_ret;exact ⟨by rw[HF.out]; rfl,rfl⟩}
end
theorem Z7l (s:List UInt8) (w:World):
 Calls Tryd.prog 77 #[.string ⟨s.toArray⟩] w fun e w'=>e= .returned (.bool (Lex.isWord s))/\w=w':=by
 cases hq:Lex.isWord s
 {have HN: ∀t∈Lex.words,(s==t)=false:=fun t ht=>by
   cases h: (s==t) with
   | false=>rfl
   | true=>
    obtain rfl:=beq_iff_eq.1 h;unfold Lex.isWord at hq;rw[List.contains_iff_mem.2 ht] at hq; cases hq
  have n0: (s== [109,111,100,117,108,101])=false:=HN _ (by decide);have n1: (s== [105,109,112,111,114,116])=false:=HN _ (by decide);have n2: (s== [112,105,110])=false:=HN _ (by decide);have n3: (s== [114,97,110,103,101])=false:=HN _ (by decide);have n4: (s== [116,121,112,101])=false:=HN _ (by decide);have n5: (s== [111,112,97,113,117,101])=false:=HN _ (by decide);have n6: (s== [108,101,116])=false:=HN _ (by decide);have n7: (s== [105,110])=false:=HN _ (by decide);have n8: (s== [101,120,112,111,114,116])=false:=HN _ (by decide);have n9: (s== [102,117,110])=false:=HN _ (by decide);have n10: (s== [105,102])=false:=HN _ (by decide);have n11: (s== [116,104,101,110])=false:=HN _ (by decide);have n12: (s== [101,108,115,101])=false:=HN _ (by decide);have n13: (s== [99,97,115,101])=false:=HN _ (by decide);have n14: (s== [111,102])=false:=HN _ (by decide);have n15: (s== [97,115])=false:=HN _ (by decide);have n16: (s== [110,101,119])=false:=HN _ (by decide);have n17: (s== [114,97,119])=false:=HN _ (by decide);have n18: (s== [116,114,117,101])=false:=HN _ (by decide);have n19: (s== [102,97,108,115,101])=false:=HN _ (by decide);clear HN hq;go_enter Tryd.func77,Tryd.ntmps77;go_wp2;go_ret;exact ⟨rfl,rfl⟩}
 {have hm:s∈Lex.words:=List.contains_iff_mem.1 hq;clear hq;unfold Lex.words at hm;simp only[List.mem_cons,List.not_mem_nil,or_false] at hm;rcases hm with rfl | rfl | rfl | rfl | rfl | rfl | rfl | rfl | rfl | rfl | rfl | rfl | rfl | rfl | rfl | rfl | rfl | rfl | rfl | rfl
  all_goals
   go_enter Tryd.func77,Tryd.ntmps77;go_wp2;go_ret;exact ⟨rfl,rfl⟩}
end Go.Proofs.YthajhofgjhfjeaaDoor
namespace Lex
def named (l:List UInt8):Bool:=decide (l.length<=24)&&l.tail.all nameB
section
variable {p : UInt8 -> Bool} {l : List UInt8}
include p l
theorem Z9e (h: ∀j (hj:j < l.length),1<=j->p (l[j]'hj)=true):l.tail.all p=true:=by
 cases l with
 | nil=>rfl
 | cons c r=>
  refine List.all_eq_true.2 (fun x hx=> ?_);obtain ⟨j,hj,rfl⟩:=List.mem_iff_getElem.1 hx;exact h (j+1) (by simpa using hj) (by omega)
theorem Z9y {j:Nat} (hj:j < l.length) (h1:1<=j) (h:p (l[j]'hj)=false):l.tail.all p=false:=by
 cases l with
 | nil=>simp at hj
 | cons c r=>
  obtain ⟨k,rfl⟩: ∃k,j=k+1:=⟨j - 1,by omega⟩;have hm: (r[k]'(by simpa using hj))∈r:=List.getElem_mem _;cases hq: (c::r).tail.all p with
  | false=>rfl
  | true=>
   have:=List.all_eq_true.1 hq _ hm;have h':p (r[k]'(by simpa using hj))=false:=h;rw[h'] at this; cases this
end
theorem Z7m (c:UInt8) (r:List UInt8):isName (c::r)=(small c&&named (c::r)&& !isWord (c::r)):=by
 show (decide ((c::r).length<=24)&&small c&&(c::r).all nameB&& !isWord (c::r))=_;cases h:small c with
 | false=>simp
 | true=>
  have:nameB c=true:=by unfold nameB; rw[h]; rfl
  unfold named;simp[this]
theorem Z6f (c:UInt8) (r:List UInt8):isUpper (c::r)=(great c&&named (c::r)):=by
 show (decide ((c::r).length<=24)&&great c&&(c::r).all nameB)=_;cases h:great c with
 | false=>simp
 | true=>
  have:nameB c=true:=by unfold nameB; rw[h]; simp
  unfold named;simp[this]
end Lex
namespace Go.Proofs.YthajhofgjhfjeaaDoor
open Go.RowKit
section
variable (l : List UInt8) (hl : l.length <= 9223372036854775807) (w : World)
include l hl w
theorem Z26:
 Calls Tryd.prog 76 #[.string ⟨l.toArray⟩] w fun e w'=>e= .returned (.bool (Lex.named l))/\w=w':=by
 have hz: (⟨l.toArray⟩:ByteArray).size=l.length:=Z0m _;have HM:Hid (Lex.named l=(decide (l.length<=24)&&l.tail.all Lex.nameB)):=Y1 rfl;by_cases h24:l.length<=24
 {have h24d: ¬((24:Int) < (l.length:Int)):=by omega
  go_enter Tryd.func76,Tryd.ntmps76
  go_wp2_with fail
  go_loopw [3] (fun ii wr=> ∃n:Nat,ii= .int .i64 n/\1<=n/\(n<=l.length\/n=1)/\Hid (∀j (hj:j < l.length),1<=j->j < n->Lex.nameB (l[j]'hj)=true)/\w=wr)
   (fun i _=>l.length - (intOf i).toNat)
  case atStart=>exact ⟨1,rfl,Nat.le_refl _,Or.inr rfl,Y1 (fun j _ h1 hj=>absurd hj (by omega)),rfl⟩
  case round=>
   obtain ⟨n,rfl,h1,hn,HN,rfl⟩:=hrel;by_cases hlt:n < l.length
   {have hi1: (n:Int) < (l.length:Int):=by omega
    obtain ⟨c,hc⟩: ∃c,c=l[n]'hlt:=⟨_,rfl⟩;have hidx: ∀W,(Instr.index 9 (.string ⟨l.toArray⟩) (.int .i64 (n:Int))).run Tryd.prog W= .ok (.int .u8 c.toNat) W:=fun W=>by
     rw[hc]; exact Z3E ⟨l.toArray⟩ n (by omega) W
    have HC:=Y1 hc;clear hc;cases hb:Lex.nameB c
    {have HF:Hid (Lex.named l=false):=Y1 (by rw[HM.out,Lex.Z9y hlt h1 (by rw[<-HC.out]; exact hb)]; simp)
     go_wp2_with fail
     refine (Z3k c _).mono ?_;rintro e w2 ⟨rfl,rfl⟩;rw[hb];go_wp2;go_ret;exact ⟨by rw[HF.out]; rfl,rfl⟩}
    {have HN2:Hid (∀j (hj:j < l.length),1<=j->j < n+1->Lex.nameB (l[j]'hj)=true):=Y1 (fun j hj h1 hji=>by
      rcases Nat.lt_succ_iff_lt_or_eq.1 hji with h' | rfl
      {exact HN.out j hj h1 h'}
      · rw[<-HC.out]; exact hb)
     go_wp2_with fail
     refine (Z3k c _).mono ?_;rintro e w2 ⟨rfl,rfl⟩;rw[hb];go_wp2
     go_roundw
     case rel=>exact ⟨n+1,by go_num,by omega,Or.inl (by omega),HN2,trivial⟩
     case measure=>simp[intOf]; omega}}
   {have hi1: ¬(n:Int) < (l.length:Int):=by omega
    have HF:Hid (Lex.named l=true):=Y1 (by rw[HM.out,decide_eq_true h24,Lex.Z9e (fun j hj h1=>HN.out j hj h1 (by omega))]; rfl);go_wp2;go_ret;exact ⟨by rw[HF.out]; rfl,rfl⟩}}
 {have h24d: (24:Int) < (l.length:Int):=by omega
  have HF:Hid (Lex.named l=false):=Y1 (by rw[HM.out,decide_eq_false h24]; rfl);go_enter Tryd.func76,Tryd.ntmps76;go_wp2;go_ret;exact ⟨by rw[HF.out]; rfl,rfl⟩}
theorem Z1G:
 Calls Tryd.prog 60 #[.string ⟨l.toArray⟩] w fun e w'=>e= .returned (.bool (Lex.isName l))/\w=w':=by
 cases l with
 | nil=>
  have HM:Hid (Lex.isName []=false):=Y1 rfl;go_enter Tryd.func60,Tryd.ntmps60;go_wp2;go_ret;exact ⟨by rw[HM.out]; rfl,rfl⟩
 | cons c r=>
  have HM:=Y1 (Lex.Z7m c r);obtain ⟨l,hll⟩: ∃l:List UInt8,l=c::r:=⟨_,rfl⟩;rw[<-hll] at hl HM ⊢;have hz: (⟨l.toArray⟩:ByteArray).size=l.length:=Z0m _;have he:l.isEmpty=false:=by rw[hll]; rfl
  have he2: (l== [])=false:=by rw[hll]; rfl
  have he3: (l != [])=true:=by rw[hll]; rfl
  have hidx: ∀W,(Instr.index 9 (.string ⟨l.toArray⟩) (.int .i64 0)).run Tryd.prog W= .ok (.int .u8 c.toNat) W:=fun W=>by rw[hll]; rfl
  clear hll;cases h1:Lex.small c
  {have HF:Hid (Lex.isName l=false):=Y1 (by rw[HM.out,h1]; rfl);go_enter Tryd.func60,Tryd.ntmps60
   go_wp2_with fail
   refine (Z0Y c _).mono ?_;rintro e w2 ⟨rfl,rfl⟩;rw[h1];go_wp2;go_ret;exact ⟨by rw[HF.out]; rfl,rfl⟩}
  {cases h2:Lex.named l
   {have HF:Hid (Lex.isName l=false):=Y1 (by rw[HM.out,h1,h2]; rfl);go_enter Tryd.func60,Tryd.ntmps60
    go_wp2_with fail
    refine (Z0Y c _).mono ?_;rintro e w2 ⟨rfl,rfl⟩;rw[h1]
    go_wp2_with fail
    refine (Z26 l hl _).mono ?_;rintro e w2 ⟨rfl,rfl⟩;rw[h2];go_wp2;go_ret;exact ⟨by rw[HF.out]; rfl,rfl⟩}
   {have HF:Hid (Lex.isName l= !Lex.isWord l):=Y1 (by rw[HM.out,h1,h2]; rfl);go_enter Tryd.func60,Tryd.ntmps60
    go_wp2_with fail
    refine (Z0Y c _).mono ?_;rintro e w2 ⟨rfl,rfl⟩;rw[h1]
    go_wp2_with fail
    refine (Z26 l hl _).mono ?_;rintro e w2 ⟨rfl,rfl⟩;rw[h2]
    go_wp2_with fail
    refine (Z7l l _).mono ?_;rintro e w2 ⟨rfl,rfl⟩;go_wp2;go_ret;exact ⟨by rw[HF.out]; rfl,rfl⟩}}
theorem Z3l:
 Calls Tryd.prog 61 #[.string ⟨l.toArray⟩] w fun e w'=>e= .returned (.bool (Lex.isUpper l))/\w=w':=by
 cases l with
 | nil=>
  have HM:Hid (Lex.isUpper []=false):=Y1 rfl;go_enter Tryd.func61,Tryd.ntmps61;go_wp2;go_ret;exact ⟨by rw[HM.out]; rfl,rfl⟩
 | cons c r=>
  have HM:=Y1 (Lex.Z6f c r);obtain ⟨l,hll⟩: ∃l:List UInt8,l=c::r:=⟨_,rfl⟩;rw[<-hll] at hl HM ⊢;have hz: (⟨l.toArray⟩:ByteArray).size=l.length:=Z0m _;have he:l.isEmpty=false:=by rw[hll]; rfl
  have he2: (l== [])=false:=by rw[hll]; rfl
  have he3: (l != [])=true:=by rw[hll]; rfl
  have hidx: ∀W,(Instr.index 9 (.string ⟨l.toArray⟩) (.int .i64 0)).run Tryd.prog W= .ok (.int .u8 c.toNat) W:=fun W=>by rw[hll]; rfl
  clear hll;cases h1:Lex.great c
  {have HF:Hid (Lex.isUpper l=false):=Y1 (by rw[HM.out,h1]; rfl);go_enter Tryd.func61,Tryd.ntmps61
   go_wp2_with fail
   refine (Z24 c _).mono ?_;rintro e w2 ⟨rfl,rfl⟩;rw[h1];go_wp2;go_ret;exact ⟨by rw[HF.out]; rfl,rfl⟩}
  {have HF:Hid (Lex.isUpper l=Lex.named l):=Y1 (by rw[HM.out,h1]; rfl);go_enter Tryd.func61,Tryd.ntmps61
   go_wp2_with fail
   refine (Z24 c _).mono ?_;rintro e w2 ⟨rfl,rfl⟩;rw[h1]
   go_wp2_with fail
   refine (Z26 l hl _).mono ?_;rintro e w2 ⟨rfl,rfl⟩;go_wp2;go_ret;exact ⟨by rw[HF.out]; rfl,rfl⟩}
end
end Go.Proofs.YthajhofgjhfjeaaDoor
namespace Go.Proofs.YthajhofgjhfjeaaDoor
section
open Go.RowKit Go.Maps Go.WideMaps Shp
theorem Z36:Keyed Tryd.prog 9:=string_keyed Tryd.underlying9
theorem Z2Y (w:World): (zeroValue 83).run Tryd.prog w= .ok (.agg #[]) w:=by kernel_rfl
def seenOf (l:List (List UInt8)) (k:Nat):DataW Unit:=setOf (.agg []) ((l.take k).map Lit.string)
theorem Z8v (l:List (List UInt8)):seenOf l 0= .map []:=by simp[seenOf,setOf]
theorem Z8w (l:List (List UInt8)) (k:Nat) (hk:k < l.length):seenOf l (k+1)=(seenOf l k).put (.string (l[k]'hk)) (.agg []):=by
 unfold seenOf;rw[List.take_succ_eq_append_getElem hk,List.map_append,List.map_cons,List.map_nil,setOf_snoc]
theorem Z5k (x:List UInt8): ∀l:List (List UInt8),l.any ((fun y:Lit=>y.sameKey (.string x)) ∘ Lit.string)=l.contains x
 | []=>rfl
 | a::r=>by
  rw[List.any_cons,List.contains_cons,Z5k x r];congr 1;by_cases e:a=x
  {subst e; simp[Lit.sameKey]}
  {have e': ¬x=a:=fun h=>e h.symm;simp[Lit.sameKey];rw[show (a==x)=false from by simpa using e,show (x==a)=false from by simpa using e']}
theorem Z9f (l:List (List UInt8)) (k:Nat) (x:List UInt8):Maps.has (seenOf l k) (.string x)=(l.take k).contains x:=by
 unfold seenOf;rw[has_setOf _ _ _ (fun y hy=>by obtain ⟨_,_,rfl⟩:=List.mem_map.1 hy; trivial),List.any_map];exact Z5k x _
theorem Z6g (A:Option Addr) (c:Nat) (l:List (List UInt8)) (w:World) (hA:Strs w w.heap.size A (strs l)) (hl:l.length<=1000000) (hx: ∀x∈l,x.length<=9223372036854775807):
 Y9 58 #[.slice A l.length c] w (.bool (areNames l)):=by
 have hmm:= @run_makeMap Tryd.prog;have HA:=Y1 hA;have HX:=Y1 hx;clear hA hx;go_enter Tryd.func58,Tryd.ntmps58
 go_wp2_with fail
 go_loopw [11] (fun ii wr=> ∃k:Nat,k<=l.length/\ii= .int .i64 k/\wr.ownsMap Tryd.prog 9 unitElem w.heap.size k (seenOf l k)/\Below w.heap.size w wr/\Hid (∀j (hj:j < l.length),j < k->Lex.isName (l[j]'hj)=true/\ ∀m (hm:m < j),l[m]'(by omega)≠l[j]'hj))
  (fun i _=>l.length - (intOf i).toNat)
 case atStart=>exact ⟨0,Nat.zero_le _,rfl,by rw[Z8v]; exact World.ownsMap_made _ _ _ _,Y2.alloc (Nat.le_refl _) _,Y1 (fun j _ hj=>absurd hj (by omega))⟩
 case round=>
  obtain ⟨k,hk,rfl,hown,hb,HN⟩:=hrel;by_cases hlt:k < l.length
  {have hi1: (k:Int) < (l.length:Int):=by omega
   rcases (HA.out.next hb).cell7 with h0 | ⟨g,off,rfl,hg,hc⟩
   {omega}
   {have hcell:=hc k hlt;obtain ⟨x,hx⟩: ∃x,x=l[k]'hlt:=⟨_,rfl⟩;rw[<-hx] at hcell;have hxl:x.length<=9223372036854775807:=by rw[hx]; exact HX.out _ (List.getElem_mem _)
    have HE:=Y1 hx;have hkey:keyOf Tryd.prog 9 (.string ⟨x.toArray⟩)=some (.string x):=keyOf_string_mk Tryd.underlying9 (by rw[Z0m]; unfold maxLen; exact hxl);clear hx hc;have HHAS:=Y1 (Z9f l k x);have HOWN:=Y1 hown;have HBB:=Y1 hb;clear hb;cases hin: (l.take k).contains x with
    | true=>
     have HF:Hid (areNames l=false):=Y1 (by
      have hm:=List.contains_iff_mem.1 hin;obtain ⟨m,hm,he⟩:=List.getElem_of_mem hm;rw[List.length_take] at hm;rw[List.getElem_take] at he;exact Z2b (k:=m) hlt (by omega) (by rw[he,HE.out]))
     have hhas:=HHAS.out;rw[hin] at hhas;clear hin
     go_wp2_with (first
      | (at_lookup; refine wpList_lookup_own_unit _ rfl _ _ 82 rfl 9 83 Z36 Tryd.underlying82 (Z2Y _) w.heap.size k _ rfl hown _ _ rfl hkey ?_)
      | fail)
     go_ret;exact ⟨by rw[HF.out]; rfl,HBB.out.alloc HBB.out.size _⟩
    | false=>
     have HNU:Hid (∀m (hm:m < k),l[m]'(by omega)≠l[k]'hlt):=Y1 (fun m hm he=>by
      rw[<-HE.out] at he;have:x∈l.take k:=by
       rw[<-he];have:=List.getElem_mem (l:=l.take k) (n:=m) (by rw[List.length_take]; omega)
       rwa [List.getElem_take] at this
      rw[List.contains_iff_mem.2 this] at hin;cases hin)
     have hhas:=HHAS.out;rw[hin] at hhas;clear hin;cases hn:Lex.isName x with
     | false=>
      have HF:Hid (areNames l=false):=Y1 (Z2R hlt (by rw[<-HE.out]; exact hn));have hw:=fun W=>Z1G x hxl W;simp only[hn] at hw;clear hn
      go_wp2_with (first
       | (at_lookup; refine wpList_lookup_own_unit _ rfl _ _ 82 rfl 9 83 Z36 Tryd.underlying82 (Z2Y _) w.heap.size k _ rfl hown _ _ rfl hkey ?_)
       | (go_at_call 60; refine (hw _).mono ?_; rintro e w' ⟨rfl,rfl⟩))
      go_ret;exact ⟨by rw[HF.out]; rfl,HBB.out.alloc HBB.out.size _⟩
     | true=>
      have HNA:Hid (Lex.isName (l[k]'hlt)=true):=Y1 (by rw[<-HE.out]; exact hn);have hw:=fun W=>Z1G x hxl W;simp only[hn] at hw;clear hn
      go_wp2_with (first
       | (at_lookup; refine wpList_lookup_own_unit _ rfl _ _ 82 rfl 9 83 Z36 Tryd.underlying82 (Z2Y _) w.heap.size k _ rfl hown _ _ rfl hkey ?_)
       | (go_at_call 60; refine (hw _).mono ?_; rintro e w' ⟨rfl,rfl⟩)
       | (at_mapUpdate; refine wpList_mapUpdate_own _ rfl _ _ _ 82 rfl 9 83 Z36 Tryd.underlying82 (unitElem (H:=Unit)) w.heap.size k _ rfl (hown.alloc _) (by unfold maxLen; omega) _ _ _ rfl rfl hkey _ [] unitElem_mk ?_; intro w1 hown1 hgrow1))
      go_roundw
      case rel=>
       refine ⟨k+1,by omega,by go_num, ?_, ?_,Y1 (fun j hj hji=>by
        rcases Nat.lt_succ_iff_lt_or_eq.1 hji with h | rfl
        {exact HN.out j hj h}
        · exact ⟨HNA.out,HNU.out⟩)⟩
       {rw[Z8w l k hlt, <-HE.out]; exact hown1}
       {exact (HBB.out.alloc HBB.out.size _).grown hgrow1 (by have:=HBB.out.size; simp; omega) (fun j hj=>by cases hj; exact Nat.le_refl _)}
      case measure=>simp[intOf]; omega}}
  {have hi1: ¬(k:Int) < (l.length:Int):=by omega
   have HM:Hid (areNames l=true):=Y1 (Z3a (fun j hj=>(HN.out j hj (by omega)).1) (fun j hj=>(HN.out j hj (by omega)).2));go_wp2;go_ret;exact ⟨by rw[HM.out]; rfl,hb⟩}
end
end Go.Proofs.YthajhofgjhfjeaaDoor
namespace Go.Proofs.YthajhofgjhfjeaaDoor
open Go.RowKit Go.Maps Go.WideMaps Shp
namespace SubM
abbrev Ky:=List UInt8
def Fine (k:Ky):Prop:=k.length<=9223372036854775807
def KL (k:Ky):Lit:= .string k
theorem Z1g {k:Ky} (h:Fine k):keyOf Tryd.prog 9 (.string ⟨k.toArray⟩)=some (KL k):=keyOf_string_mk Tryd.underlying9 (by rw[Z0m]; unfold maxLen; exact h)
theorem Z3U {k k':Ky} (h:Fine k) (h':Fine k') (e:KL k=KL k'):k=k':=by cases e; rfl
theorem Z8h (k:Ky):WideAt.IsKeyLit (KL k):=trivial
def slEl:Value->Option (DataW Unit×List MemPlace)
 | .pointer none=>some (.agg [],[])
 | .pointer (some ⟨g,o,none⟩)=>some (.agg [.lit (.int .i64 (g:Int)),.lit (.int .i64 (o:Int))],[])
 | _=>none
theorem Z93 {v v':Value} {d:DataW Unit} {p p':List MemPlace} (h:slEl v=some (d,p)) (h':slEl v'=some (d,p')):v=v':=by
 unfold slEl at h h';split at h <;> split at h' <;> simp only[Option.some.injEq,Prod.mk.injEq,reduceCtorEq] at h h'
 {rfl}
 {obtain ⟨rfl,_⟩:=h;simp at h'}
 {obtain ⟨rfl,_⟩:=h;simp at h'}
 {obtain ⟨rfl,_⟩:=h;simp at h';obtain ⟨⟨h1,h2⟩,_⟩:=h';have e1:_=_:=Int.ofNat_inj.1 h1;have e2:_=_:=Int.ofNat_inj.1 h2;rw[e1,e2]}
theorem Z9u (w:World): (zeroValue 42).run Tryd.prog w= .ok (.pointer none) w:=by kernel_rfl
def Mp (W:World) (b N:Nat) (S:List Ky) (m:Ky->Value):Prop:=
 ∃D:DataW Unit,W.ownsMap Tryd.prog 9 slEl b N D/\Maps.size D=S.length/\S.Nodup/\(∀k∈S,Fine k)/\(∀k,Fine k->(Maps.has D (KL k)=true ↔ k∈S))/\
  ∀k,Fine k-> ∃p,slEl (if k∈S then m k else .pointer none)=some (D.atKey (KL k) (.agg []),p)
theorem Mp.made (W:World) (m:Ky->Value):Mp (W.alloc (.map #[] 0)) W.heap.size 0 [] m:=by
 refine ⟨.map [],World.ownsMap_made _ _ _ _,rfl,List.nodup_nil,nofun,fun k _=>⟨fun h=>by simp[Maps.has] at h,nofun⟩,fun k _=>⟨[], ?_⟩⟩;rw[if_neg (by simp)];rfl
theorem Mp.lt {W:World} {b N:Nat} {S:List Ky} {m:Ky->Value} (h:Mp W b N S m):b < W.heap.size:=by obtain ⟨_,h,_⟩:=h; exact h.lt
theorem Mp.kept {W W':World} {b N:Nat} {S:List Ky} {m:Ky->Value} (h:Mp W b N S m) {row:Option Nat} (hg:W.grownBy W' row) (hne:some b≠row):Mp W' b N S m:=by
 obtain ⟨D,h1,h2⟩:=h; exact ⟨D,h1.kept hg hne,h2⟩
theorem Mp.same {W W':World} {b N:Nat} {S:List Ky} {m:Ky->Value} (h:Mp W b N S m) (hb:W'.heap[b]? =W.heap[b]?):Mp W' b N S m:=by
 obtain ⟨D,⟨es,clock,h0,h1⟩,h2⟩:=h; exact ⟨D,⟨es,clock,hb.trans h0,h1⟩,h2⟩
section
variable {W : World} {b N : Nat} {S : List Ky}
include W b N S
theorem Mp.like {m m':Ky->Value} (h:Mp W b N S m) (hm: ∀k∈S,m' k=m k):Mp W b N S m':=by
 obtain ⟨D,h1,h2,h3,h4,h5,h6⟩:=h;refine ⟨D,h1,h2,h3,h4,h5,fun k hk=> ?_⟩;obtain ⟨p,hp⟩:=h6 k hk;refine ⟨p, ?_⟩;rw[<-hp];by_cases e:k∈S
 {rw[if_pos e,if_pos e,hm k e]}
 {rw[if_neg e,if_neg e]}
theorem Mp.look {m:Ky->Value} (h:Mp W b N S m) {k:Ky} (hk:Fine k):
 (Instr.lookup 62 (.map (some b)) ((.string ⟨k.toArray⟩)) false).run Tryd.prog W= .ok (if k∈S then m k else .pointer none) W:=by
 obtain ⟨D,h1,_,_,_,_,h6⟩:=h;obtain ⟨v,ps,hr,hv⟩:=h1.lookup Z36 Tryd.underlying62 (Z9u W) (zd:= .agg []) (zp:= []) rfl (Z1g hk);obtain ⟨p,hp⟩:=h6 k hk;rw[hr,Z93 hv hp]
end
theorem Mp.len {W:World} {b N:Nat} {S:List Ky} {m:Ky->Value} (h:Mp W b N S m) (ty:TypeId):
 (Builtin.len_ #[62] ty #[.map (some b)]).run Tryd.prog W= .ok (.int .i64 S.length) W:=by
 obtain ⟨D,h1,h2,_⟩:=h;rw[h1.len Tryd.underlying62 ty,h2]
theorem Mp.put {W:World} {b N:Nat} {S:List Ky} {m:Ky->Value} (h:Mp W b N S m) {k:Ky} (hk:Fine k) (hN:N < maxLen) {v:Value} {z:DataW Unit×List MemPlace} (hv:slEl v=some z):
 ∃W',(Instr.mapUpdate 62 (.map (some b)) ((.string ⟨k.toArray⟩)) v).run Tryd.prog W= .ok () W'/\Mp W' b (N+1) (if k∈S then S else k::S) (fun x=>if x=k then v else m x)/\W.mapTurned W' b:=by
 obtain ⟨D,h1,h2,h3,h4,h5,h6⟩:=h;obtain ⟨W',hr,ho,hg⟩:=h1.store Z36 Tryd.underlying62 hN (Z1g hk) (ps:=z.2) (d:=z.1) (by rw[hv]);have hT:=h1.tidy Z36;have hsz:=Maps.size_put (k:=KL k) hT z.1;have hmem: ∀x,x∈(if k∈S then S else k::S) ↔ x=k\/x∈S:=fun x=>by
  by_cases e:k∈S
  {rw[if_pos e]; exact ⟨Or.inr,fun h=>h.elim (fun h=>h▸e) id⟩}
  {rw[if_neg e]; exact List.mem_cons}
 refine ⟨W',hr,⟨D.put (KL k) z.1,ho, ?_, ?_, ?_, ?_, ?_⟩,hg⟩
 {rw[hsz,h2];by_cases e:k∈S
  {rw[if_pos ((h5 k hk).2 e),if_pos e]}
  {rw[if_neg (fun h=>e ((h5 k hk).1 h)),if_neg e]; rfl}}
 {by_cases e:k∈S
  {rw[if_pos e]; exact h3}
  {rw[if_neg e]; exact List.nodup_cons.2 ⟨e,h3⟩}}
 {intro x hx;rcases (hmem x).1 hx with rfl | hx
  {exact hk}
  {exact h4 x hx}}
 {intro x hx;rw[hmem];by_cases e:x=k
  {subst e;exact ⟨fun _=>Or.inl rfl,fun _=>Maps.has_put_same h1.isMap (Z8h _) _⟩}
  {rw[Maps.has_put_other (fun h=>e (Z3U hx hk h)),h5 x hx];exact ⟨Or.inr,fun h=>h.resolve_left e⟩}}
 {intro x hx;by_cases e:x=k
  {subst e;refine ⟨z.2, ?_⟩;rw[if_pos ((hmem _).2 (Or.inl rfl))];simp only[if_true];rw[Maps.atKey_put_same h1.isMap (Z8h _),hv]}
  {obtain ⟨p,hp⟩:=h6 x hx;refine ⟨p, ?_⟩;rw[Maps.atKey_put_other (fun h=>e (Z3U hx hk h)), <-hp];by_cases e2:x∈S
   {rw[if_pos ((hmem x).2 (Or.inr e2)),if_pos e2]; simp only[if_neg e]}
   {rw[if_neg (fun h=>e2 (((hmem x).1 h).resolve_left e)),if_neg e2]}}}
theorem Mp.del {W:World} {b N:Nat} {S:List Ky} {m:Ky->Value} (h:Mp W b N S m) {k:Ky} (hk:Fine k) (ty:TypeId):
 ∃W',(Builtin.delete_ #[62,9] ty #[.map (some b),(.string ⟨k.toArray⟩)]).run Tryd.prog W= .ok (.tuple #[]) W'/\Mp W' b N (S.filter (· ≠k)) m/\W.mapTurned W' b:=by
 obtain ⟨D,h1,h2,h3,h4,h5,h6⟩:=h;obtain ⟨W',hr,ho,hg⟩:=h1.drop Z36 Tryd.underlying62 (Z1g hk) ty;have hT:=h1.tidy Z36;have hsz:=Maps.size_del (k:=KL k) hT;have hmem: ∀x,x∈S.filter (· ≠k) ↔ x∈S/\x≠k:=fun x=>by simp[List.mem_filter]
 have hlen: (S.filter (· ≠k)).length+(if k∈S then 1 else 0)=S.length:=by
  clear h2 h4 h5 h6 hsz hmem;induction S with
  | nil=>rfl
  | cons a S ih=>
   rw[List.nodup_cons] at h3;have:=ih h3.2;by_cases e:a=k
   {subst e;have hf:S.filter (· ≠a)=S:=List.filter_eq_self.2 (fun x hx=>by simp; rintro rfl; exact h3.1 hx)
    rw[List.filter_cons_of_neg (by simp),hf,if_pos (by simp)]; rfl}
   {rw[List.filter_cons_of_pos (by simp[e]),List.length_cons,List.length_cons];have: (k∈a::S) ↔ k∈S:=by simp[Ne.symm e]
    by_cases e2:k∈S
    {rw[if_pos (this.2 e2)]; rw[if_pos e2] at *; omega}
    {rw[if_neg (fun h=>e2 (this.1 h))]; rw[if_neg e2] at *; omega}}
 refine ⟨W',hr,⟨D.del (KL k),ho, ?_, ?_, ?_, ?_, ?_⟩,hg⟩
 {rw[h2] at hsz;by_cases e:k∈S
  {rw[if_pos ((h5 k hk).2 e)] at hsz; rw[if_pos e] at hlen; omega}
  {rw[if_neg (fun h=>e ((h5 k hk).1 h))] at hsz; rw[if_neg e] at hlen; omega}}
 {exact h3.filter _}
 {exact fun x hx=>h4 x ((hmem x).1 hx).1}
 {intro x hx;rw[hmem];by_cases e:x=k
  {subst e;rw[Maps.has_del_same];exact ⟨nofun,fun h=>absurd rfl h.2⟩}
  {rw[Maps.has_del_other (fun h=>e (Z3U hx hk h)),h5 x hx];exact ⟨fun h=>⟨h,e⟩,fun h=>h.1⟩}}
 {intro x hx;by_cases e:x=k
  {subst e;refine ⟨[], ?_⟩;rw[if_neg (fun h=>((hmem _).1 h).2 rfl),Maps.atKey_del_same]; rfl}
  {obtain ⟨p,hp⟩:=h6 x hx;refine ⟨p, ?_⟩;rw[Maps.atKey_del_other (fun h=>e (Z3U hx hk h)), <-hp];by_cases e2:x∈S
   {rw[if_pos ((hmem x).2 ⟨e2,e⟩),if_pos e2]}
   {rw[if_neg (fun h=>e2 ((hmem x).1 h).1),if_neg e2]}}}
theorem Mp.look2 {W:World} {b N:Nat} {S:List Ky} {m:Ky->Value} (h:Mp W b N S m) {k:Ky} (hk:Fine k):
 (Instr.lookup 62 (.map (some b)) (.string ⟨k.toArray⟩) true).run Tryd.prog W= .ok (.tuple #[if k∈S then m k else .pointer none,.bool (decide (k∈S))]) W:=by
 obtain ⟨D,h1,_,_,_,h5,h6⟩:=h;obtain ⟨v,ps,hr,hv⟩:=h1.look_ok Z36 Tryd.underlying62 (Z9u W) (zd:= .agg []) (zp:= []) rfl (Z1g hk);obtain ⟨p,hp⟩:=h6 k hk;rw[hr,Z93 hv hp];have:Maps.has D (KL k)=decide (k∈S):=by rw[Bool.eq_iff_iff,h5 k hk,decide_eq_true_eq]
 rw[this]
end SubM
end Go.Proofs.YthajhofgjhfjeaaDoor
namespace Shp
section
theorem Z3I {s:List UInt8} (h:Lex.isName s=true):s.length<=24:=by
 cases s with
 | nil=>simp
 | cons c r=>
  have:Lex.isName (c::r)=(decide ((c::r).length<=24)&&Lex.small c&&(c::r).all Lex.nameB&& !Lex.isWord (c::r)):=rfl;rw[this] at h;simp only[Bool.and_eq_true,decide_eq_true_eq] at h;exact h.1.1.1
theorem Z5F {s:List UInt8} (h:Lex.isUpper s=true):s.length<=24:=by
 cases s with
 | nil=>simp
 | cons c r=>
  have:Lex.isUpper (c::r)=(decide ((c::r).length<=24)&&Lex.great c&&(c::r).all Lex.nameB):=rfl;rw[this] at h;simp only[Bool.and_eq_true,decide_eq_true_eq] at h;exact h.1.1
theorem Z3J {t:Sh} (h:fits t=true):
 (1<=t.kind/\t.kind<=4/\t.names= []/\t.parts= [])\/(t.kind=5/\t.names= []/\t.parts.length=1)\/((t.kind=6\/t.kind=7)/\t.names.length=t.parts.length/\areNames t.names=true)\/
 (t.kind=8/\t.names= []/\1<=t.parts.length)\/((t.kind=9\/t.kind=10)/\t.names= []/\t.parts= []/\t.name.length<=24/\t.of_.length<=24):=by
 by_cases h9:t.kind=9\/t.kind=10
 {rw[Z1u h9] at h;simp only[Bool.and_eq_true,decide_eq_true_eq] at h;obtain ⟨⟨⟨h1,h2⟩,h3⟩,h4⟩:=h;refine Or.inr (Or.inr (Or.inr (Or.inr ⟨h9,List.eq_nil_of_length_eq_zero h3,List.eq_nil_of_length_eq_zero h4,Z5F h1, ?_⟩)));unfold ofOk at h2;cases hn:Lex.isName t.of_ with
  | true=>exact Z3I hn
  | false=>
   rw[hn] at h2;simp at h2;rw[h2.1.1]; simp}
 {cases hb:bare t with
  | false=>rw[Z0G h9 hb] at h; cases h
  | true=>
   by_cases h6:t.kind=6\/t.kind=7
   {rw[Z3r hb h6,Bool.and_eq_true,decide_eq_true_eq] at h;exact Or.inr (Or.inr (Or.inl ⟨h6,h.2,h.1⟩))}
   {by_cases hz:0 < t.names.length
    {rw[Z16 h9 hb h6 hz] at h; cases h}
    {have hn:t.names= []:=List.eq_nil_of_length_eq_zero (by omega);by_cases h8:t.kind=8
     {rw[Z3s hb h8 hz,decide_eq_true_eq] at h;exact Or.inr (Or.inr (Or.inr (Or.inl ⟨h8,hn,h⟩)))}
     {by_cases h5:t.kind=5
      {rw[Z2S hb h5 hz,decide_eq_true_eq] at h;exact Or.inr (Or.inl ⟨h5,hn,h⟩)}
      {rw[Z1Q hb h9 h6 hz h8 h5] at h;simp only[Bool.and_eq_true,decide_eq_true_eq] at h;exact Or.inl ⟨h.1.1,h.1.2,hn,List.eq_nil_of_length_eq_zero h.2⟩}}}}}
end
end Shp
namespace Go.Proofs.YthajhofgjhfjeaaDoor
section
open Shp
theorem Z3t (x:Fld): ∀l:List Fld,(ins x l).Perm (x::l)
 | []=>List.Perm.refl _
 | y::l=>by
  unfold ins;split
  {exact ((Z3t x l).cons y).trans (List.Perm.swap x y l)}
  {exact List.Perm.refl _}
theorem Z2T: ∀(l a:List Fld),(l.foldl (fun a x=>ins x a) a).Perm (l++a)
 | [],a=>List.Perm.refl _
 | x::l,a=>by
  rw[List.foldl_cons];refine (Z2T l _).trans ?_;refine (List.Perm.append_left l (Z3t x a)).trans ?_;exact List.perm_middle
theorem Z0y (l:List Fld): (sortF l).Perm l:=by
 have:=Z2T l []
 rwa [List.append_nil] at this
theorem Z3M (x:Fld): ∀l:List Fld,l.Pairwise (fun a b=>a.1<=b.1)->(ins x l).Pairwise (fun a b=>a.1<=b.1)
 | [],_=>by simp[ins]
 | y::l,h=>by
  rw[List.pairwise_cons] at h;unfold ins;split
  {rename_i hlt
   rw[List.pairwise_cons];refine ⟨fun b hb=> ?_,Z3M x l h.2⟩;rcases List.mem_cons.1 ((Z3t x l).mem_iff.1 hb) with rfl | hb
   {exact List.le_of_lt hlt}
   {exact h.1 b hb}}
  {rename_i hlt
   have hxy:x.1<=y.1:=List.not_lt.1 hlt;rw[List.pairwise_cons,List.pairwise_cons];refine ⟨fun b hb=> ?_,h⟩;rcases List.mem_cons.1 hb with rfl | hb
   {exact hxy}
   {exact List.le_trans hxy (h.1 b hb)}}
theorem Z2c: ∀(l a:List Fld),a.Pairwise (fun a b=>a.1<=b.1)->(l.foldl (fun a x=>ins x a) a).Pairwise (fun a b=>a.1<=b.1)
 | [],a,h=>h
 | x::l,a,h=>Z2c l _ (Z3M x a h)
theorem Z1d (l:List Fld): (sortF l).Pairwise (fun a b=>a.1<=b.1):=Z2c l [] List.Pairwise.nil
theorem Z88 {l:List Fld} (h: (l.map Prod.fst).Nodup) {a b:Fld} (ha:a∈l) (hb:b∈l) (he:a.1=b.1):a=b:=by
 induction l with
 | nil=>cases ha
 | cons x l ih=>
  rw[List.map_cons,List.nodup_cons] at h;rcases List.mem_cons.1 ha with e1 | h1
  {rcases List.mem_cons.1 hb with e2 | h2
   {rw[e1,e2]}
   {exact absurd (by rw[<-e1,he]; exact List.mem_map_of_mem h2) h.1}}
  {rcases List.mem_cons.1 hb with e2 | h2
   {exact absurd (by rw[<-e2, <-he]; exact List.mem_map_of_mem h1) h.1}
   {exact ih h.2 h1 h2}}
theorem Z1e {l m:List Fld} (hp:m.Perm l) (hs:m.Pairwise (fun a b=>a.1<=b.1)) (hn: (l.map Prod.fst).Nodup):m=sortF l:=by
 refine List.Perm.eq_of_pairwise (le:=fun a b:Fld=>a.1<=b.1) (fun a b ha hb h1 h2=> ?_) hs (Z1d l) (hp.trans (Z0y l).symm);exact Z88 hn (hp.mem_iff.1 ha) ((Z0y l).mem_iff.1 hb) (List.le_antisymm h1 h2)
end
end Go.Proofs.YthajhofgjhfjeaaDoor
namespace Sub
section
open Shp
def look:List (List UInt8)->List Sh->List UInt8->Option Sh
 | x::ns,p::ps,n=>if x=n then some p else look ns ps n
 | [],_,_=>none
 | _::_,[],_=>none
def get (t:Sh) (n:List UInt8):Option Sh:=look t.names t.parts n
section
variable {ns : List (List UInt8)} {ps : List Sh}
include ns ps
theorem Zbw {n:List UInt8} {p:Sh} (h:look ns ps n=some p):n∈ns/\p∈ps:=by
 induction ns generalizing ps with
 | nil=>cases ps <;> simp[look] at h
 | cons x ns ih=>
  cases ps with
  | nil=>simp[look] at h
  | cons q ps=>
   unfold look at h;split at h
   {rename_i e
    cases h;exact ⟨by simp[e],by simp⟩}
   {have:=ih h;exact ⟨by simp[this.1],by simp[this.2]⟩}
theorem ZaI (hd:ns.Nodup) {n:List UInt8} {p:Sh}:look ns ps n=some p ↔ (n,p)∈ns.zip ps:=by
 induction ns generalizing ps with
 | nil=>cases ps <;> simp[look]
 | cons x ns ih=>
  rw[List.nodup_cons] at hd;cases ps with
  | nil=>simp[look]
  | cons q ps=>
   unfold look;rw[List.zip_cons_cons,List.mem_cons];split
   {rename_i e
    subst e;refine ⟨fun h=>Or.inl (by cases h; rfl),fun h=> ?_⟩;rcases h with h | h
    {cases h; rfl}
    {exact absurd (List.of_mem_zip h).1 hd.1}}
   {rename_i e
    rw[ih hd.2];refine ⟨Or.inr,fun h=> ?_⟩;rcases h with h | h
    {cases h; exact absurd rfl e}
    {exact h}}
theorem Zcp (hl:ns.length=ps.length) {n:List UInt8}:look ns ps n=none ↔ n∉ns:=by
 induction ns generalizing ps with
 | nil=>cases ps <;> simp[look]
 | cons x ns ih=>
  cases ps with
  | nil=>simp at hl
  | cons q ps=>
   unfold look;split
   {rename_i e; simp[e]}
   {rename_i e
    rw[ih (by simpa using hl),List.mem_cons,not_or];exact ⟨fun h=>⟨fun e'=>e e'.symm,h⟩,fun h=>h.2⟩}
theorem ZcQ (hd:ns.Nodup) {i:Nat} (h1:i < ns.length) (h2:i < ps.length):look ns ps (ns[i]'h1)=some (ps[i]'h2):=
 (ZaI hd).2 (List.mem_iff_getElem.2 ⟨i,by rw[List.length_zip]; omega,by rw[List.getElem_zip]⟩)
end
structure Rec (t:Sh):Prop where
 k:t.kind=6\/t.kind=7
 b:bare t=true
 l:t.names.length=t.parts.length
 a:areNames t.names=true
theorem Rec.nodup {t:Sh} (h:Rec t):t.names.Nodup:=((Z0E _).1 h.a).2
theorem Rec.isName {t:Sh} (h:Rec t) {n:List UInt8} (hn:n∈t.names):Lex.isName n=true:=((Z0E _).1 h.a).1 n hn
theorem Za4 {t:Sh} (h:fits t=true) (hk:t.kind=6\/t.kind=7):Rec t:=by
 have hb:bare t=true:=by
  cases hb:bare t with
  | true=>rfl
  | false=>rw[Z0G (by omega) hb] at h; cases h
 rw[Z3r hb hk,Bool.and_eq_true,decide_eq_true_eq] at h;exact ⟨hk,hb,h.2,h.1⟩
section
variable {t : Sh} (h : Rec t) {n : List UInt8}
include t h n
theorem Rec.get_none:get t n=none ↔ n∉t.names:=Zcp h.l
theorem Rec.get_iff {p:Sh}:get t n=some p ↔ (n,p)∈t.names.zip t.parts:=ZaI h.nodup
end
section
variable {t p : Sh} {n : List UInt8} (h : get t n = some p)
include t p n h
theorem Z9Z:p∈t.parts:=(Zbw h).2
theorem Zaq:n∈t.names:=(Zbw h).1
end
def Narrow (up:Bool) (k:Int):Prop:=(up=true/\k=6)\/(up=false/\k=7)
def Wide (up:Bool) (k:Int):Prop:=(up=true/\k=7)\/(up=false/\k=6)
instance (up:Bool) (k:Int):Decidable (Narrow up k):=by unfold Narrow; infer_instance
instance (up:Bool) (k:Int):Decidable (Wide up k):=by unfold Wide; infer_instance
section
variable {k : Int} {up : Bool}
include k up
theorem Zar (h:Narrow up k): ¬Wide up k:=by
 unfold Narrow Wide at *;cases up <;> rcases h with h | h <;> simp_all
theorem Zaa (h:Narrow up k):k=6\/k=7:=by unfold Narrow at h; omega
theorem Zae (h:Wide up k):k=6\/k=7:=by unfold Wide at h; omega
theorem ZbM:Narrow (!up) k ↔ Wide up k:=by cases up <;> simp[Narrow,Wide]
theorem Zcr:Wide (!up) k ↔ Narrow up k:=by cases up <;> simp[Narrow,Wide]
end
def V:Nat->Bool->Sh->Sh->Prop
 | 0,_,_,_=>False
 | f+1,up,a,b=>a.kind=b.kind/\
  (Narrow up a.kind-> ∀n q,get b n=some q-> ∃p,get a n=some p/\V f up p q)/\
  (Wide up a.kind-> ∀n p,get a n=some p-> ∃q,get b n=some q/\V f up p q)/\
  (¬(a.kind=6\/a.kind=7)->a.of_=b.of_/\a.name=b.name/\a.parts.length=b.parts.length/\
   ∀i p q,a.parts[i]? =some p->b.parts[i]? =some q->V f (if i+1=a.parts.length then up else !up) p q)
theorem V.flip {f:Nat}: ∀ {up:Bool} {a b:Sh},V f up a b->V f (!up) b a:=by
 induction f with
 | zero=>intro up a b h; exact h.elim
 | succ f ih=>
  intro up a b h;obtain ⟨hk,h1,h2,h3⟩:=h;refine ⟨hk.symm,fun h n q hq=> ?_,fun h n p hp=> ?_,fun h=> ?_⟩
  {rw[ZbM, <-hk] at h;obtain ⟨p,hp,hv⟩:=h2 h n q hq;exact ⟨p,hp,ih hv⟩}
  {rw[Zcr, <-hk] at h;obtain ⟨q,hq,hv⟩:=h1 h n p hp;exact ⟨q,hq,ih hv⟩}
  {rw[<-hk] at h;obtain ⟨e1,e2,e3,e4⟩:=h3 h;refine ⟨e1.symm,e2.symm,e3.symm,fun i p q hp hq=> ?_⟩;have:=ih (e4 i q p hq hp);rw[<-e3];by_cases e:i+1=a.parts.length
   {rw[if_pos e] at this ⊢; exact this}
   {rw[if_neg e] at this ⊢; exact this}}
theorem V.flip_iff {f:Nat} {up:Bool} {a b:Sh}:V f up a b ↔ V f (!up) b a:=⟨V.flip,fun h=>by have:=h.flip; rwa [Bool.not_not] at this⟩
theorem V.refl {f:Nat}: ∀ {up:Bool} {a:Sh},deep a<=f->V f up a a:=by
 induction f with
 | zero=>intro up a h; rw[Z0T] at h; omega
 | succ f ih=>
  intro up a h;have hp: ∀p∈a.parts,deep p<=f:=fun p hp=>by have:=Z2N hp; rw[Z0T] at h; omega
  refine ⟨rfl,fun _ n q hq=>⟨q,hq,ih (hp q (Z9Z hq))⟩,fun _ n q hq=>⟨q,hq,ih (hp q (Z9Z hq))⟩,fun _=>⟨rfl,rfl,rfl,fun i p q h1 h2=> ?_⟩⟩;rw[h1] at h2;cases h2;exact ih (hp p (List.mem_of_getElem? h1))
theorem V.trans {f:Nat}: ∀ {up:Bool} {a b c:Sh},V f up a b->V f up b c->V f up a c:=by
 induction f with
 | zero=>intro up a b c h; exact h.elim
 | succ f ih=>
  intro up a b c h k;obtain ⟨hk,h1,h2,h3⟩:=h;obtain ⟨kk,k1,k2,k3⟩:=k;rw[<-hk] at k1 k2 k3;refine ⟨hk.trans kk,fun h n r hr=> ?_,fun h n p hp=> ?_,fun h=> ?_⟩
  {obtain ⟨q,hq,hv⟩:=k1 h n r hr;obtain ⟨p,hp,hu⟩:=h1 h n q hq;exact ⟨p,hp,ih hu hv⟩}
  {obtain ⟨q,hq,hv⟩:=h2 h n p hp;obtain ⟨r,hr,hu⟩:=k2 h n q hq;exact ⟨r,hr,ih hv hu⟩}
  {obtain ⟨e1,e2,e3,e4⟩:=h3 h;obtain ⟨g1,g2,g3,g4⟩:=k3 h;refine ⟨e1.trans g1,e2.trans g2,e3.trans g3,fun i p r hp hr=> ?_⟩;have hi:i < a.parts.length:=(List.getElem?_eq_some_iff.1 hp).1;have hib:i < b.parts.length:=by omega
   obtain ⟨q,hq⟩: ∃q,b.parts[i]? =some q:=⟨_,List.getElem?_eq_getElem hib⟩;have:=g4 i q r hq hr;rw[<-e3] at this;exact ih (e4 i p q hp hq) this}
abbrev Cl:=List UInt8×Option Sh×Option Sh
def callsA (a b:Sh):List Cl:=(a.names.zip a.parts).map (fun x=>(x.1,some x.2,get b x.1))
def callsB (a b:Sh):List Cl:=((b.names.zip b.parts).filter (fun x=>(get a x.1).isNone)).map (fun x=>(x.1,none,some x.2))
def calls (a b:Sh):List Cl:=callsA a b++callsB a b
section
variable {a b : Sh} (A : Rec a) (B : Rec b) {n : List UInt8}
include a b A B n
theorem Za5 {x y:Option Sh}: (n,x,y)∈calls a b ↔ x=get a n/\y=get b n/\(n∈a.names\/n∈b.names):=by
 unfold calls callsA callsB;rw[List.mem_append,List.mem_map,List.mem_map];constructor
 {rintro (⟨⟨m,p⟩,h,e⟩ | ⟨⟨m,p⟩,h,e⟩)
  {simp only[Prod.mk.injEq] at e;obtain ⟨rfl,rfl,rfl⟩:=e;exact ⟨(A.get_iff.2 h).symm,rfl,Or.inl (List.of_mem_zip h).1⟩}
  {simp only[Prod.mk.injEq] at e;obtain ⟨rfl,rfl,rfl⟩:=e;rw[List.mem_filter] at h;refine ⟨?_,(B.get_iff.2 h.1).symm,Or.inr (List.of_mem_zip h.1).1⟩;exact (Option.isNone_iff_eq_none.1 h.2).symm}}
 {rintro ⟨rfl,rfl,h⟩;cases ha:get a n with
  | some p=>exact Or.inl ⟨(n,p),A.get_iff.1 ha,rfl⟩
  | none=>
   have hb:n∈b.names:=h.resolve_left (A.get_none.1 ha);cases hq:get b n with
   | none=>exact absurd hb (B.get_none.1 hq)
   | some q=>exact Or.inr ⟨(n,q),List.mem_filter.2 ⟨B.get_iff.1 hq,by simp[ha]⟩,rfl⟩}
theorem ZaE (h:n∈(calls a b).map Prod.fst):Lex.isName n=true:=by
 obtain ⟨⟨m,x,y⟩,hm,rfl⟩:=List.mem_map.1 h;rcases ((Za5 A B).1 hm).2.2 with h | h
 {exact A.isName h}
 {exact B.isName h}
end
def narrowStep (g:Sh->Sh->Option Sh) (c:Cl):Option Fld:=
 match c with
 | (n,some p,some q)=>(g p q).map (fun x=>(n,x))
 | (_,some _,none)=>none
 | (_,none,_)=>none
def wideStep (g:Sh->Sh->Option Sh) (c:Cl):Option Fld:=
 match c with
 | (n,some p,some q)=>(g p q).map (fun x=>(n,x))
 | (n,some p,none)=>some (n,p)
 | (n,none,some q)=>some (n,q)
 | (_,none,none)=>none
def allOf (s:Cl->Option Fld):List Cl->Option (List Fld)
 | []=>some []
 | c::l=>(s c).bind (fun x=>(allOf s l).map (fun xs=>x::xs))
def placesOf (ga gr:Sh->Sh->Option Sh):List Sh->List Sh->Option (List Sh)
 | [],[]=>some []
 | a::us,b::bs=>(if us.isEmpty then gr a b else ga a b).bind (fun x=>(placesOf ga gr us bs).map (fun xs=>x::xs))
 | [],_::_=>none
 | _::_,[]=>none
def made (k:Int) (l:List Fld):Sh:=⟨k,[],[],l.map Prod.fst,l.map Prod.snd⟩
def bound:Nat->Bool->Sh->Sh->Option Sh
 | 0,_,_,_=>none
 | f+1,up,a,b=>
  if a.kind≠b.kind then none
  else if Narrow up a.kind then some (made a.kind ((calls a b).filterMap (narrowStep (bound f up))))
  else if Wide up a.kind then (allOf (wideStep (bound f up)) (calls a b)).map (made a.kind)
  else if a.of_=b.of_/\a.name=b.name then (placesOf (bound f (!up)) (bound f up) a.parts b.parts).map (fun ps=>⟨a.kind,a.of_,a.name,[],ps⟩)
  else none
section
variable {g : Sh -> Sh -> Option Sh} {c : Cl} {x : Fld}
include g c x
theorem ZaF (h:narrowStep g c=some x):x.1=c.1:=by
 unfold narrowStep at h;split at h
 {obtain ⟨_,_,rfl⟩:=Option.map_eq_some_iff.1 h; rfl}
 {cases h}
 {cases h}
theorem Zas (h:wideStep g c=some x):x.1=c.1:=by
 unfold wideStep at h;split at h
 {obtain ⟨_,_,rfl⟩:=Option.map_eq_some_iff.1 h; rfl}
 {cases h; rfl}
 {cases h; rfl}
 {cases h}
end
section
variable {s : Cl -> Option Fld} (hs : ∀ c x, s c = some x -> x.1 = c.1)
include s hs
theorem ZaC (l:List Cl): ((l.filterMap s).map Prod.fst).Sublist (l.map Prod.fst):=by
 induction l with
 | nil=>exact List.Sublist.refl _
 | cons c l ih=>
  cases h:s c with
  | none=>rw[List.filterMap_cons_none h,List.map_cons]; exact ih.cons _
  | some x=>rw[List.filterMap_cons_some h,List.map_cons,List.map_cons,hs c x h]; exact ih.cons_cons _
theorem ZaK {l:List Cl} {L:List Fld} (h:allOf s l=some L):L.map Prod.fst=l.map Prod.fst:=by
 induction l generalizing L with
 | nil=>unfold allOf at h; cases h; rfl
 | cons c l ih=>
  unfold allOf at h;obtain ⟨x,hx,h⟩:=Option.bind_eq_some_iff.1 h;obtain ⟨xs,hxs,rfl⟩:=Option.map_eq_some_iff.1 h;rw[List.map_cons,List.map_cons,ih hxs,hs c x hx]
end
theorem Zaw {ga gr:Sh->Sh->Option Sh} {us bs xs:List Sh} (h:placesOf ga gr us bs=some xs):xs.length=us.length/\us.length=bs.length:=by
 induction us generalizing bs xs with
 | nil=>cases bs <;> unfold placesOf at h <;> cases h; exact ⟨rfl,rfl⟩
 | cons a us ih=>
  cases bs with
  | nil=>unfold placesOf at h; cases h
  | cons b bs=>
   unfold placesOf at h;obtain ⟨x,_,h⟩:=Option.bind_eq_some_iff.1 h;obtain ⟨xs,hxs,rfl⟩:=Option.map_eq_some_iff.1 h;have:=ih hxs;simp[this.1,this.2]
theorem Zai {α:Type} (us:List α):us.isEmpty=true ↔ 0=us.length:=by cases us <;> simp
theorem ZaB {ga gr:Sh->Sh->Option Sh} {us bs xs:List Sh} (h:placesOf ga gr us bs=some xs):
 ∀(i:Nat) (p q:Sh),us[i]? =some p->bs[i]? =some q-> ∃x,xs[i]? =some x/\(if i+1=us.length then gr p q else ga p q)=some x:=by
 induction us generalizing bs xs with
 | nil=>intro i p q hp; simp at hp
 | cons a us ih=>
  cases bs with
  | nil=>intro i p q _ hq; simp at hq
  | cons b bs=>
   unfold placesOf at h;obtain ⟨x,hx,h⟩:=Option.bind_eq_some_iff.1 h;obtain ⟨xs,hxs,rfl⟩:=Option.map_eq_some_iff.1 h;intro i p q hp hq;cases i with
   | zero=>
    simp only[List.getElem?_cons_zero,Option.some.injEq] at hp hq;subst hp hq;refine ⟨x,by simp, ?_⟩;rw[<-hx];by_cases e:us.isEmpty=true
    {rw[if_pos e,if_pos (by have:=(Zai us).1 e; rw[List.length_cons]; omega)]}
    {rw[if_neg e,if_neg (fun h=>e ((Zai us).2 (by rw[List.length_cons] at h; omega)))]}
   | succ i=>
    simp only[List.getElem?_cons_succ] at hp hq;obtain ⟨y,hy,e⟩:=ih hxs i p q hp hq;refine ⟨y,by simpa using hy, ?_⟩;rw[<-e];simp
theorem ZaD {ga gr:Sh->Sh->Option Sh} {us bs:List Sh} (hl:us.length=bs.length)
 (h: ∀(i:Nat) (p q:Sh),us[i]? =some p->bs[i]? =some q-> ∃x,(if i+1=us.length then gr p q else ga p q)=some x): ∃xs,placesOf ga gr us bs=some xs:=by
 induction us generalizing bs with
 | nil=>
  cases bs with
  | nil=>exact ⟨[],by unfold placesOf; rfl⟩
  | cons b bs=>simp at hl
 | cons a us ih=>
  cases bs with
  | nil=>simp at hl
  | cons b bs=>
   obtain ⟨x,hx⟩:=h 0 a b (by simp) (by simp);obtain ⟨xs,hxs⟩:=ih (bs:=bs) (by simpa using hl) (fun i p q hp hq=>by
    obtain ⟨y,hy⟩:=h (i+1) p q (by simpa using hp) (by simpa using hq);exact ⟨y,by rw[<-hy]; simp⟩)
   refine ⟨x::xs, ?_⟩;unfold placesOf;rw[show (if us.isEmpty then gr a b else ga a b)=some x from ?_,hxs]
   {rfl}
   {rw[<-hx];by_cases e:us.isEmpty=true
    {rw[if_pos e,if_pos (by have:=(Zai us).1 e; rw[List.length_cons]; omega)]}
    {rw[if_neg e,if_neg (fun h=>e ((Zai us).2 (by rw[List.length_cons] at h; omega)))]}}
def sz:Option Sh->Nat
 | some p=>size p
 | none=>0
end
end Sub
namespace Go.Proofs.YthajhofgjhfjeaaDoor
open Go.RowKit Shp
namespace SubM
abbrev sv (s:Sh) (q:Ptr):Value:= .agg (Y8 s q)
structure Upd (S:Nat->Prop) (a b:World):Prop where
 os:b.os=a.os
 tape:b.tape=a.tape
 output:b.output=a.output
 size:a.heap.size<=b.heap.size
 block: ∀x,x < a.heap.size-> ¬S x->b.heap[x]? =a.heap[x]?
section
variable {S T : Nat -> Prop} {a b c : World} {B n0 : Nat}
theorem Upd.refl (S:Nat->Prop) (a:World):Upd S a a:=⟨rfl,rfl,rfl,Nat.le_refl _,fun _ _ _=>rfl⟩
theorem Upd.trans (h:Upd S a b) (k:Upd S b c):Upd S a c:=
 ⟨k.os.trans h.os,k.tape.trans h.tape,k.output.trans h.output,Nat.le_trans h.size k.size,fun x h1 h2=>(k.block x (Nat.lt_of_lt_of_le h1 h.size) h2).trans (h.block x h1 h2)⟩
theorem Upd.mono (h:Upd S a b) (hs: ∀x,x < a.heap.size->S x->T x):Upd T a b:=⟨h.os,h.tape,h.output,h.size,fun x h1 h2=>h.block x h1 (fun hx=>h2 (hs x h1 hx))⟩
theorem Upd.of_below (h:Below B a b) (hB: ∀x,x < a.heap.size->B<=x->S x):Upd S a b:=
 ⟨h.os,h.tape,h.output,h.size,fun x h1 h2=>h.block x (Nat.lt_of_not_le (fun hx=>h2 (hB x h1 hx)))⟩
theorem Upd.new (h:Below a.heap.size a b):Upd S a b:=Upd.of_below h (fun x h1 h2=>absurd h1 (by omega))
theorem Upd.below (h:Upd S a b) (hB:B<=a.heap.size) (hS: ∀x,S x->B<=x):Below B a b:=⟨h.os,h.tape,h.output,h.size,fun x h1=>h.block x (by omega) (fun hx=>by have:=hS x hx; omega)⟩
theorem Upd.drew (h:Upd S a b):Upd S a b.drew:=⟨h.os,h.tape,h.output,h.size,h.block⟩
theorem Upd.grown (h:Upd S a b) {row:Option Nat} (hg:b.grownBy c row) (hr: ∀k,row=some k->k < a.heap.size->S k):Upd S a c:=
 ⟨hg.os.trans h.os,hg.tape.trans h.tape,hg.output.trans h.output,Nat.le_trans h.size hg.size,fun x h1 h2=>(hg.block x (Nat.lt_of_lt_of_le h1 h.size) (fun e=>h2 (hr x e.symm h1))).trans (h.block x h1 h2)⟩
theorem Upd.set (h:Upd S a b) (p:Addr) (hp:p.block < a.heap.size->S p.block) (v:Value):Upd S a (b.setCell p v):=
 ⟨h.os,h.tape,h.output,by simpa[World.setCell] using h.size,fun x h1 h2=>(Below.heap_setCell _ _ _ _ (fun e=>h2 (by
  have e':x=p.block:=by first | exact e | exact e.symm
  rw[e']; exact hp (e'▸h1)))).trans (h.block x h1 h2)⟩
theorem Upd.cell (h:Upd S a b) {g k:Nat} (hg:g < a.heap.size) (hS: ¬S g):b.cell? ⟨g,k,none⟩=a.cell? ⟨g,k,none⟩:=World.cell?_of_block (w:=a) (h.block g hg hS)
theorem Upd.frozen (h:Upd S a b) {g k:Nat} (hg:g < a.heap.size) (hS: ¬S g):b.frozen? ⟨g,k,none⟩=a.frozen? ⟨g,k,none⟩:=World.frozen?_of_block (w:=a) (h.block g hg hS)
theorem Zal {g:Nat} {t:Sh} {q:Ptr} (h:Box5 a g t q) (hu:Upd S a b) (hS: ¬S g):Box5 b g t q:=by
 obtain ⟨h0,h1,f0,f1,f2,f3,f4⟩:=h;exact ⟨Nat.lt_of_lt_of_le h0 hu.size,h1.of (fun k=>hu.cell h0 hS),(hu.frozen h0 hS).trans f0,(hu.frozen h0 hS).trans f1,(hu.frozen h0 hS).trans f2,(hu.frozen h0 hS).trans f3,(hu.frozen h0 hS).trans f4⟩
theorem Za8 {t:Sh} {q:Ptr} (h:ShAt a n0 q t) (hn:n0<=a.heap.size) (hu:Upd S a b) (hS: ∀x,x < n0-> ¬S x):ShAt b n0 q t:=
 h.of (Nat.le_refl _) (fun g k hg=>hu.cell (by omega) (hS g hg))
theorem ZcY {g N:Nat} {K:List Ky} {m:Ky->Value} (h:Mp a g N K m) (hu:Upd S a b) (hS: ¬S g):Mp b g N K m:=h.same (hu.block g h.lt hS)
end
def At (W:World) (n0:Nat) (o:Option Sh) (v:Value):Prop:=
 match o with
 | none=>v= .pointer none
 | some p=> ∃g off q,v= .pointer (some ⟨g,off,none⟩)/\g < n0/\Sh5 W g off p q/\ShAt W n0 q p
theorem At.upd {a b:World} {S:Nat->Prop} {n0:Nat} {o:Option Sh} {v:Value} (h:At a n0 o v) (hn:n0<=a.heap.size) (hu:Upd S a b) (hS: ∀x,x < n0-> ¬S x):At b n0 o v:=by
 cases o with
 | none=>exact h
 | some p=>
  obtain ⟨g,off,q,h1,h2,h3,h4⟩:=h;exact ⟨g,off,q,h1,h2,h3.of (fun k=>hu.cell (by omega) (hS g h2)),Za8 h4 hn hu hS⟩
end SubM
end Go.Proofs.YthajhofgjhfjeaaDoor
namespace Go.Proofs.YthajhofgjhfjeaaDoor
open Go.RowKit Shp Sub
namespace SubM
structure Takes (n0 N:Nat) (a b:Sh) (fn:Nat) (cs:List Value) (step:Cl->Bool) (K:Bool->List Cl->World->Prop):Prop where
 keep: ∀ok done W W',K ok done W->Upd (fun x=>N<=x/\x < N+3) W W'->K ok done W'
 call: ∀done c rest W (x y:Value),calls a b=done++c::rest->N+3<=W.heap.size->K true done W->At W n0 c.2.1 x->At W n0 c.2.2 y->
  Calls Tryd.prog fn (.string ⟨c.1.toArray⟩::x::y::cs).toArray W fun e W'=>e= .returned (.bool (step c))/\K (step c) (done++ [c]) W'/\Upd (fun x=>n0<=x/\ ¬(N<=x/\x < N+3)) W W'
def numOf:List (List UInt8)->List UInt8->Nat
 | [],_=>0
 | x::l,n=>if x=n then 0 else numOf l n+1
theorem ZbD: ∀ {ns:List (List UInt8)} (hd:ns.Nodup) {k:Nat} (hk:k < ns.length),numOf ns (ns[k]'hk)=k
 | x::l,hd,0,hk=>by simp[numOf]
 | x::l,hd,k+1,hk=>by
  rw[List.nodup_cons] at hd;unfold numOf;rw[if_neg,List.getElem_cons_succ,ZbD hd.2];rw[List.getElem_cons_succ];exact fun e=>hd.1 (by rw[e]; exact List.getElem_mem _)
def place (g off:Nat) (ns:List (List UInt8)) (n:List UInt8):Value:= .pointer (some ⟨g,off+numOf ns n * 5,none⟩)
theorem Zb9 {g off:Nat} {ns:List (List UInt8)} (hd:ns.Nodup) {k:Nat} (hk:k < ns.length):place g off ns (ns[k]'hk)= .pointer (some ⟨g,off+k * 5,none⟩):=by
 unfold place;rw[ZbD hd]
def Parts (W:World) (n0:Nat) (t:Sh) (q:Ptr) (g off:Nat) (qs:Nat->Ptr):Prop:=
 t.parts.length=0\/(q.P=some ⟨g,off,none⟩/\g < n0/\ ∀i (h:i < t.parts.length),Sh5 W g (off+i * 5) (t.parts[i]'h) (qs i)/\ShAt W n0 (qs i) (t.parts[i]'h))
theorem ZaS {W:World} {n0:Nat} {t:Sh} {q:Ptr} (h:ShAt W n0 q t): ∃g off qs,Parts W n0 t q g off qs:=by
 rcases h.part with h | ⟨g,off,qs,hP,hg,h5,hr⟩
 {exact ⟨0,0,fun _=>q,Or.inl h⟩}
 {exact ⟨g,off,qs,Or.inr ⟨hP,hg,fun i hi=>⟨h5 i hi,hr i hi⟩⟩⟩}
theorem Parts.upd {a b:World} {S:Nat->Prop} {n0:Nat} {t:Sh} {q:Ptr} {g off:Nat} {qs:Nat->Ptr} (h:Parts a n0 t q g off qs) (hn:n0<=a.heap.size) (hu:Upd S a b) (hS: ∀x,x < n0-> ¬S x):Parts b n0 t q g off qs:=by
 rcases h with h | ⟨hP,hg,hc⟩
 {exact Or.inl h}
 {exact Or.inr ⟨hP,hg,fun i hi=>⟨(hc i hi).1.of (fun k=>hu.cell (by omega) (hS g hg)),Za8 (hc i hi).2 hn hu hS⟩⟩}
theorem Zba {W:World} {n0:Nat} {t:Sh} {q:Ptr} (h:ShAt W n0 q t) {k:Nat} (hk:k < t.names.length):
 ∃g off,q.A=some ⟨g,off,none⟩/\g < n0/\W.cell? ⟨g,off+k,none⟩=some (.string ⟨(t.names[k]'hk).toArray⟩):=by
 rcases h.strs.cell7 with h0 | ⟨g,off,hA,hg,hc⟩
 {omega}
 {exact ⟨g,off,hA,hg,hc k hk⟩}
structure L1 (N:Nat) (a b:Sh) (pa pb:Ptr) (g off:Nat) (w:World) (k:Nat) (W:World):Prop where
 ba:Box5 W N a pa
 bb:Box5 W (N+1) b pb
 mp: ∃S,Mp W (N+2) k S (place g off b.names)/\ ∀n,n∈S ↔ n∈b.names.take k
 up:Upd (fun x=>N<=x/\x < N+3) w W
theorem L1.put {N:Nat} {a b:Sh} {pa pb:Ptr} {g off:Nat} {w:World} {k:Nat} {W:World} (h:L1 N a b pa pb g off w k W) (hd:b.names.Nodup) (hlt:k < b.names.length) (hk:k<=1000) (hf:Fine (b.names[k]'hlt)):
 ∃W',(Instr.mapUpdate 62 (.map (some (N+2))) (.string ⟨(b.names[k]'hlt).toArray⟩) (.pointer (some ⟨g,off+k * 5,none⟩))).run Tryd.prog W= .ok () W'/\L1 N a b pa pb g off w (k+1) W':=by
 obtain ⟨hB1,hB2,⟨S,hM,hS⟩,hU⟩:=h;have hpl:=Zb9 (g:=g) (off:=off) hd hlt;obtain ⟨W',hr,hM',ht⟩:=hM.put hf (by unfold maxLen; omega) (v:= .pointer (some ⟨g,off+k * 5,none⟩)) (z:=_) rfl;have hu2:Upd (fun x=>x=N+2) W W':=(Upd.refl _ W).grown ht.grown (fun k h _=>by cases h; rfl);refine ⟨W',hr,Zal hB1 hu2 (by omega),Zal hB2 hu2 (by omega),⟨_,hM'.like (fun x _=> ?_),fun n=> ?_⟩,hU.trans (hu2.mono (fun x _ h=>by omega))⟩
 {by_cases e:x=b.names[k]'hlt
  {rw[if_pos e,e,hpl]}
  {rw[if_neg e]}}
 {rw[List.take_succ_eq_append_getElem hlt,List.mem_append,List.mem_singleton];by_cases e:b.names[k]'hlt∈S
  {rw[if_pos e,hS];refine ⟨Or.inl,fun h=>h.elim id (fun h=>by rw[h]; exact (hS _).1 e)⟩}
  {rw[if_neg e,List.mem_cons,hS];exact ⟨fun h=>h.symm,fun h=>h.symm⟩}}
section
variable {a b : Sh} (A : Rec a)
include a b A
theorem ZaG: (callsA a b).length=a.names.length:=by unfold callsA; rw[List.length_map,List.length_zip,A.l,Nat.min_self]
theorem Zct {k:Nat} (h:k < a.names.length) (h2:k < a.parts.length): (callsA a b)[k]'(by rw[ZaG A]; exact h)=(a.names[k]'h,some (a.parts[k]'h2),get b (a.names[k]'h)):=by
 unfold callsA; simp
theorem Zcu {k:Nat} (h:k < a.names.length) (h2:k < a.parts.length): ∃rest,calls a b=(callsA a b).take k++(a.names[k]'h,some (a.parts[k]'h2),get b (a.names[k]'h))::rest/\(callsA a b).take k++ [(a.names[k]'h,some (a.parts[k]'h2),get b (a.names[k]'h))]=(callsA a b).take (k+1):=by
 have hl:k < (callsA a b).length:=by rw[ZaG A]; exact h
 have e: (callsA a b).take (k+1)=(callsA a b).take k++ [(a.names[k]'h,some (a.parts[k]'h2),get b (a.names[k]'h))]:=by rw[List.take_succ_eq_append_getElem hl,Zct A h h2]
 refine ⟨(callsA a b).drop (k+1)++callsB a b, ?_,e.symm⟩;unfold calls;rw[show (callsA a b).take k++(a.names[k]'h,some (a.parts[k]'h2),get b (a.names[k]'h))::((callsA a b).drop (k+1)++callsB a b)=((callsA a b).take k++ [(a.names[k]'h,some (a.parts[k]'h2),get b (a.names[k]'h))])++((callsA a b).drop (k+1)++callsB a b) from by simp, <-e, <-List.append_assoc,List.take_append_drop]
end
structure L2 (n0 N:Nat) (a b:Sh) (pa pb:Ptr) (g off:Nat) (w:World) (K:Bool->List Cl->World->Prop) (gone:List (List UInt8)) (done:List Cl) (W:World):Prop where
 ba:Box5 W N a pa
 bb:Box5 W (N+1) b pb
 mp: ∃S,Mp W (N+2) b.names.length S (place g off b.names)/\ ∀n,n∈S ↔ n∈b.names/\n∉gone
 up:Upd (fun x=>n0<=x) w W
 sz:N+3<=W.heap.size
 k:K true done W
section
variable {n0 : Nat} {a b : Sh} {pa pb : Ptr} {g off : Nat} {w : World} {K : Bool -> List Cl -> World -> Prop} {gone : List (List UInt8)} {done : List Cl} {W W' : World} {fn : Nat} {cs : List Value} {step : Cl -> Bool}
theorem L2.upd (h:L2 n0 w.heap.size a b pa pb g off w K gone done W) (hn:n0<=w.heap.size) (hu:Upd (fun x=>n0<=x/\ ¬(w.heap.size<=x/\x < w.heap.size+3)) W W') {done':List Cl} (hk:K true done' W'):L2 n0 w.heap.size a b pa pb g off w K gone done' W':=by
 obtain ⟨S,hM,hS⟩:=h.mp;exact ⟨Zal h.ba hu (by omega),Zal h.bb hu (by omega),⟨S,ZcY hM hu (by omega),hS⟩,h.up.trans (hu.mono (fun x _ hx=>hx.1)),Nat.le_trans h.sz hu.size,hk⟩
theorem L2.drew (h:L2 n0 w.heap.size a b pa pb g off w K gone done W) (hT:Takes n0 w.heap.size a b fn cs step K) (hn:n0<=w.heap.size):L2 n0 w.heap.size a b pa pb g off w K gone done W.drew:=
 h.upd hn (Upd.refl _ W).drew (hT.keep _ _ _ _ h.k (Upd.refl _ W).drew)
theorem L2.del (h:L2 n0 w.heap.size a b pa pb g off w K gone done W) (hT:Takes n0 w.heap.size a b fn cs step K) (hn:n0<=w.heap.size) {n:List UInt8} (hf:Fine n) (ty:TypeId):
 ∃W',(Builtin.delete_ #[62,9] ty #[.map (some (w.heap.size+2)),(.string ⟨n.toArray⟩)]).run Tryd.prog W= .ok (.tuple #[]) W'/\L2 n0 w.heap.size a b pa pb g off w K (gone++ [n]) done W':=by
 obtain ⟨S,hM,hS⟩:=h.mp;obtain ⟨W',hr,hM',ht⟩:=hM.del hf ty;have hu:Upd (fun x=>x=w.heap.size+2) W W':=(Upd.refl _ W).grown ht.grown (fun k h _=>by cases h; rfl);refine ⟨W',hr,Zal h.ba hu (by omega),Zal h.bb hu (by omega),⟨_,hM',fun x=> ?_⟩,h.up.trans (hu.mono (fun x _ hx=>by omega)),Nat.le_trans h.sz hu.size,hT.keep _ _ _ _ h.k (hu.mono (fun x _ hx=>by omega))⟩;rw[List.mem_filter,hS,List.mem_append,List.mem_singleton];simp;exact ⟨fun ⟨⟨h1,h2⟩,h3⟩=>⟨h1,h2,h3⟩,fun ⟨h1,h2,h3⟩=>⟨⟨h1,h2⟩,h3⟩⟩
end
def callsBk (a b:Sh) (i:Nat):List Cl:=(((b.names.zip b.parts).take i).filter (fun x=>(get a x.1).isNone)).map (fun x=>(x.1,none,some x.2))
theorem Zb5 (a b:Sh) (B:Rec b):callsBk a b b.names.length=callsB a b:=by
 unfold callsBk callsB;rw[List.take_of_length_le (by rw[List.length_zip]; omega)]
theorem ZbE {b:Sh} {i:Nat} (h:i < b.names.length) (h2:i < b.parts.length): (b.names.zip b.parts).take (i+1)=(b.names.zip b.parts).take i++ [(b.names[i]'h,b.parts[i]'h2)]:=by
 rw[List.take_succ_eq_append_getElem (by rw[List.length_zip]; omega),List.getElem_zip]
section
variable {a b : Sh} {i : Nat} (h : i < b.names.length) (h2 : i < b.parts.length)
include a b i h h2
theorem ZbR (hn: (get a (b.names[i]'h)).isNone=false):callsBk a b (i+1)=callsBk a b i:=by
 unfold callsBk;rw[ZbE h h2,List.filter_append];simp[hn]
theorem ZbS (hn: (get a (b.names[i]'h)).isNone=true):callsBk a b (i+1)=callsBk a b i++ [(b.names[i]'h,none,some (b.parts[i]'h2))]:=by
 unfold callsBk;rw[ZbE h h2,List.filter_append,List.map_append];simp[hn]
end
theorem Zch (a b:Sh) (B:Rec b) (i:Nat): ∃rest,calls a b=callsA a b++callsBk a b i++rest:=by
 refine ⟨(((b.names.zip b.parts).drop i).filter (fun x=>(get a x.1).isNone)).map (fun x=>(x.1,none,some x.2)), ?_⟩;unfold calls callsB callsBk;rw[List.append_assoc, <-List.map_append, <-List.filter_append,List.take_append_drop]
theorem ZcR {W:World} {n0 g off:Nat} {b:Sh} {pb:Ptr} {qs:Nat->Ptr} (B:Rec b) (hP:Parts W n0 b pb g off qs) {n:List UInt8} {x:Bool} (hx:x=true ↔ n∈b.names):At W n0 (get b n) (if x=true then place g off b.names n else .pointer none):=by
 by_cases e:n∈b.names
 {obtain ⟨i,hi,rfl⟩:=List.getElem_of_mem e;have hi2:i < b.parts.length:=by rw[<-B.l]; exact hi
  rw[if_pos (hx.2 e),Zb9 B.nodup hi];have hg:get b (b.names[i]'hi)=some (b.parts[i]'hi2):=ZcQ B.nodup hi hi2;rw[hg];rcases hP with h | ⟨_,hlt,hc⟩
  {omega}
  {exact ⟨g,off+i * 5,qs i,rfl,hlt,(hc i hi2).1,(hc i hi2).2⟩}}
 {rw[if_neg (fun h=>e (hx.1 h)),B.get_none.2 e];rfl}
theorem Zap (a b:Sh) (pa pb:Ptr) (n0:Nat) (w:World) (A:Rec a) (B:Rec b) (ha:ShAt w n0 pa a) (hb:ShAt w n0 pb b) (hn:n0<=w.heap.size) (la:a.names.length<=1000) (lb:b.names.length<=1000)
 (fn:Nat) (hen: ∀args W,(callFunc fn args).run Tryd.prog W= .ok (.enter fn args) W) (cs:List Value) (step:Cl->Bool) (K:Bool->List Cl->World->Prop)
 (hT:Takes n0 w.heap.size a b fn cs step K) (h0:K true [] w):
 Calls Tryd.prog 33 #[sv a pa,sv b pb,.func (.func fn) #[] cs.toArray] w fun e w'=>e= .returned (.bool ((calls a b).all step))/\
  (∃D,K ((calls a b).all step) D w'/\((calls a b).all step=true->D=calls a b))/\Upd (fun x=>n0<=x) w w':=by
 obtain ⟨Aa,ca,Pa,da⟩:=pa;obtain ⟨Ab,cb,Pb,db⟩:=pb;have hb1:=Z01 w (.cells #[.int .i64 a.kind,.string ⟨a.of_.toArray⟩,.string ⟨a.name.toArray⟩,.slice Aa a.names.length ca,.slice Pa a.parts.length da] 25);obtain ⟨w1,hw1⟩: ∃w1,w1=w.alloc (.cells #[.int .i64 a.kind,.string ⟨a.of_.toArray⟩,.string ⟨a.name.toArray⟩,.slice Aa a.names.length ca,.slice Pa a.parts.length da] 25):=⟨_,rfl⟩;have hb2:=Z01 w1 (.cells #[.int .i64 b.kind,.string ⟨b.of_.toArray⟩,.string ⟨b.name.toArray⟩,.slice Ab b.names.length cb,.slice Pb b.parts.length db] 25);obtain ⟨w2,hw2⟩: ∃w2,w2=w1.alloc (.cells #[.int .i64 b.kind,.string ⟨b.of_.toArray⟩,.string ⟨b.name.toArray⟩,.slice Ab b.names.length cb,.slice Pb b.parts.length db] 25):=⟨_,rfl⟩;have hs1:w1.heap.size=w.heap.size+1:=by rw[hw1]; simp
 have hs2:w2.heap.size=w.heap.size+2:=by rw[hw2]; simp[hs1]
 have hb3:=Z01 w2 (.map #[] 0);obtain ⟨w3,hw3⟩: ∃w3,w3=w2.alloc (.map #[] 0):=⟨_,rfl⟩;have hs3:w3.heap.size=w.heap.size+3:=by rw[hw3]; simp[hs2]
 rw[<-hw1] at hb1;rw[<-hw2] at hb2;rw[<-hw3] at hb3;have hB1:Box5 w1 w.heap.size a ⟨Aa,ca,Pa,da⟩:=by rw[hw1]; exact Z03 w a ⟨Aa,ca,Pa,da⟩
 have hB2:Box5 w2 w1.heap.size b ⟨Ab,cb,Pb,db⟩:=by rw[hw2]; exact Z03 w1 b ⟨Ab,cb,Pb,db⟩
 have hBA:=(hB1.next hb2).next hb3;have hBB:=hB2.next hb3;rw[hs1] at hBB;have hM: ∀m,Mp w3 (w.heap.size+2) 0 [] m:=fun m=>by
  have:=Mp.made w2 m;rw[<-hw3,hs2] at this;exact this
 have hU:Upd (fun x=>w.heap.size<=x/\x < w.heap.size+3) w w3:=Upd.new (Z00 hb1 (Z00 hb2 hb3));have HB1:=Y1 hBA;have HB2:=Y1 hBB;have HM:=Y1 hM;have HU:=Y1 hU;have HA:=Y1 A;have HBB:=Y1 B;have HSA:=Y1 ha;have HSB:=Y1 hb;have HN:=Y1 hn;have HLA:=Y1 la;have HLB:=Y1 lb;have HT:=Y1 hT;have HK:=Y1 h0;have HS:=Y1 hs3;obtain ⟨_,⟨a0,a1,a2,a3,a4⟩,_⟩:=hBA;obtain ⟨_,⟨b0,b1,b2,b3,b4⟩,_⟩:=hBB;simp only[Nat.zero_add] at a0 a1 a2 a3 a4 b0 b1 b2 b3 b4;have hw1':=hw1.symm;have hw2':=hw2.symm;have hw3':=hw3.symm;clear hw1 hw2 hw3 hb1 hb2 hb3 hB1 hB2 hM hU A B ha hb hn la lb hT h0;unfold sv
 try dsimp only
 have hmm:= @run_makeMap Tryd.prog;go_enter Tryd.func33,Tryd.ntmps33
 go_wp2_with fail
 obtain ⟨g,off,qs,hP⟩:=ZaS HSB.out;have HP:=Y1 hP;clear hP
 go_loopw [20] (fun ii wr=> ∃k:Nat,k<=b.names.length/\ii= .int .i64 (k:Int)/\Hid (L1 w.heap.size a b ⟨Aa,ca,Pa,da⟩ ⟨Ab,cb,Pb,db⟩ g off w k wr)) (fun i _=>b.names.length - (intOf i).toNat)
 case atStart=>exact ⟨0,Nat.zero_le _,rfl,Y1 ⟨HB1.out,HB2.out,⟨[],HM.out _,by simp⟩,HU.out⟩⟩
 case round=>
  obtain ⟨k,hk,rfl,HR⟩:=hrel;have hlb:=HLB.out;clear b0 b1 b2 b3 b4 a0 a1 a2 a3 a4;by_cases hlt:k < b.names.length
  {have hi1: (k:Int) < (b.names.length:Int):=by omega
   have hi2: (k:Int) < (b.parts.length:Int):=by rw[<-HBB.out.l]; omega
   have hn0:=HN.out;have hsb:=Za8 HSB.out hn0 HR.out.up (fun x hx hs=>by omega);have hpp:=HP.out.upd hn0 HR.out.up (fun x hx hs=>by omega);obtain ⟨gA,oA,rfl,hgA,hcA⟩:=Zba hsb hlt;rcases hpp with h | ⟨rfl,hgP,_⟩
   {have:=HBB.out.l; omega}
   obtain ⟨W',hr,hL⟩:=HR.out.put HBB.out.nodup hlt (by omega) (HSB.out.small.ns _ (List.getElem_mem _));obtain ⟨nm,hnm⟩: ∃nm,nm=b.names[k]'hlt:=⟨_,rfl⟩;rw[<-hnm] at hcA hr;have HL:=Y1 hL;obtain ⟨_,⟨b0,b1,b2,b3,b4⟩,_⟩:=HR.out.bb;simp only[Nat.zero_add] at b0 b1 b2 b3 b4;clear hL HR hsb hnm hgA hgP hn0;go_wp2
   go_roundw
   case rel=>exact ⟨k+1,by omega,by go_num,HL⟩
   case measure=>simp[intOf]; omega}
  {obtain rfl:k=b.names.length:=by omega
   have hi1: ¬(b.names.length:Int) < (b.names.length:Int):=by omega
   have hL:L2 n0 w.heap.size a b ⟨Aa,ca,Pa,da⟩ ⟨Ab,cb,Pb,db⟩ g off w K (a.names.take 0) ((callsA a b).take 0) wr:=by
    obtain ⟨S,hM,hS⟩:=HR.out.mp;refine ⟨HR.out.ba,HR.out.bb,⟨S,hM,fun n=> ?_⟩,HR.out.up.mono (fun x _ hx=>by have:=HN.out; omega), ?_,HT.out.keep _ _ _ _ HK.out HR.out.up⟩
    {rw[hS,List.take_length]; simp}
    {have:=hM.lt; omega}
   have HL:=Y1 hL;obtain ⟨_,⟨a0,a1,a2,a3,a4⟩,_⟩:=HR.out.ba;simp only[Nat.zero_add] at a0 a1 a2 a3 a4;clear hL HR hlt hk
   go_wp2_with fail
   go_loopw [35] (fun ii wr=> ∃k:Nat,k<=a.names.length/\ii= .int .i64 (k:Int)/\Hid (((callsA a b).take k).all step=true)/\Hid (L2 n0 w.heap.size a b ⟨Aa,ca,Pa,da⟩ ⟨Ab,cb,Pb,db⟩ g off w K (a.names.take k) ((callsA a b).take k) wr)) (fun i _=>a.names.length - (intOf i).toNat)
   case atStart=>exact ⟨0,Nat.zero_le _,rfl,Y1 (by simp),HL⟩
   case round=>
    obtain ⟨k,hk,rfl,HST,HL2⟩:=hrel;clear a0 a1 a2 a3 a4 HL;have hla:=HLA.out;by_cases hlt:k < a.names.length
    {have hi3: (k:Int) < (a.names.length:Int):=by omega
     have hi4: (k:Int) < (a.parts.length:Int):=by rw[<-HA.out.l]; omega
     have hk2:k < a.parts.length:=by omega
     have hn0:=HN.out;have hsa:=Za8 HSA.out hn0 HL2.out.up (fun x hx hs=>by omega);obtain ⟨gq,oq,rs,hpa⟩:=ZaS hsa;have hpb:=HP.out.upd hn0 HL2.out.up (fun x hx hs=>by omega);obtain ⟨gA,oA,rfl,hgA,hcA⟩:=Zba hsa hlt;rcases hpa with h | ⟨rfl,hgP,h5⟩
     {omega}
     obtain ⟨S,hM,hS⟩:=HL2.out.mp;have hfine:Fine (a.names[k]'hlt):=HSA.out.small.ns _ (List.getElem_mem _);have hlook:=(show Mp wr.drew _ _ _ _ from hM.same rfl).look hfine;have hmem: (decide (a.names[k]'hlt∈S))=true ↔ (a.names[k]'hlt)∈b.names:=by
      rw[decide_eq_true_eq,hS];refine ⟨fun h=>h.1,fun h=>⟨h,fun hm=> ?_⟩⟩;obtain ⟨i,hi,e⟩:=List.getElem_of_mem hm;rw[List.getElem_take] at e;rw[List.length_take] at hi;have:=(List.getElem_inj HA.out.nodup).1 e;omega
     have hat:=ZcR HBB.out hpb hmem;obtain ⟨rest,hcut,hnext⟩:=Zcu (b:=b) HA.out hlt hk2;obtain ⟨nm,hnm⟩: ∃nm,nm=a.names[k]'hlt:=⟨_,rfl⟩;obtain ⟨xa,hxa⟩: ∃xa,xa=a.parts[k]'hk2:=⟨_,rfl⟩;have hax:At wr n0 (some xa) (.pointer (some ⟨gq,oq+k * 5,none⟩)):=⟨gq,oq+k * 5,rs k,rfl,hgP,by rw[hxa]; exact (h5 k hk2).1,by rw[hxa]; exact (h5 k hk2).2⟩;rw[<-hnm] at hcA hlook hmem hat hcut hnext hfine;rw[<-hxa] at hcut hnext;obtain ⟨y,hy⟩: ∃y,y=(if nm∈S then place g off b.names nm else .pointer none):=⟨_,rfl⟩;rw[<-hy] at hlook;have hat':At wr n0 (get b nm) y:=by
      rw[hy];by_cases e:nm∈S
      {simpa[e] using hat}
      {simpa[e] using hat}
     have hL3:=HL2.out.drew HT.out hn0;have hcall:=HT.out.call _ _ _ wr.drew _ _ hcut hL3.sz hL3.k (At.upd hax (by have:=HL2.out.up.size; omega) (Upd.refl (fun _=>False) wr).drew (fun _ _ h=>h)) (At.upd hat' (by have:=HL2.out.up.size; omega) (Upd.refl (fun _=>False) wr).drew (fun _ _ h=>h));have HCALL:=Y1 hcall;have HFI:=Y1 hfine;have HNX:=Y1 hnext;have HL3:=Y1 hL3;have HCUT:=Y1 hcut;obtain ⟨_,⟨a0,a1,a2,a3,a4⟩,_⟩:=HL2.out.ba;simp only[Nat.zero_add] at a0 a1 a2 a3 a4;have HNM:=Y1 hnm;clear hcall hfine hnext hL3 hcut hsa hpb hM hS hmem hat hat' hax hnm hxa hy h5 hgA hgP HL2
     go_wp2_with fail
     go_still_tail 9,(by kernel_rfl)
     change wpList _ _ _ _ _ wr.drew
     go_wp2_with fail
     refine HCALL.out.mono ?_;rintro e W2 ⟨rfl,hk2',hu2⟩;have HK2:=Y1 hk2';have HU2:=Y1 hu2;clear hk2' hu2 HCALL a0 a1 a2 a3 a4;cases hst:step (nm,some xa,get b nm) with
     | false=>
      have HALL:Hid ((calls a b).all step=false):=Y1 (by rw[HCUT.out,List.all_append,List.all_cons,hst]; simp);rw[hst] at HK2;clear hst;go_wp2;go_ret;rw[HALL.out];exact ⟨rfl,⟨_,HK2.out,nofun⟩,HL3.out.up.trans (HU2.out.mono (fun x _ h=>h.1))⟩
     | true=>
      rw[hst] at HK2;have HL4:=Y1 (HL3.out.upd HN.out HU2.out HK2.out);have HST2:Hid (((callsA a b).take (k+1)).all step=true):=Y1 (by rw[<-HNX.out,List.all_append,HST.out]; simp[hst]);rw[HNX.out] at HL4;clear hst HK2 HU2 HCUT;obtain ⟨W5,hr,hL5⟩:=HL4.out.del HT.out HN.out HFI.out 0;have HL5:=Y1 hL5;clear hL5;go_wp2
      go_roundw
      case rel=>exact ⟨k+1,by omega,by go_num,HST2,by rw[show a.names.take (k+1)=a.names.take k++ [nm] from by rw[List.take_succ_eq_append_getElem hlt,HNM.out]]; exact HL5⟩
      case measure=>simp[intOf]; omega}
    {obtain rfl:k=a.names.length:=by omega
     have hi3: ¬(a.names.length:Int) < (a.names.length:Int):=by omega
     have e0: (callsA a b).take a.names.length=callsA a b++callsBk a b 0:=by
      rw[<-ZaG (b:=b) HA.out,List.take_length]; simp[callsBk]
     have hst0:=HST.out;have hl0:=HL2.out;rw[e0] at hst0 hl0;rw[List.take_length] at hl0;have HST0:=Y1 hst0;have HL0:=Y1 hl0;obtain ⟨_,⟨b0,b1,b2,b3,b4⟩,_⟩:=HL2.out.bb;simp only[Nat.zero_add] at b0 b1 b2 b3 b4;clear hst0 hl0 HST HL2 hlt hk e0
     go_wp2_with fail
     go_loopw [57] (fun ii wr=> ∃k:Nat,k<=b.names.length/\ii= .int .i64 (k:Int)/\Hid ((callsA a b++callsBk a b k).all step=true)/\Hid (L2 n0 w.heap.size a b ⟨Aa,ca,Pa,da⟩ ⟨Ab,cb,Pb,db⟩ g off w K a.names (callsA a b++callsBk a b k) wr)) (fun i _=>b.names.length - (intOf i).toNat)
     case atStart=>exact ⟨0,Nat.zero_le _,rfl,HST0,HL0⟩
     case round=>
      obtain ⟨k,hk,rfl,HST,HL2⟩:=hrel;clear b0 b1 b2 b3 b4 HL0 HST0;by_cases hlt:k < b.names.length
      {have hi5: (k:Int) < (b.names.length:Int):=by omega
       have hk2:k < b.parts.length:=by rw[<-HBB.out.l]; exact hlt
       have hn0:=HN.out;have hsb:=Za8 HSB.out hn0 HL2.out.up (fun x hx hs=>by omega);have hpb:=HP.out.upd hn0 HL2.out.up (fun x hx hs=>by omega);obtain ⟨gA,oA,rfl,hgA,hcA⟩:=Zba hsb hlt;obtain ⟨S,hM,hS⟩:=HL2.out.mp;have hfine:Fine (b.names[k]'hlt):=HSB.out.small.ns _ (List.getElem_mem _);have hlook:=hM.look2 hfine;have hmem:b.names[k]'hlt∈S ↔ get a (b.names[k]'hlt)=none:=by
        rw[hS,HA.out.get_none];exact ⟨fun h=>h.2,fun h=>⟨List.getElem_mem _,h⟩⟩
       obtain ⟨rest,hcut⟩:=Zch a b HBB.out (k+1);by_cases hin:b.names[k]'hlt∈S
       {have hnone:=hmem.1 hin;have hnew:=ZbS hlt hk2 (by rw[hnone]; rfl);rw[hnew] at hcut;rw[if_pos hin,decide_eq_true hin,Zb9 HBB.out.nodup hlt] at hlook;obtain ⟨nm,hnm⟩: ∃nm,nm=b.names[k]'hlt:=⟨_,rfl⟩;obtain ⟨xb,hxb⟩: ∃xb,xb=b.parts[k]'hk2:=⟨_,rfl⟩;have hat:At wr n0 (some xb) (.pointer (some ⟨g,off+k * 5,none⟩)):=by
         rcases hpb with h | ⟨_,hgP,h5⟩
         {omega}
         {exact ⟨g,off+k * 5,qs k,rfl,hgP,by rw[hxb]; exact (h5 k hk2).1,by rw[hxb]; exact (h5 k hk2).2⟩}
        rw[<-hnm] at hcA hlook hnew hcut;rw[<-hxb] at hnew hcut;have hL3:=HL2.out;have hcut':calls a b=(callsA a b++callsBk a b k)++(nm,none,some xb)::rest:=by rw[hcut]; simp
        have hcall:=HT.out.call _ _ _ wr (.pointer none) _ hcut' hL3.sz hL3.k rfl hat;have HCALL:=Y1 hcall;have HNX:=Y1 hnew;have HL3:=Y1 hL3;have HCUT:=Y1 hcut';clear hcall hnew hL3 hcut hcut' hsb hpb hM hS hmem hat hnm hxb hgA HL2 hin hnone hfine
        go_wp2_with fail
        refine HCALL.out.mono ?_;rintro e W2 ⟨rfl,hk2',hu2⟩;have HK2:=Y1 hk2';have HU2:=Y1 hu2;clear hk2' hu2 HCALL;cases hst:step (nm,none,some xb) with
        | false=>
         have HALL:Hid ((calls a b).all step=false):=Y1 (by rw[HCUT.out,List.all_append,List.all_cons,hst]; simp);rw[hst] at HK2;clear hst;go_wp2;go_ret;rw[HALL.out];exact ⟨rfl,⟨_,HK2.out,nofun⟩,HL3.out.up.trans (HU2.out.mono (fun x _ h=>h.1))⟩
        | true=>
         rw[hst] at HK2;have hl4:=HL3.out.upd HN.out HU2.out HK2.out;rw[List.append_assoc, <-HNX.out] at hl4;have HL4:=Y1 hl4;have HST2:Hid ((callsA a b++callsBk a b (k+1)).all step=true):=Y1 (by rw[HNX.out, <-List.append_assoc,List.all_append,HST.out]; simp[hst]);clear hst HK2 HU2 HCUT hl4;go_wp2
         go_roundw
         case rel=>exact ⟨k+1,by omega,by go_num,HST2,HL4⟩
         case measure=>simp[intOf]; omega}
       {have hold:=ZbR (a:=a) hlt hk2 (by
         cases hg:get a (b.names[k]'hlt) with
         | none=>exact absurd (hmem.2 hg) hin
         | some _=>rfl)
        rw[if_neg hin,decide_eq_false hin] at hlook;obtain ⟨nm,hnm⟩: ∃nm,nm=b.names[k]'hlt:=⟨_,rfl⟩;rw[<-hnm] at hcA hlook;have HL3:Hid (L2 n0 w.heap.size a b ⟨Aa,ca,Pa,da⟩ ⟨some ⟨gA,oA,none⟩,cb,Pb,db⟩ g off w K a.names (callsA a b++callsBk a b (k+1)) wr):=Y1 (by rw[hold]; exact HL2.out);have HST2:Hid ((callsA a b++callsBk a b (k+1)).all step=true):=Y1 (by rw[hold]; exact HST.out);clear hold hsb hpb hM hS hmem hnm hgA HL2 hin hcut hfine;go_wp2
        go_roundw
        case rel=>exact ⟨k+1,by omega,by go_num,HST2,HL3⟩
        case measure=>simp[intOf]; omega}}
      {obtain rfl:k=b.names.length:=by omega
       have hi5: ¬(b.names.length:Int) < (b.names.length:Int):=by omega
       have hall: (calls a b).all step=true:=by
        have:=HST.out;rw[Zb5 a b HBB.out] at this;exact this
       have hl:=HL2.out;rw[Zb5 a b HBB.out] at hl;have HALL:=Y1 hall;have HL:=Y1 hl;clear hall hl HL2 HST;go_wp2;go_ret;rw[HALL.out];exact ⟨rfl,⟨_,HL.out.k,fun _=>rfl⟩,HL.out.up⟩}}}
end SubM
end Go.Proofs.YthajhofgjhfjeaaDoor
namespace Go.Proofs.YthajhofgjhfjeaaDoor
open Go.RowKit Shp Sub
namespace SubM
def rowB (A:Option Addr):Option Nat:=A.map (·.block)
theorem Zau (A:Option Addr) (n c:Nat):Value.ownBlock (.slice A n c)=rowB A:=by cases A <;> rfl
section
variable {W : World} {A : Option Addr} {m c B e s : Nat} {xs : List Value} (h : W.ownsRow B e s (.slice A m c) m xs)
include W A m c B e s xs h
theorem Za0: ∀b,rowB A=some b->B<=b/\b < W.heap.size:=fun b hb=>h.lt b (by rw[Zau]; exact hb)
theorem Zbg: (A=none/\m=0/\c=0)\/ ∃g,A=some ⟨g,0,none⟩/\m<=c:=by
 rcases h.2 with ⟨h1,h2⟩ | ⟨g,cap,cur,h1,_,_,h2,_⟩
 {simp only[Value.slice.injEq] at h1; exact Or.inl ⟨h1.1,h2,h1.2.2⟩}
 {simp only[Value.slice.injEq] at h1;obtain ⟨h3,_,rfl⟩:=h1;exact Or.inr ⟨g,h3,h2⟩}
end
theorem Za6 {S:Nat->Prop} {W W':World} {A:Option Addr} {m c B e s n:Nat} {xs:List Value} (h:W.ownsRow B e s (.slice A m c) n xs) (hu:Upd S W W') (hS: ∀b,rowB A=some b-> ¬S b):W'.ownsRow B e s (.slice A m c) n xs:=by
 obtain ⟨h1,h2⟩:=h;refine ⟨h1, ?_⟩;rcases h2 with h2 | ⟨g,cap,cur,hv,hb,hg,hc⟩
 {exact Or.inl h2}
 {refine Or.inr ⟨g,cap,cur,hv,hb, ?_,hc⟩;have hgl:g < W.heap.size:=(Array.getElem?_eq_some_iff.1 hg).1;rw[hu.block g hgl (hS g (by simp only[Value.slice.injEq] at hv; rw[hv.1]; rfl))];exact hg}
theorem ZbF {W:World} {g m c B e s n:Nat} {xs:List Value} (h:W.ownsRow B e s (.slice (some ⟨g,0,none⟩) m c) n xs) {j:Nat} {u:Value} (hu:xs[j]? =some u):W.cell? ⟨g,j,none⟩=some u:=by
 have:=h.cells (g:=g) rfl j u hu
 rwa [Z1z,Nat.zero_add] at this
abbrev El:=Sh×Ptr
def Za9 (x:El):List Value:= [.int .i64 x.1.kind,.string ⟨x.1.of_.toArray⟩,.string ⟨x.1.name.toArray⟩,.slice x.2.A x.1.names.length x.2.c,.slice x.2.P x.1.parts.length x.2.d]
def cellsE (l:List El):List Value:=l.flatMap Za9
def namesE (l:List (List UInt8)):List Value:=l.map fun n=> .string ⟨n.toArray⟩
theorem Zaf (l m:List El):cellsE (l++m)=cellsE l++cellsE m:=by simp[cellsE]
theorem Zan (x:El):cellsE [x]=Za9 x:=by simp[cellsE]
theorem ZaH (l:List El): (cellsE l).length=l.length * 5:=by
 induction l with
 | nil=>rfl
 | cons a l ih=>rw[show a::l= [a]++l from rfl,Zaf,List.length_append,ih,Zan]; simp[Za9]; omega
theorem ZaX (l m:List (List UInt8)):namesE (l++m)=namesE l++namesE m:=by simp[namesE]
theorem Zbh (x:El): ∀u∈Za9 x,u.oneCell'=true:=by
 intro u hu;simp only[Za9,List.mem_cons,List.not_mem_nil,or_false] at hu;rcases hu with rfl | rfl | rfl | rfl | rfl <;> rfl
theorem Zcv {l:List El} {i c:Nat} (hi:i < l.length) (hc:c < 5): (cellsE l)[i * 5+c]? =(Za9 (l[i]'hi))[c]? :=by
 have h1:l=l.take i++([l[i]'hi]++l.drop (i+1)):=by rw[List.singleton_append,List.getElem_cons_drop,List.take_append_drop]
 have h2: (cellsE (l.take i)).length=i * 5:=by rw[ZaH,List.length_take]; omega
 have h3: (Za9 (l[i]'hi)).length=5:=rfl
 conv=>lhs; rw[h1]
 rw[Zaf,Zaf,Zan,List.getElem?_append_right (by omega),h2,Nat.add_sub_cancel_left,List.getElem?_append_left (by omega)]
def Kept (S:Nat->Prop) (W:World) (x:El):Prop:= ∀W',W.heap.size<=W'.heap.size->(∀b,b < W.heap.size->S b->W'.heap[b]? =W.heap[b]?)->ShAt W' W'.heap.size x.2 x.1
section
variable {S T : Nat -> Prop} {W W' : World} {x : El}
section
variable (h : Kept S W x)
include h
theorem Kept.here:ShAt W W.heap.size x.2 x.1:=h W (Nat.le_refl _) (fun _ _ _=>rfl)
theorem Kept.upd (hu:Upd T W W') (hd: ∀b,b < W.heap.size->S b-> ¬T b):Kept S W' x:=fun W2 h1 h2=>
 h W2 (Nat.le_trans hu.size h1) (fun b hb hs=>(h2 b (Nat.lt_of_lt_of_le hb hu.size) hs).trans (hu.block b hb (hd b hb hs)))
theorem Kept.more (hs: ∀b,b < W.heap.size->S b->T b):Kept T W x:=fun W2 h1 h2=>h W2 h1 (fun b hb hS=>h2 b hb (hs b hb hS))
end
theorem Kept.old {n0:Nat} (h:ShAt W n0 x.2 x.1) (hn:n0<=W.heap.size) (hS: ∀b,b < n0->S b):Kept S W x:=fun W2 h1 h2=>
 h.of (Nat.le_trans hn h1) (fun g k hg=>World.cell?_of_block (w:=W) (h2 g (by omega) (hS g hg)))
end
structure Mk (w0:World) (gm hi:Nat) (k:Int) (o nm:List UInt8) (nl:List (List UInt8)) (l:List El) (AN:Option Addr) (cN:Nat) (AP:Option Addr) (cP:Nat) (W:World):Prop where
 up:Below w0.heap.size w0 W
 lo:w0.heap.size<=gm
 gh:gm < hi
 hw:hi<=W.heap.size
 c0:W.cell? ⟨gm,0,none⟩=some (.int .i64 k)
 c1:W.cell? ⟨gm,1,none⟩=some (.string ⟨o.toArray⟩)
 c2:W.cell? ⟨gm,2,none⟩=some (.string ⟨nm.toArray⟩)
 c3:W.cell? ⟨gm,3,none⟩=some (.slice AN nl.length cN)
 c4:W.cell? ⟨gm,4,none⟩=some (.slice AP l.length cP)
 fz: ∀j,W.frozen? ⟨gm,j,none⟩=false
 rN:W.ownsRow hi 9 1 (.slice AN nl.length cN) nl.length (namesE nl)
 rP:W.ownsRow hi 25 5 (.slice AP l.length cP) l.length (cellsE l)
 ne:rowB AN=none\/rowB AN≠rowB AP
def Free (n0 hi:Nat) (AN AP:Option Addr) (b:Nat):Prop:=b < n0\/(hi<=b/\rowB AN≠some b/\rowB AP≠some b)
section
variable {w0 W W' : World} {gm hi : Nat} {k : Int} {o nm : List UInt8} {nl : List (List UInt8)} {l : List El} {AN AP : Option Addr} {cN cP : Nat}
theorem Mk.upd {S:Nat->Prop} (h:Mk w0 gm hi k o nm nl l AN cN AP cP W) (hu:Upd S W W') (h0: ∀b,b < w0.heap.size-> ¬S b) (h1: ¬S gm) (h2: ∀b,rowB AN=some b-> ¬S b) (h3: ∀b,rowB AP=some b-> ¬S b):
 Mk w0 gm hi k o nm nl l AN cN AP cP W':=by
 have hg:gm < W.heap.size:=Nat.lt_of_lt_of_le h.gh h.hw;refine ⟨h.up.trans (hu.below h.up.size (fun b hb=> ?_)),h.lo,h.gh,Nat.le_trans h.hw hu.size,(hu.cell hg h1).trans h.c0,(hu.cell hg h1).trans h.c1,(hu.cell hg h1).trans h.c2,(hu.cell hg h1).trans h.c3,(hu.cell hg h1).trans h.c4,
  fun j=>(hu.frozen hg h1).trans (h.fz j),Za6 h.rN hu h2,Za6 h.rP hu h3,h.ne⟩
 exact Nat.le_of_not_lt (fun hlt=>h0 b hlt hb)
theorem Mk.new (h:Mk w0 gm hi k o nm nl l AN cN AP cP W) (hb:Below W.heap.size W W'):Mk w0 gm hi k o nm nl l AN cN AP cP W':=
 h.upd (S:=fun _=>False) (Upd.new hb) (fun _ _ h=>h) (fun h=>h) (fun _ _ h=>h) (fun _ _ h=>h)
end
theorem Mk.at_ {w0 W:World} {gm hi n0:Nat} {k:Int} {o nm:List UInt8} {nl:List (List UInt8)} {l:List El} {AN AP:Option Addr} {cN cP:Nat} (h:Mk w0 gm hi k o nm nl l AN cN AP cP W)
 (hk: ∀x∈l,Kept (Free n0 hi AN AP) W x) (ho:o.length<=9223372036854775807) (hnm:nm.length<=9223372036854775807) (hnl: ∀x∈nl,x.length<=9223372036854775807) (hl:nl.length<=1000000) (hm:l.length<=1000000):
 Kept (fun b=>b < n0\/hi<=b) W (⟨k,o,nm,nl,l.map Prod.fst⟩,⟨AN,cN,AP,cP⟩):=by
 intro W' hz hs;have hN:=Zbg h.rN;have hP:=Zbg h.rP;have kept: ∀x∈l,ShAt W' W'.heap.size x.2 x.1:=fun x hx=>hk x hx W' hz (fun b hb hf=>hs b hb (by
  rcases hf with h | h
  {exact Or.inl h}
  · exact Or.inr h.1))
 refine .mk _ _ ((rowB AP).getD 0) 0 (fun i=>(l[i]?.map Prod.snd).getD ⟨none,0,none,0⟩) ⟨ho,hnm,hnl,by show nl.length<=_; omega,by show (l.map Prod.fst).length<=_; rw[List.length_map]; omega, ?_, ?_, ?_, ?_⟩ ?_ ?_ ?_ ?_
 {show nl.length<=cN;rcases hN with ⟨_,h1,h2⟩ | ⟨_,_,h1⟩ <;> omega}
 {show (l.map Prod.fst).length<=cP;rw[List.length_map];rcases hP with ⟨_,h1,h2⟩ | ⟨_,_,h1⟩ <;> omega}
 {intro (e:AN=none);show cN=0;rcases hN with ⟨_,h1,h2⟩ | ⟨g,h1,_⟩
  {exact h2}
  {rw[e] at h1; cases h1}}
 {intro (e:AP=none);show cP=0;rcases hP with ⟨_,h1,h2⟩ | ⟨g,h1,_⟩
  {exact h2}
  {rw[e] at h1; cases h1}}
 {show Strs W' W'.heap.size AN (strs nl);rcases hN with ⟨_,h1,_⟩ | ⟨g,rfl,_⟩
  {exact Or.inl (by unfold strs; simp[h1])}
  {have hg:=Za0 h.rN g rfl;refine Or.inr ⟨g,0,rfl,Nat.lt_of_lt_of_le hg.2 hz,fun i hi=> ?_⟩;have hi':i < nl.length:=by simpa[strs] using hi
   have e1:W'.cell? ⟨g,i,none⟩=W.cell? ⟨g,i,none⟩:=World.cell?_of_block (w:=W) (hs g hg.2 (Or.inr hg.1));rw[Nat.zero_add,e1,ZbF h.rN (u:= .string ⟨(nl[i]'hi').toArray⟩) (by unfold namesE; rw[List.getElem?_map,List.getElem?_eq_getElem hi']; rfl)];simp[strs]}}
 {show (l.map Prod.fst).length=0\/_;rcases hP with ⟨_,h1,_⟩ | ⟨g,rfl,_⟩
  {exact Or.inl (by rw[List.length_map]; exact h1)}
  {exact Or.inr ⟨rfl,Nat.lt_of_lt_of_le (Za0 h.rP g rfl).2 hz⟩}}
 {intro i hi;have hi':i < l.length:=by simpa using hi
  rcases hP with ⟨_,h1,_⟩ | ⟨g,rfl,_⟩
  {omega}
  {have hg:=Za0 h.rP g rfl;have e1: ∀j,W'.cell? ⟨g,j,none⟩=W.cell? ⟨g,j,none⟩:=fun j=>World.cell?_of_block (w:=W) (hs g hg.2 (Or.inr hg.1));have e2: ∀c v,c < 5->(Za9 (l[i]'hi'))[c]? =some v->W'.cell? ⟨g,0+i * 5+c,none⟩=some v:=fun c v hc hv=>by
    rw[Nat.zero_add,e1];exact ZbF h.rP (by rw[Zcv hi' hc]; exact hv)
   simp only[List.getElem_map];rw[List.getElem?_eq_getElem hi'];exact ⟨e2 0 _ (by omega) rfl,e2 1 _ (by omega) rfl,e2 2 _ (by omega) rfl,e2 3 _ (by omega) rfl,e2 4 _ (by omega) rfl⟩}}
 {intro i hi;have hi':i < l.length:=by simpa using hi
  simp only[List.getElem_map];rw[List.getElem?_eq_getElem hi'];exact kept _ (List.getElem_mem _)}
end SubM
end Go.Proofs.YthajhofgjhfjeaaDoor
namespace Go.Proofs.YthajhofgjhfjeaaDoor
open Go.RowKit
def upd (u:Nat->Value) (i:Nat) (v:Value):Nat->Value:=fun j=>cond (Nat.beq j i) v (u j)
theorem Z2p (u:Nat->Value) (i:Nat) (v:Value):upd u i v i=v:=by simp[upd]
theorem Z15 (u:Nat->Value) {i j:Nat} (v:Value) (h:j≠i):upd u i v j=u j:=by
 have:Nat.beq j i=false:=by cases hb:Nat.beq j i <;> first | rfl | exact absurd (Nat.eq_of_beq_eq_true hb) h
 simp[upd,this]
structure Want where
 ok:Value->World->Prop
 keep: ∀(v:Value) (w w':World),Below w.heap.size w w'->ok v w->ok v w'
theorem Want.mono {T:Want} {v:Value} {w w':World} (hb:Below w.heap.size w w') (h:T.ok v w):T.ok v w':=T.keep v w w' hb h
def Want.val (c:Value):Want:=⟨fun v _=>v=c,fun _ _ _ _ h=>h⟩
def Want.any:Want:=⟨fun _ _=>True,fun _ _ _ _ h=>h⟩
section
variable {P : Program} {ops : Array Oper} {Q : Exit -> Act -> World -> Prop}
def waits (o:Oper) (j:Nat):Bool:=o.after.any fun e=>Region.binds .any e&&e.on==j
def StepAt (P:Program) (ops:Array Oper) (Q:Exit->Act->World->Prop) (A: (Nat->Value)->Act) (T:Nat->Want) (J:World->Prop) (i:Nat):Prop:=
 ∀o,ops[i]? =some o-> ∀(u:Nat->Value) (W:World),J W->(∀j,waits o j=true->(T j).ok (u j) W)->
  wpOp P ops Q i (fun a' w'=> ∃v,a'=A (upd u i v)/\(T i).ok v w'/\J w'/\Below W.heap.size W w') (A u) W
def StepsAt (P:Program) (ops:Array Oper) (Q:Exit->Act->World->Prop) (A: (Nat->Value)->Act) (T:Nat->Want) (J:World->Prop) (rs:List Nat):Prop:=
 ∀i∈rs,StepAt P ops Q A T J i
section
variable {A : (Nat -> Value) -> Act} {T : Nat -> Want} {J : World -> Prop}
include A T J
theorem StepsAt.nil:StepsAt P ops Q A T J []:=fun _ h=>by cases h
theorem StepsAt.cons {i:Nat} {rs:List Nat} (o:Oper) (ho:ops[i]? =some o)
 (h: ∀(u:Nat->Value) (W:World) (K':Act->World->Prop),J W->(∀j,waits o j=true->(T j).ok (u j) W)->
  Shut (∀v w',(T i).ok v w'->J w'->Below W.heap.size W w'->K' (A (upd u i v)) w')->
  if Region.wanted o (yielded ops (A u).tmps)=true then Oper.wp P o (A u) W K' Q else K' ((A u).put o.dst undef) W)
 (hs:StepsAt P ops Q A T J rs):StepsAt P ops Q A T J (i::rs):=fun j hj=>by
 rcases List.mem_cons.1 hj with rfl | hj
 {intro o' ho' u W hJ hd;rw[ho] at ho';obtain rfl:o=o':=Option.some.inj ho';exact wpOp_step ho (fun K' hK=>h u W K' hJ hd (fun v w' h1 h2 h3=>hK _ _ ⟨v,rfl,h1,h2,h3⟩))}
 {exact hs j hj}
end
def lowAfter (ops:Array Oper):Bool:=(List.range ops.size).all fun i=>((ops[i]?).map fun o=>o.after.all fun e=> !Region.binds .any e||decide (e.on < i)).getD true
theorem Z4x (h:lowAfter ops=true) {i:Nat} {o:Oper} (ho:ops[i]? =some o): ∀e∈o.after,Region.binds .any e=true->e.on < i:=by
 intro e he hb;have hi:i < ops.size:=by
  rcases Nat.lt_or_ge i ops.size with h | h
  {exact h}
  {rw[Array.getElem?_eq_none h] at ho; cases ho}
 have h1:=List.all_eq_true.1 h i (List.mem_range.2 hi);rw[ho] at h1;simp only[Option.map_some,Option.getD_some] at h1;have:=Array.all_eq_true_iff_forall_mem.1 h1 e he;rw[hb] at this;simpa using this
theorem Z1A (hl:lowAfter ops=true) (listed:Array Bool) (hr:Region.ready .any ops listed= []) (hsz:listed.size=ops.size):
 ∀n j,j < n->j < ops.size->listed.getD j false=true:=by
 intro n;induction n with
 | zero=>intro j hj; omega
 | succ n ih=>
  intro j hj hjs;by_cases hjn:j < n
  {exact ih j hjn hjs}
  {cases hlj:listed.getD j false with
   | true=>rfl
   | false=>
    have hmem:j∈Region.ready .any ops listed:=by
     refine mem_ready.2 ⟨?_,ops[j]'hjs,by simp[hjs],fun e he hb=> ?_⟩
     {have:j < listed.size:=by omega
      simp[this] at hlj ⊢;exact hlj}
     {have hlt:=Z4x hl (show ops[j]? =some (ops[j]'hjs) by simp[hjs]) e he hb;exact ih e.on (by omega) (by omega)}
    rw[hr] at hmem;cases hmem}
theorem Z4d (l:List Bool): ∀(i:Nat),l[i]? =some false->(l.set i true).count false+1=l.count false:=by
 induction l with
 | nil=>intro i h; simp at h
 | cons b l ih=>
  intro i h;cases i with
  | zero=>
   simp at h;subst h;simp
  | succ i=>
   simp at h;have:=ih i h;cases b <;> simp at this ⊢ <;> omega
theorem Z3F (l:List Bool) (h:l.count false=0) (j:Nat):l[j]? ≠some false:=by
 intro hj;have:=List.count_pos_iff.2 (List.mem_of_getElem? hj);omega
theorem Z7Q (A: (Nat->Value)->Act) (T:Nat->Want) (J:World->Prop) (hl:lowAfter ops=true)
 (hstep:StepsAt P ops Q A T J (List.range ops.size))
 (hdone: ∀u W,J W->(∀j,j < ops.size->(T j).ok (u j) W)->Q .normal (A u) W):
 ∀(fuel:Nat) (listed:Array Bool) (u:Nat->Value) (W:World),listed.size=ops.size->listed.toList.count false<=fuel->J W->
  (∀j,listed.getD j false=true->(T j).ok (u j) W)->wpAny P .any ops Q fuel listed (A u) W:=by
 intro fuel;induction fuel with
 | zero=>
  intro listed u W hsz hc hJ hd;have hr:Region.ready .any ops listed= []:=by
   refine List.eq_nil_iff_forall_not_mem.2 fun j hj=> ?_;obtain ⟨h1,o,ho,_⟩:=mem_ready.1 hj;have hjs:j < listed.size:=by
    rw[hsz];rcases Nat.lt_or_ge j ops.size with h | h
    {exact h}
    {rw[Array.getElem?_eq_none h] at ho; cases ho}
   refine Z3F listed.toList (by omega) j ?_;simp[hjs] at h1 ⊢;exact h1
  exact ⟨hr,hdone u W hJ fun j hj=>hd j (Z1A hl listed hr hsz (j+1) j (by omega) hj)⟩
 | succ fuel ih=>
  intro listed u W hsz hc hJ hd;refine ⟨fun hr=>hdone u W hJ fun j hj=>hd j (Z1A hl listed hr hsz (j+1) j (by omega) hj),fun i hi=> ?_⟩;obtain ⟨h1,o,ho,hall⟩:=mem_ready.1 hi;have his:i < ops.size:=by
   rcases Nat.lt_or_ge i ops.size with h | h
   {exact h}
   {rw[Array.getElem?_eq_none h] at ho; cases ho}
  have hil:i < listed.size:=by omega
  have hdep: ∀j,waits o j=true->(T j).ok (u j) W:=fun j hj=>by
   obtain ⟨e,he,hb⟩:=Array.any_eq_true'.1 hj;simp only[Bool.and_eq_true,beq_iff_eq] at hb;obtain ⟨hb,rfl⟩:=hb;exact hd e.on (hall e he hb)
  refine wpOp_mono (fun a' w' h=> ?_) (hstep i (List.mem_range.2 his) o ho u W hJ hdep);obtain ⟨v,rfl,hok,hJ',hb⟩:=h;refine ih _ _ _ (by simpa using hsz) ?_ hJ' fun j hj=> ?_
  {have h2:listed.toList[i]? =some false:=by simp[hil] at h1 ⊢; exact h1
   have:=Z4d listed.toList i h2;rw[Array.toList_setIfInBounds];omega}
  {by_cases hji:j=i
   {subst hji;rw[Z2p];exact hok}
   {rw[Z15 u v hji];refine Want.mono hb (hd j ?_);rw[getD_set_ne false (Ne.symm hji)] at hj;exact hj}}
theorem Z2Q {id:Nat} {w:World} {rs:List Nat} (A: (Nat->Value)->Act) (u0:Nat->Value) (T:Nat->Want) (J:World->Prop) (hm:P.follows .mixedOrders=true) (hl:lowAfter ops=true)
 (hrs:List.range ops.size=rs) (hJ:J w.drew) (hstep:StepsAt P ops Q A T J rs)
 (hdone: ∀u W,J W->(∀j,j < ops.size->(T j).ok (u j) W)->Q .normal (A u) W):
 (Code.region id ops true).wp P Q (A u0) w:=by
 subst hrs;refine wp_region_any hm (Z7Q A T J hl hstep hdone _ _ _ _ (by simp) ?_ hJ fun j hj=> ?_)
 {exact Nat.le_trans List.count_le_length (by simp)}
 {exfalso;rcases Nat.lt_or_ge j ops.size with h | h
  {simp[h] at hj}
  {simp[h] at hj}}
section
variable {o : Oper} {a : Act}
include o a
theorem Z02 {W W':World} {K':Act->World->Prop} {v:Value} {E:Prop} (hw:Region.wanted o (yielded ops a.tmps)=true)
 (hrun: (execOp a.eval o).run P W= .ok (.value v) W') (hK:K' (a.put o.dst v) W'):
 if Region.wanted o (yielded ops a.tmps)=true then Oper.wp P o a W K' Q else E:=by
 rw[if_pos hw,Oper.wp,hrun,Oper.upon_value];exact hK
theorem Y0 {W:World} {K':Act->World->Prop} {F:Value->Act} {T:Nat->Want} {J:World->Prop} {i:Nat} {E:Prop} {c:Value}
 (hK:Shut (∀v w',(T i).ok v w'->J w'->Below W.heap.size W w'->K' (F v) w')) (hJ:J W) (hT:T i=Want.val c) (hA:a.put o.dst c=F c)
 (hw:Region.wanted o (yielded ops a.tmps)=true) (hr: (execOp a.eval o).run P W= .ok (.value c) W):
 if Region.wanted o (yielded ops a.tmps)=true then Oper.wp P o a W K' Q else E:=
 Z02 (v:=c) (W':=W) hw hr (by rw[hA]; exact hK.out c W (by rw[hT]; rfl) hJ (Below.refl _ _))
theorem Z0q {W W':World} {K':Act->World->Prop} {f:FuncId} {args:Array Value} {E:Prop} (hw:Region.wanted o (yielded ops a.tmps)=true)
 (hrun: (execOp a.eval o).run P W= .ok (.enter f args) W') (hc:Calls P f args W' fun e w'=> ∃v,e= .returned v/\K' (a.put o.dst v) w'):
 if Region.wanted o (yielded ops a.tmps)=true then Oper.wp P o a W K' Q else E:=by
 rw[if_pos hw,Oper.wp,hrun,Oper.upon_enter];refine hc.mono fun e w' h=> ?_;obtain ⟨v,rfl,h⟩:=h;exact h
end
end
end Go.Proofs.YthajhofgjhfjeaaDoor
namespace Go.Proofs.YthajhofgjhfjeaaDoor
open Go.RowKit
def also (d:Nat->Bool) (i:Nat):Nat->Bool:=fun j=>cond (Nat.beq j i) true (d j)
section
variable {P : Program} {ops : Array Oper} {Q : Exit -> Act -> World -> Prop}
def StepInv (P:Program) (ops:Array Oper) (Q:Exit->Act->World->Prop) (A: (Nat->Value)->Act) (I: (Nat->Bool)->(Nat->Value)->World->Prop) (i:Nat):Prop:=
 ∀o,ops[i]? =some o-> ∀(d:Nat->Bool) (u:Nat->Value) (W:World),I d u W->d i=false->(∀j,waits o j=true->d j=true)->
  wpOp P ops Q i (fun a' w'=> ∃v,a'=A (upd u i v)/\I (also d i) (upd u i v) w') (A u) W
def StepsInv (P:Program) (ops:Array Oper) (Q:Exit->Act->World->Prop) (A: (Nat->Value)->Act) (I: (Nat->Bool)->(Nat->Value)->World->Prop) (rs:List Nat):Prop:=
 ∀i∈rs,StepInv P ops Q A I i
section
variable {A : (Nat -> Value) -> Act} {I : (Nat -> Bool) -> (Nat -> Value) -> World -> Prop}
include A I
theorem StepsInv.nil:StepsInv P ops Q A I []:=fun _ h=>by cases h
theorem StepsInv.cons {i:Nat} {rs:List Nat} (o:Oper) (ho:ops[i]? =some o)
 (h: ∀(d:Nat->Bool) (u:Nat->Value) (W:World) (K':Act->World->Prop),I d u W->d i=false->(∀j,waits o j=true->d j=true)->
  Shut (∀v w',I (also d i) (upd u i v) w'->K' (A (upd u i v)) w')->
  if Region.wanted o (yielded ops (A u).tmps)=true then Oper.wp P o (A u) W K' Q else K' ((A u).put o.dst undef) W)
 (hs:StepsInv P ops Q A I rs):StepsInv P ops Q A I (i::rs):=fun j hj=>by
 rcases List.mem_cons.1 hj with rfl | hj
 {intro o' ho' d u W hI hd hw;rw[ho] at ho';obtain rfl:o=o':=Option.some.inj ho';exact wpOp_step ho (fun K' hK=>h d u W K' hI hd hw (fun v w' h1=>hK _ _ ⟨v,rfl,h1⟩))}
 {exact hs j hj}
end
theorem Z64 (listed:Array Bool) {i:Nat} (hi:i < listed.size): (fun j=>(listed.setIfInBounds i true).getD j false)=also (fun j=>listed.getD j false) i:=by
 funext j;unfold also;by_cases h:j=i
 {subst h;have:Nat.beq j j=true:=Nat.beq_refl j;rw[this];simp[hi]}
 {have hb:Nat.beq j i=false:=by cases hb:Nat.beq j i <;> first | rfl | exact absurd (Nat.eq_of_beq_eq_true hb) h
  rw[hb];exact getD_set_ne false (Ne.symm h)}
theorem Z9N (A: (Nat->Value)->Act) (I: (Nat->Bool)->(Nat->Value)->World->Prop) (hl:lowAfter ops=true)
 (hstep:StepsInv P ops Q A I (List.range ops.size))
 (hdone: ∀d u W,I d u W->(∀j,j < ops.size->d j=true)->Q .normal (A u) W):
 ∀(fuel:Nat) (listed:Array Bool) (u:Nat->Value) (W:World),listed.size=ops.size->listed.toList.count false<=fuel->I (fun j=>listed.getD j false) u W->
  wpAny P .any ops Q fuel listed (A u) W:=by
 intro fuel;induction fuel with
 | zero=>
  intro listed u W hsz hc hI;have hr:Region.ready .any ops listed= []:=by
   refine List.eq_nil_iff_forall_not_mem.2 fun j hj=> ?_;obtain ⟨h1,o,ho,_⟩:=mem_ready.1 hj;have hjs:j < listed.size:=by
    rw[hsz];rcases Nat.lt_or_ge j ops.size with h | h
    {exact h}
    {rw[Array.getElem?_eq_none h] at ho; cases ho}
   refine Z3F listed.toList (by omega) j ?_;simp[hjs] at h1 ⊢;exact h1
  exact ⟨hr,hdone _ u W hI fun j hj=>Z1A hl listed hr hsz (j+1) j (by omega) hj⟩
 | succ fuel ih=>
  intro listed u W hsz hc hI;refine ⟨fun hr=>hdone _ u W hI fun j hj=>Z1A hl listed hr hsz (j+1) j (by omega) hj,fun i hi=> ?_⟩;obtain ⟨h1,o,ho,hall⟩:=mem_ready.1 hi;have his:i < ops.size:=by
   rcases Nat.lt_or_ge i ops.size with h | h
   {exact h}
   {rw[Array.getElem?_eq_none h] at ho; cases ho}
  have hil:i < listed.size:=by omega
  have hdi:listed.getD i false=false:=by simp[hil] at h1 ⊢; exact h1
  have hdep: ∀j,waits o j=true->listed.getD j false=true:=fun j hj=>by
   obtain ⟨e,he,hb⟩:=Array.any_eq_true'.1 hj;simp only[Bool.and_eq_true,beq_iff_eq] at hb;obtain ⟨hb,rfl⟩:=hb;exact hall e he hb
  refine wpOp_mono (fun a' w' h=> ?_) (hstep i (List.mem_range.2 his) o ho (fun j=>listed.getD j false) u W hI hdi hdep);obtain ⟨v,rfl,hI'⟩:=h;rw[<-Z64 listed hil] at hI';refine ih _ _ _ (by simpa using hsz) ?_ hI';have h2:listed.toList[i]? =some false:=by simp[hil] at h1 ⊢; exact h1
  have:=Z4d listed.toList i h2;rw[Array.toList_setIfInBounds];omega
theorem Z9O {id:Nat} {w:World} {rs:List Nat} (A: (Nat->Value)->Act) (u0:Nat->Value) (I: (Nat->Bool)->(Nat->Value)->World->Prop) (hm:P.follows .mixedOrders=true) (hl:lowAfter ops=true)
 (hrs:List.range ops.size=rs) (hI:I (fun _=>false) u0 w.drew) (hstep:StepsInv P ops Q A I rs)
 (hdone: ∀d u W,I d u W->(∀j,j < ops.size->d j=true)->Q .normal (A u) W):
 (Code.region id ops true).wp P Q (A u0) w:=by
 subst hrs;refine wp_region_any hm (Z9N A I hl hstep hdone _ _ _ _ (by simp) ?_ ?_)
 {exact Nat.le_trans List.count_le_length (by simp)}
 {have e: (fun j=>(Array.replicate ops.size false).getD j false)=fun _=>false:=by
   funext j;rcases Nat.lt_or_ge j ops.size with h | h
   {simp[h]}
   {simp[h]}
  rw[e];exact hI}
theorem Z8i {o:Oper} {a:Act} {W W':World} {K':Act->World->Prop} {E:Prop} (hw:Region.wanted o (yielded ops a.tmps)=true)
 (hrun: (execOp a.eval o).run P W= .ok .skip W') (hK:K' (a.put o.dst undef) W'):
 if Region.wanted o (yielded ops a.tmps)=true then Oper.wp P o a W K' Q else E:=by
 rw[if_pos hw,Oper.wp,hrun,Oper.upon_skip];exact hK
end
end Go.Proofs.YthajhofgjhfjeaaDoor
namespace Go.Proofs.YthajhofgjhfjeaaDoor
open Go.RowKit
def Shutd (ops:Array Oper) (d:Nat->Bool):Prop:= ∀k o,ops[k]? =some o->d k=true-> ∀m,waits o m=true->d m=true
section
variable {P : Program} {ops : Array Oper} {Q : Exit -> Act -> World -> Prop} {d : Nat -> Bool}
theorem Zbp (i:Nat) {k:Nat} (h:d k=true):also d i k=true:=by
 unfold also;cases Nat.beq k i
 {exact h}
 {rfl}
theorem Shutd.also (h:Shutd ops d) {i:Nat} {o:Oper} (ho:ops[i]? =some o) (hw: ∀j,waits o j=true->d j=true):Shutd ops (also d i):=by
 intro k o2 hk hd m hm;by_cases e:k=i
 {subst e;rw[ho] at hk;obtain rfl:=Option.some.inj hk;exact Zbp _ (hw m hm)}
 {have:Go.Proofs.YthajhofgjhfjeaaDoor.also d i k=d k:=by
   unfold Go.Proofs.YthajhofgjhfjeaaDoor.also;have:Nat.beq k i=false:=by cases hb:Nat.beq k i <;> first | rfl | exact absurd (Nat.eq_of_beq_eq_true hb) e
   rw[this]; rfl
  rw[this] at hd;exact Zbp _ (h k o2 hk hd m hm)}
theorem StepsInv.cons2 {A: (Nat->Value)->Act} {I: (Nat->Bool)->(Nat->Value)->World->Prop} {i:Nat} {rs:List Nat} (o:Oper) (ho:ops[i]? =some o)
 (h: ∀(d:Nat->Bool) (u:Nat->Value) (W:World) (K':Act->World->Prop),Shutd ops d->I d u W->d i=false->(∀j,waits o j=true->d j=true)->
  Shut (∀v w',I (also d i) (upd u i v) w'->K' (A (upd u i v)) w')->
  if Region.wanted o (yielded ops (A u).tmps)=true then Oper.wp P o (A u) W K' Q else K' ((A u).put o.dst undef) W)
 (hs:StepsInv P ops Q A (fun d u W=>Shutd ops d/\I d u W) rs):StepsInv P ops Q A (fun d u W=>Shutd ops d/\I d u W) (i::rs):=
 StepsInv.cons o ho (fun d u W K' hI hd hw hK=>h d u W K' hI.1 hI.2 hd hw (fun v w' hv=>hK _ _ ⟨hI.1.also ho hw,hv⟩)) hs
theorem ZaO {id:Nat} {w:World} {rs:List Nat} (A: (Nat->Value)->Act) (u0:Nat->Value) (I: (Nat->Bool)->(Nat->Value)->World->Prop) (hm:P.follows .mixedOrders=true) (hl:lowAfter ops=true)
 (hrs:List.range ops.size=rs) (hI:I (fun _=>false) u0 w.drew) (hstep:StepsInv P ops Q A (fun d u W=>Shutd ops d/\I d u W) rs)
 (hdone: ∀d u W,I d u W->(∀j,j < ops.size->d j=true)->Q .normal (A u) W):
 (Code.region id ops true).wp P Q (A u0) w:=
 Z9O A u0 (fun d u W=>Shutd ops d/\I d u W) hm hl hrs ⟨fun _ _ _ h=>(by cases h),hI⟩ hstep (fun d u W h=>hdone d u W h.2)
end
end Go.Proofs.YthajhofgjhfjeaaDoor
namespace Go.Proofs.YthajhofgjhfjeaaDoor
open Go.RowKit Shp Sub
namespace SubM
theorem ZaP {P:Program} {e:TypeId} {z:Value} {size bytes:Nat} (h: (P.info? e).map (fun i=>(i.zero,i.size,i.bytes))=some (some z,size,bytes)): ∃i,P.info? e=some i/\i.zero=some z/\i.size=size/\i.bytes=bytes:=by
 cases hi:P.info? e with
 | none=>rw[hi] at h; cases h
 | some i=>
  rw[hi] at h;simp only[Option.map_some,Option.some.injEq,Prod.mk.injEq] at h;exact ⟨i,rfl,h.1,h.2.1,h.2.2⟩
theorem Zbl: (Tryd.prog.info? 25).map (fun i=>(i.zero,i.size,i.bytes))=some (some (.agg #[.int .i64 0,.string ByteArray.empty,.string ByteArray.empty,.slice none 0 0,.slice none 0 0]),5,88):=by kernel_rfl
theorem Zc8: (Tryd.prog.info? 9).map (fun i=>(i.zero,i.size,i.bytes))=some (some (.string ByteArray.empty),1,16):=by kernel_rfl
theorem Za3 (d:Nat->Bool) {i j:Nat} (h:j≠i):also d i j=d j:=by
 unfold also;have:Nat.beq j i=false:=by cases hb:Nat.beq j i <;> first | rfl | exact absurd (Nat.eq_of_beq_eq_true hb) h
 rw[this]; rfl
theorem Zab (d:Nat->Bool) (i:Nat):also d i i=true:=by unfold also; rw[Nat.beq_refl]; rfl
structure PX where
 W0:World
 gm:Nat
 hi:Nat
 pb:Nat
 AN:Option Addr
 cN:Nat
 AP:Option Addr
 cP:Nat
 nl:List (List UInt8)
 l:List El
 nm:List UInt8
 x:El
namespace PX
variable (X : PX)
def val (j:Nat):Option Value:=match j with
 | 0 | 1 | 2 | 3 | 9 | 10 | 16 | 19=>some (.pointer (some ⟨X.gm,0,none⟩))
 | 4 | 17=>some (.pointer (some ⟨X.gm,3,none⟩))
 | 11 | 20=>some (.pointer (some ⟨X.gm,4,none⟩))
 | 5=>some (.slice X.AN X.nl.length X.cN)
 | 6=>some (.string ⟨X.nm.toArray⟩)
 | 12=>some (.slice X.AP X.l.length X.cP)
 | 13=>some (sv X.x.1 X.x.2)
 | _=>none
def set (b:Nat):Prop:=b=X.gm\/rowB X.AN=some b\/rowB X.AP=some b
structure Good:Prop where
 gh:X.gm < X.hi
 hw:X.hi<=X.pb
 pw:X.pb < X.W0.heap.size
 c3:X.W0.cell? ⟨X.gm,3,none⟩=some (.slice X.AN X.nl.length X.cN)
 c4:X.W0.cell? ⟨X.gm,4,none⟩=some (.slice X.AP X.l.length X.cP)
 fz: ∀j,X.W0.frozen? ⟨X.gm,j,none⟩=false
 rN:X.W0.ownsRow X.hi 9 1 (.slice X.AN X.nl.length X.cN) X.nl.length (namesE X.nl)
 rP:X.W0.ownsRow X.hi 25 5 (.slice X.AP X.l.length X.cP) X.l.length (cellsE X.l)
 ne:rowB X.AN=none\/rowB X.AN≠rowB X.AP
 bn:rowB X.AN≠some X.pb
 bp:rowB X.AP≠some X.pb
 box:Sh5 X.W0 X.pb 0 X.x.1 X.x.2
 ln:X.nl.length<=1000
 ll:X.l.length<=1000
structure PI (d:Nat->Bool) (u:Nat->Value) (W:World):Prop where
 vals: ∀j,d j=true-> ∀v,X.val j=some v->u j=v
 up:Upd X.set X.W0 W
 f7:d 7=true-> ∃z,u 7= .slice (some ⟨z,0,none⟩) 1 1/\X.W0.heap.size<=z/\z < W.heap.size/\W.cell? ⟨z,0,none⟩=some (.string ⟨X.nm.toArray⟩)
 f14:d 14=true-> ∃z,u 14= .slice (some ⟨z,0,none⟩) 1 1/\X.W0.heap.size<=z/\z < W.heap.size/\ ∀(j:Nat) v,(Za9 X.x)[j]? =some v->W.cell? ⟨z,j,none⟩=some v
 n0:d 8=false->W.ownsRow X.hi 9 1 (.slice X.AN X.nl.length X.cN) X.nl.length (namesE X.nl)
 n1:d 8=true-> ∃g c,u 8= .slice (some ⟨g,0,none⟩) (X.nl.length+1) c/\W.ownsRow X.hi 9 1 (.slice (some ⟨g,0,none⟩) (X.nl.length+1) c) (X.nl.length+1) (namesE X.nl++ [.string ⟨X.nm.toArray⟩])/\(rowB X.AN=some g\/X.W0.heap.size<=g)
 p0:d 15=false->W.ownsRow X.hi 25 5 (.slice X.AP X.l.length X.cP) X.l.length (cellsE X.l)
 p1:d 15=true-> ∃g c,u 15= .slice (some ⟨g,0,none⟩) (X.l.length+1) c/\W.ownsRow X.hi 25 5 (.slice (some ⟨g,0,none⟩) (X.l.length+1) c) (X.l.length+1) (cellsE X.l++Za9 X.x)/\(rowB X.AP=some g\/X.W0.heap.size<=g)/\
  ∀g8 n c8,u 8= .slice (some ⟨g8,0,none⟩) n c8->g8≠g
 c3:W.cell? ⟨X.gm,3,none⟩=some (if d 18=true then u 8 else .slice X.AN X.nl.length X.cN)
 c4:W.cell? ⟨X.gm,4,none⟩=some (if d 21=true then u 15 else .slice X.AP X.l.length X.cP)
 cr: ∀j,j < 3->W.cell? ⟨X.gm,j,none⟩=X.W0.cell? ⟨X.gm,j,none⟩
 fz: ∀j,W.frozen? ⟨X.gm,j,none⟩=false
variable {X : PX} {d : Nat -> Bool} {u : Nat -> Value} {W W' : World}
theorem PI.vals' (h:X.PI d u W) {i:Nat} {v:Value} (hv: ∀v',X.val i=some v'->v=v'): ∀j,also d i j=true-> ∀v',X.val j=some v'->upd u i v j=v':=fun j hj v' hv'=>by
 by_cases hij:j=i
 {subst hij; rw[Z2p]; exact hv v' hv'}
 {rw[Za3 d hij] at hj; rw[Z15 u v hij]; exact h.vals j hj v' hv'}
theorem Good.start (h:X.Good):X.PI (fun _=>false) u X.W0.drew:=
 ⟨nofun,(Upd.refl _ _).drew,nofun,nofun,fun _=>h.rN,nofun,fun _=>h.rP,nofun,h.c3,h.c4,fun _ _=>rfl,h.fz⟩
theorem PI.pure (h:X.PI d u W) {i:Nat} (hi:i≠7/\i≠8/\i≠14/\i≠15/\i≠18/\i≠21) {v:Value} (hv: ∀v',X.val i=some v'->v=v'):X.PI (also d i) (upd u i v) W:=by
 have k: ∀j,j=7\/j=8\/j=14\/j=15\/j=18\/j=21->also d i j=d j/\upd u i v j=u j:=fun j hj=>⟨Za3 d (by omega),Z15 u v (by omega)⟩;refine ⟨h.vals' hv,h.up, ?_, ?_, ?_, ?_, ?_, ?_, ?_, ?_,h.cr,h.fz⟩
 {rw[(k 7 (by omega)).1,(k 7 (by omega)).2]; exact h.f7}
 {rw[(k 14 (by omega)).1,(k 14 (by omega)).2]; exact h.f14}
 {rw[(k 8 (by omega)).1]; exact h.n0}
 {rw[(k 8 (by omega)).1,(k 8 (by omega)).2]; exact h.n1}
 {rw[(k 15 (by omega)).1]; exact h.p0}
 {rw[(k 15 (by omega)).1,(k 15 (by omega)).2,(k 8 (by omega)).2]; exact h.p1}
 {rw[(k 18 (by omega)).1,(k 8 (by omega)).2]; exact h.c3}
 {rw[(k 21 (by omega)).1,(k 15 (by omega)).2]; exact h.c4}
theorem PI.box (h:X.PI d u W) (hX:X.Good):Sh5 W X.pb 0 X.x.1 X.x.2:=
 hX.box.of (fun k=>h.up.cell hX.pw (fun hs=>by
  rcases hs with hs | hs | hs
  {have:=hX.gh; have:=hX.hw; omega}
  {exact hX.bn hs}
  · exact hX.bp hs))
theorem PI.new (h:X.PI d u W) (hX:X.Good) (hb:Below W.heap.size W W'):X.PI d u W':=by
 have hgm:X.gm < W.heap.size:=by have:=hX.gh; have:=hX.hw; have:=hX.pw; have:=h.up.size; omega
 have hu:Upd (fun _=>False) W W':=Upd.new hb;refine ⟨h.vals,h.up.trans (hu.mono (fun _ _ h=>h.elim)),fun h7=> ?_,fun h14=> ?_,fun h8=>Za6 (h.n0 h8) hu (fun _ _ h=>h),fun h8=> ?_,fun h15=>Za6 (h.p0 h15) hu (fun _ _ h=>h),fun h15=> ?_,
  (hu.cell hgm (fun h=>h)).trans h.c3,(hu.cell hgm (fun h=>h)).trans h.c4,fun j hj=>(hu.cell hgm (fun h=>h)).trans (h.cr j hj),fun j=>(hu.frozen hgm (fun h=>h)).trans (h.fz j)⟩
 {obtain ⟨z,e,z1,z2,z3⟩:=h.f7 h7;exact ⟨z,e,z1,Nat.lt_of_lt_of_le z2 hu.size,(hu.cell z2 (fun h=>h)).trans z3⟩}
 {obtain ⟨z,e,z1,z2,z3⟩:=h.f14 h14;exact ⟨z,e,z1,Nat.lt_of_lt_of_le z2 hu.size,fun j v hv=>(hu.cell z2 (fun h=>h)).trans (z3 j v hv)⟩}
 {obtain ⟨g,c,e,r,n⟩:=h.n1 h8;exact ⟨g,c,e,Za6 r hu (fun _ _ h=>h),n⟩}
 {obtain ⟨g,c,e,r,n⟩:=h.p1 h15;exact ⟨g,c,e,Za6 r hu (fun _ _ h=>h),n⟩}
section
variable (h : X.PI d u W) (hX : X.Good)
include h hX
theorem PI.s7:X.PI (also d 7) (upd u 7 (.slice (some ⟨W.heap.size,0,none⟩) 1 1)) (W.alloc (.cells #[.string ⟨X.nm.toArray⟩] 9)):=by
 have hn:=h.new hX (Z01 W (.cells #[.string ⟨X.nm.toArray⟩] 9));have k: ∀j,j≠7->also d 7 j=d j/\ ∀v,upd u 7 v j=u j:=fun j hj=>⟨Za3 d hj,fun v=>Z15 u v hj⟩;have hs:=h.up.size;refine ⟨hn.vals' (fun v' h=>by cases h),hn.up,fun _=>⟨W.heap.size,Z2p _ _ _,hs,by simp,by simp[go_sem]⟩, ?_, ?_, ?_, ?_, ?_, ?_, ?_,hn.cr,hn.fz⟩
 {rw[(k 14 (by omega)).1,(k 14 (by omega)).2]; exact hn.f14}
 {rw[(k 8 (by omega)).1]; exact hn.n0}
 {rw[(k 8 (by omega)).1,(k 8 (by omega)).2]; exact hn.n1}
 {rw[(k 15 (by omega)).1]; exact hn.p0}
 {rw[(k 15 (by omega)).1,(k 15 (by omega)).2,(k 8 (by omega)).2]; exact hn.p1}
 {rw[(k 18 (by omega)).1,(k 8 (by omega)).2]; exact hn.c3}
 {rw[(k 21 (by omega)).1,(k 15 (by omega)).2]; exact hn.c4}
theorem PI.s14:X.PI (also d 14) (upd u 14 (.slice (some ⟨W.heap.size,0,none⟩) 1 1)) (W.alloc (.cells #[.int .i64 X.x.1.kind,.string ⟨X.x.1.of_.toArray⟩,.string ⟨X.x.1.name.toArray⟩,.slice X.x.2.A X.x.1.names.length X.x.2.c,.slice X.x.2.P X.x.1.parts.length X.x.2.d] 25)):=by
 have hn:=h.new hX (Z01 W (.cells #[.int .i64 X.x.1.kind,.string ⟨X.x.1.of_.toArray⟩,.string ⟨X.x.1.name.toArray⟩,.slice X.x.2.A X.x.1.names.length X.x.2.c,.slice X.x.2.P X.x.1.parts.length X.x.2.d] 25));have k: ∀j,j≠14->also d 14 j=d j/\ ∀v,upd u 14 v j=u j:=fun j hj=>⟨Za3 d hj,fun v=>Z15 u v hj⟩;have hs:=h.up.size;refine ⟨hn.vals' (fun v' h=>by cases h),hn.up, ?_,fun _=>⟨W.heap.size,Z2p _ _ _,hs,by simp, ?_⟩, ?_, ?_, ?_, ?_, ?_, ?_,hn.cr,hn.fz⟩
 {rw[(k 7 (by omega)).1,(k 7 (by omega)).2]; exact hn.f7}
 {intro j v hv;rcases j with _ | _ | _ | _ | _ | j
  {simp[Za9] at hv; subst hv; simp[go_sem]}
  {simp[Za9] at hv; subst hv; simp[go_sem]}
  {simp[Za9] at hv; subst hv; simp[go_sem]}
  {simp[Za9] at hv; subst hv; simp[go_sem]}
  {simp[Za9] at hv; subst hv; simp[go_sem]}
  {simp[Za9] at hv}}
 {rw[(k 8 (by omega)).1]; exact hn.n0}
 {rw[(k 8 (by omega)).1,(k 8 (by omega)).2]; exact hn.n1}
 {rw[(k 15 (by omega)).1]; exact hn.p0}
 {rw[(k 15 (by omega)).1,(k 15 (by omega)).2,(k 8 (by omega)).2]; exact hn.p1}
 {rw[(k 18 (by omega)).1,(k 8 (by omega)).2]; exact hn.c3}
 {rw[(k 21 (by omega)).1,(k 15 (by omega)).2]; exact hn.c4}
theorem PI.s8 (h8:d 8=false) (h15:d 15=false) (h18:d 18=false) {g c:Nat} (hown:W'.ownsRow X.hi 9 1 (.slice (some ⟨g,0,none⟩) (X.nl.length+1) c) (X.nl.length+1) (namesE X.nl++ [.string ⟨X.nm.toArray⟩]))
 (hg:W.grownBy W' (rowB X.AN)) (hat:rowB X.AN=some g\/g=W.heap.size):X.PI (also d 8) (upd u 8 (.slice (some ⟨g,0,none⟩) (X.nl.length+1) c)) W':=by
 have k: ∀j,j≠8->also d 8 j=d j/\ ∀v,upd u 8 v j=u j:=fun j hj=>⟨Za3 d hj,fun v=>Z15 u v hj⟩;have hu:Upd (fun b=>rowB X.AN=some b) W W':=(Upd.refl _ W).grown hg (fun k h _=>h);have hgm:X.gm < W.heap.size:=by have:=hX.gh; have:=hX.hw; have:=hX.pw; have:=h.up.size; omega
 have hgN: ¬rowB X.AN=some X.gm:=fun e=>by have:=(Za0 hX.rN _ e).1; have:=hX.gh; omega
 have hnz: ∀z,X.W0.heap.size<=z-> ¬rowB X.AN=some z:=fun z hz e=>by have:=(Za0 hX.rN _ e).2; omega
 have hs:=h.up.size;refine ⟨h.vals' (fun v' h=>by cases h),h.up.trans (hu.mono (fun b _ hb=>Or.inr (Or.inl hb))), ?_, ?_, ?_, ?_, ?_, ?_, ?_, ?_,fun j hj=>(hu.cell hgm hgN).trans (h.cr j hj),fun j=>(hu.frozen hgm hgN).trans (h.fz j)⟩
 {rw[(k 7 (by omega)).1,(k 7 (by omega)).2];intro h7;obtain ⟨z,e,z1,z2,z3⟩:=h.f7 h7;exact ⟨z,e,z1,Nat.lt_of_lt_of_le z2 hu.size,(hu.cell z2 (hnz z z1)).trans z3⟩}
 {rw[(k 14 (by omega)).1,(k 14 (by omega)).2];intro h14;obtain ⟨z,e,z1,z2,z3⟩:=h.f14 h14;exact ⟨z,e,z1,Nat.lt_of_lt_of_le z2 hu.size,fun j v hv=>(hu.cell z2 (hnz z z1)).trans (z3 j v hv)⟩}
 {rw[Zab]; nofun}
 {exact fun _=>⟨g,c,Z2p _ _ _,hown,hat.imp id (fun e=>by omega)⟩}
 {exact fun _=>Za6 (h.p0 h15) hu (fun b hb e=>by
   rcases hX.ne with hne | hne
   {rw[hne] at e; cases e}
   · exact hne (e.trans hb.symm))}
 {rw[(k 15 (by omega)).1,h15]; nofun}
 {rw[(k 18 (by omega)).1,h18];have:=h.c3;rw[h18] at this;exact (hu.cell hgm hgN).trans this}
 {rw[(k 21 (by omega)).1,(k 15 (by omega)).2];exact (hu.cell hgm hgN).trans h.c4}
theorem PI.s15 (h8:d 8=true) (h15:d 15=false) (h18:d 18=false) (h21:d 21=false) {g c:Nat} (hown:W'.ownsRow X.hi 25 5 (.slice (some ⟨g,0,none⟩) (X.l.length+1) c) (X.l.length+1) (cellsE X.l++Za9 X.x))
 (hg:W.grownBy W' (rowB X.AP)) (hat:rowB X.AP=some g\/g=W.heap.size):X.PI (also d 15) (upd u 15 (.slice (some ⟨g,0,none⟩) (X.l.length+1) c)) W':=by
 have k: ∀j,j≠15->also d 15 j=d j/\ ∀v,upd u 15 v j=u j:=fun j hj=>⟨Za3 d hj,fun v=>Z15 u v hj⟩;have hu:Upd (fun b=>rowB X.AP=some b) W W':=(Upd.refl _ W).grown hg (fun k h _=>h);have hgm:X.gm < W.heap.size:=by have:=hX.gh; have:=hX.hw; have:=hX.pw; have:=h.up.size; omega
 have hgN: ¬rowB X.AP=some X.gm:=fun e=>by have:=(Za0 hX.rP _ e).1; have:=hX.gh; omega
 have hnz: ∀z,X.W0.heap.size<=z-> ¬rowB X.AP=some z:=fun z hz e=>by have:=(Za0 hX.rP _ e).2; omega
 have hs:=h.up.size;obtain ⟨g8,c8,e8,r8,n8⟩:=h.n1 h8;have hg8: ¬rowB X.AP=some g8:=fun e=>by
  rcases n8 with n8 | n8
  {rcases hX.ne with hne | hne
   {rw[hne] at n8; cases n8}
   {exact hne (n8.trans e.symm)}}
  {exact hnz g8 n8 e}
 have hg8w:g8 < W.heap.size:=(Za0 r8 g8 rfl).2;refine ⟨h.vals' (fun v' h=>by cases h),h.up.trans (hu.mono (fun b _ hb=>Or.inr (Or.inr hb))), ?_, ?_, ?_, ?_, ?_, ?_, ?_, ?_,fun j hj=>(hu.cell hgm hgN).trans (h.cr j hj),fun j=>(hu.frozen hgm hgN).trans (h.fz j)⟩
 {rw[(k 7 (by omega)).1,(k 7 (by omega)).2];intro h7;obtain ⟨z,e,z1,z2,z3⟩:=h.f7 h7;exact ⟨z,e,z1,Nat.lt_of_lt_of_le z2 hu.size,(hu.cell z2 (hnz z z1)).trans z3⟩}
 {rw[(k 14 (by omega)).1,(k 14 (by omega)).2];intro h14;obtain ⟨z,e,z1,z2,z3⟩:=h.f14 h14;exact ⟨z,e,z1,Nat.lt_of_lt_of_le z2 hu.size,fun j v hv=>(hu.cell z2 (hnz z z1)).trans (z3 j v hv)⟩}
 {rw[(k 8 (by omega)).1,h8]; nofun}
 {rw[(k 8 (by omega)).2];exact fun _=>⟨g8,c8,e8,Za6 r8 hu (fun b hb=>by cases hb; exact hg8),n8⟩}
 {rw[Zab]; nofun}
 {refine fun _=>⟨g,c,Z2p _ _ _,hown,hat.imp id (fun e=>by omega),fun g' n c' e=> ?_⟩;rw[(k 8 (by omega)).2,e8] at e;simp only[Value.slice.injEq,Option.some.injEq,Addr.mk.injEq,and_true] at e;rw[<-e.1];rcases hat with h1 | h1
  {exact fun e=>hg8 (by rw[e]; exact h1)}
  {omega}}
 {rw[(k 18 (by omega)).1,h18];have:=h.c3;rw[h18] at this;exact (hu.cell hgm hgN).trans this}
 {rw[(k 21 (by omega)).1,h21];have:=h.c4;rw[h21] at this;exact (hu.cell hgm hgN).trans this}
end
theorem not_gm (hX:X.Good) {W':World} {g n c e s m:Nat} {xs:List Value} (r:W'.ownsRow X.hi e s (.slice (some ⟨g,0,none⟩) n c) m xs) {b:Nat} (hb:rowB (some ⟨g,0,none⟩)=some b) (he:b=X.gm):False:=by
 have e1:g=b:=by simpa[rowB] using hb
 have h1:=(r.lt g rfl).1;have:=hX.gh;omega
theorem PI.sto (h:X.PI d u W) (hX:X.Good) (h8:d 8=true) (h15:d 15=true) (i f:Nat) (hi:i=18/\f=3\/i=21/\f=4) (hd:d i=false):X.PI (also d i) (upd u i undef) (W.setCell ⟨X.gm,f,none⟩ (if i=18 then u 8 else u 15)):=by
 have k: ∀j,j≠i->also d i j=d j/\ ∀v,upd u i v j=u j:=fun j hj=>⟨Za3 d hj,fun v=>Z15 u v hj⟩;have hgm:X.gm < W.heap.size:=by have:=hX.gh; have:=hX.hw; have:=hX.pw; have:=h.up.size; omega
 obtain ⟨g8,c8,e8,r8,n8⟩:=h.n1 h8;obtain ⟨g15,c15,e15,r15,n15,m15⟩:=h.p1 h15;have hu:Upd (fun b=>b=X.gm) W (W.setCell ⟨X.gm,f,none⟩ (if i=18 then u 8 else u 15)):=Upd.set (Upd.refl (fun b=>b=X.gm) W) ⟨X.gm,f,none⟩ (fun _=>rfl) _;have far: ∀j,j≠f->(W.setCell ⟨X.gm,f,none⟩ (if i=18 then u 8 else u 15)).cell? ⟨X.gm,j,none⟩=W.cell? ⟨X.gm,j,none⟩:=fun j hj=>World.cell?_setCell_other _ _ _ _ (fun e=>by have:=congrArg Addr.off e; simp at this; omega);have hz: ∀z,X.W0.heap.size<=z-> ¬z=X.gm:=fun z hz e=>by have:=hX.gh; have:=hX.hw; have:=hX.pw; omega
 refine ⟨h.vals' (fun v' h=>by rcases hi with ⟨rfl,_⟩ | ⟨rfl,_⟩ <;> cases h),h.up.trans (hu.mono (fun b _ hb=>Or.inl hb)), ?_, ?_, ?_, ?_, ?_, ?_, ?_, ?_,fun j hj=>(far j (by omega)).trans (h.cr j hj),fun j=>(World.frozen?_setCell ..).trans (h.fz j)⟩
 {rw[(k 7 (by omega)).1,(k 7 (by omega)).2];intro h7;obtain ⟨z,e,z1,z2,z3⟩:=h.f7 h7;exact ⟨z,e,z1,Nat.lt_of_lt_of_le z2 hu.size,(hu.cell z2 (hz z z1)).trans z3⟩}
 {rw[(k 14 (by omega)).1,(k 14 (by omega)).2];intro h14;obtain ⟨z,e,z1,z2,z3⟩:=h.f14 h14;exact ⟨z,e,z1,Nat.lt_of_lt_of_le z2 hu.size,fun j v hv=>(hu.cell z2 (hz z z1)).trans (z3 j v hv)⟩}
 {rw[(k 8 (by omega)).1,h8]; nofun}
 {rw[(k 8 (by omega)).2];exact fun _=>⟨g8,c8,e8,Za6 r8 hu (fun b hb e=>not_gm hX r8 hb e),n8⟩}
 {rw[(k 15 (by omega)).1,h15]; nofun}
 {rw[(k 15 (by omega)).2,(k 8 (by omega)).2];exact fun _=>⟨g15,c15,e15,Za6 r15 hu (fun b hb e=>not_gm hX r15 hb e),n15,m15⟩}
 {rw[(k 8 (by omega)).2];rcases hi with ⟨rfl,rfl⟩ | ⟨rfl,rfl⟩
  {rw[Zab,if_pos rfl,if_pos rfl];exact World.cell?_setCell_same _ _ _ h.c3}
  {rw[(k 18 (by omega)).1];exact (far 3 (by omega)).trans h.c3}}
 {rw[(k 15 (by omega)).2];rcases hi with ⟨rfl,rfl⟩ | ⟨rfl,rfl⟩
  {rw[(k 21 (by omega)).1];exact (far 4 (by omega)).trans h.c4}
  {rw[Zab,if_pos rfl,if_neg (by omega)];exact World.cell?_setCell_same _ _ _ h.c4}}
end PX
end SubM
end Go.Proofs.YthajhofgjhfjeaaDoor
namespace Go.Proofs.YthajhofgjhfjeaaDoor
open Go.RowKit Shp Sub
namespace SubM
theorem Za2 {ops:Array Oper} {d:Nat->Bool} (hs:Shutd ops d) {k m:Nat} {o:Oper} (ho:ops[k]? =some o) (hw:waits o m=true) (hm:d m=false):d k=false:=by
 cases h:d k with
 | false=>rfl
 | true=>rw[hs k o ho h m hw] at hm; cases hm
def PutOk (W:World) (gm:Nat) (AN AP:Option Addr) (AN' AP':Option Addr) (W':World):Prop:=
 Upd (fun b=>b=gm\/rowB AN=some b\/rowB AP=some b) W W'/\(∀b,rowB AN'=some b->rowB AN=some b\/W.heap.size<=b)/\(∀b,rowB AP'=some b->rowB AP=some b\/W.heap.size<=b)
theorem Zbb (w0:World) (gm hi:Nat) (k:Int) (o nmm:List UInt8) (nl:List (List UInt8)) (l:List El) (AN:Option Addr) (cN:Nat) (AP:Option Addr) (cP:Nat) (nm:List UInt8) (t:Sh) (q:Ptr) (W0:World)
 (h:Mk w0 gm hi k o nmm nl l AN cN AP cP W0) (ln:nl.length<=1000) (ll:l.length<=1000):
 Calls Tryd.prog 68 #[.pointer (some ⟨gm,0,none⟩),.string ⟨nm.toArray⟩,sv t q] W0 fun e W'=>e= .returned (.tuple #[])/\
  ∃AN' cN' AP' cP',Mk w0 gm hi k o nmm (nl++ [nm]) (l++ [(t,q)]) AN' cN' AP' cP' W'/\PutOk W0 gm AN AP AN' AP' W':=by
 obtain ⟨i0,hif0,hz0,hs0,hb0⟩:=ZaP Zbl;obtain ⟨i1,hif1,hz1,hs1,hb1⟩:=ZaP Zc8;have hbw:=Z01 W0 (.cells (Y8 t q) 25);have hB:=Z03 W0 t q;obtain ⟨w1,hw1⟩: ∃w1,w1=W0.alloc (.cells (Y8 t q) 25):=⟨_,rfl⟩;rw[<-hw1] at hbw hB;have hw1':=hw1.symm;obtain ⟨pb,hpb⟩: ∃pb,pb=W0.heap.size:=⟨_,rfl⟩;have hM:=h.new hbw;obtain ⟨X,hXe⟩: ∃X:PX,X=⟨w1,gm,hi,pb,AN,cN,AP,cP,nl,l,nm,(t,q)⟩:=⟨_,rfl⟩;have hX:X.Good:=by
  rw[hXe];exact ⟨h.gh,by rw[hpb]; exact h.hw,by rw[hpb]; exact hB.1,hM.c3,hM.c4,hM.fz,hM.rN,hM.rP,hM.ne,fun e=>by have:=(Za0 h.rN pb e).2; omega,fun e=>by have:=(Za0 h.rP pb e).2; omega,by rw[hpb]; exact hB.2.1,ln,ll⟩
 have HX:=Y1 hX;have HM:=Y1 hM;have H0:=Y1 h;have HBW:=Y1 hbw;have HPB:=Y1 hpb;subst hXe;clear hw1 hbw hB hM hX h hpb;unfold sv;go_enter Tryd.func68,Tryd.ntmps68
 go_wp2_with fail
 rw[<-HPB.out];refine ZaO (rs:= [0,1,2,3,4,5,6,7,8,9,10,11,12,13,14,15,16,17,18,19,20,21])
  (fun u=> { tmps:=#[.pointer (some ⟨gm,0,none⟩),.string ⟨nm.toArray⟩,.agg (Y8 t q),undef,undef,.pointer (some ⟨pb,0,none⟩),u 0,u 1,u 2,u 3,u 4,u 5,u 6,u 7,u 8,u 9,u 10,u 11,u 12,u 13,u 14,u 15,u 16,u 17,u 19,u 20],defers:= [] })
  (fun j=>undef) (PX.PI ⟨w1,gm,hi,pb,AN,cN,AP,cP,nl,l,nm,(t,q)⟩) (by kernel_rfl) (by kernel_rfl) (by kernel_rfl) HX.out.start ?_ ?_
 refine StepsInv.cons2 _ rfl (fun d u W K' hs hI hd hw hK=> ?_) ?_
 {refine Z02 (v:= .pointer (some ⟨gm,0,none⟩)) (W':=W) rfl ?_ (hK.out _ _ (hI.pure (by decide) (fun v' h=>by cases h; rfl)));go_simp}
 refine StepsInv.cons2 _ rfl (fun d u W K' hs hI hd hw hK=> ?_) ?_
 {refine Z02 (v:= .pointer (some ⟨gm,0,none⟩)) (W':=W) rfl ?_ (hK.out _ _ (hI.pure (by decide) (fun v' h=>by cases h; rfl)));go_simp}
 refine StepsInv.cons2 _ rfl (fun d u W K' hs hI hd hw hK=> ?_) ?_
 {refine Z02 (v:= .pointer (some ⟨gm,0,none⟩)) (W':=W) rfl ?_ (hK.out _ _ (hI.pure (by decide) (fun v' h=>by cases h; rfl)));go_simp}
 refine StepsInv.cons2 _ rfl (fun d u W K' hs hI hd hw hK=> ?_) ?_
 {have d2:u 2= .pointer (some ⟨gm,0,none⟩):=hI.vals 2 (hw 2 (by kernel_rfl)) _ rfl;refine Z02 (v:= .pointer (some ⟨gm,0,none⟩)) (W':=W) rfl ?_ (hK.out _ _ (hI.pure (by decide) (fun v' h=>by cases h; rfl)));go_simp}
 refine StepsInv.cons2 _ rfl (fun d u W K' hs hI hd hw hK=> ?_) ?_
 {have d3:u 3= .pointer (some ⟨gm,0,none⟩):=hI.vals 3 (hw 3 (by kernel_rfl)) _ rfl;refine Z02 (v:= .pointer (some ⟨gm,3,none⟩)) (W':=W) rfl ?_ (hK.out _ _ (hI.pure (by decide) (fun v' h=>by cases h; rfl)));go_simp}
 refine StepsInv.cons2 _ rfl (fun d u W K' hs hI hd hw hK=> ?_) ?_
 {have d4:u 4= .pointer (some ⟨gm,3,none⟩):=hI.vals 4 (hw 4 (by kernel_rfl)) _ rfl;have h18:d 18=false:=Za2 hs rfl (by kernel_rfl) hd;have c3:=hI.c3;rw[h18] at c3;simp only[Bool.false_eq_true,if_false] at c3;change W.cell? ⟨gm,3,none⟩=_ at c3;refine Z02 (v:= .slice AN nl.length cN) (W':=W) rfl ?_ (hK.out _ _ (hI.pure (by decide) (fun v' h=>by cases h; rfl)));go_simp}
 refine StepsInv.cons2 _ rfl (fun d u W K' hs hI hd hw hK=> ?_) ?_
 {refine Z02 (v:= .string ⟨nm.toArray⟩) (W':=W) rfl ?_ (hK.out _ _ (hI.pure (by decide) (fun v' h=>by cases h; rfl)));go_simp}
 refine StepsInv.cons2 _ rfl (fun d u W K' hs hI hd hw hK=> ?_) ?_
 {have d6:u 6= .string ⟨nm.toArray⟩:=hI.vals 6 (hw 6 (by kernel_rfl)) _ rfl;refine Z02 (v:= .slice (some ⟨W.heap.size,0,none⟩) 1 1) (W':=W.alloc (.cells #[.string ⟨nm.toArray⟩] 9)) rfl ?_ (hK.out _ _ (hI.s7 HX.out));go_simp}
 refine StepsInv.cons2 _ rfl (fun d u W K' hs hI hd hw hK=> ?_) ?_
 {have d5:u 5= .slice AN nl.length cN:=hI.vals 5 (hw 5 (by kernel_rfl)) _ rfl;obtain ⟨z,d7,z1,z2,z3⟩:=hI.f7 (hw 7 (by kernel_rfl));have h15:d 15=false:=Za2 hs rfl (by kernel_rfl) hd;have h18:d 18=false:=Za2 hs rfl (by kernel_rfl) hd;have hln:=HX.out.ln;have hsz:=hI.up.size;have hpw:=HX.out.pw;have hhw:=HX.out.hw;refine step_append_lies W rfl _ _ 22 rfl hi 9 i1 (.string ByteArray.empty) 1 16 Tryd.underlying22 hif1 hz1 hs1 hb1 rfl (by decide) _ _ _ (by show u 5=_; exact d5) (hI.n0 hd) ⟨z,0,none⟩ 1 1 [.string ⟨nm.toArray⟩] (by show u 7=_; exact d7) rfl (fun j v hv=>by
   rcases j with _ | j
   {rw[Z1z,z3]; simpa using hv}
   · simp at hv) (by intro v hv; simp at hv; subst hv; rfl) (by decide) (by show nl.length+1<=maxLen; unfold maxLen; change nl.length<=1000 at hln; omega) (by show (nl.length+1) * 16<=140737488355328; change nl.length<=1000 at hln; omega) (by change hi<=pb at hhw; change pb < w1.heap.size at hpw; change w1.heap.size<=_ at hsz; omega) _ rfl ?_
  intro g cp W' hown hg hat hlt;rw[Zau] at hg hat;exact hK.out _ _ (hI.s8 HX.out hd h15 h18 hown hg hat)}
 refine StepsInv.cons2 _ rfl (fun d u W K' hs hI hd hw hK=> ?_) ?_
 {refine Z02 (v:= .pointer (some ⟨gm,0,none⟩)) (W':=W) rfl ?_ (hK.out _ _ (hI.pure (by decide) (fun v' h=>by cases h; rfl)));go_simp}
 refine StepsInv.cons2 _ rfl (fun d u W K' hs hI hd hw hK=> ?_) ?_
 {have d9:u 9= .pointer (some ⟨gm,0,none⟩):=hI.vals 9 (hw 9 (by kernel_rfl)) _ rfl;refine Z02 (v:= .pointer (some ⟨gm,0,none⟩)) (W':=W) rfl ?_ (hK.out _ _ (hI.pure (by decide) (fun v' h=>by cases h; rfl)));go_simp}
 refine StepsInv.cons2 _ rfl (fun d u W K' hs hI hd hw hK=> ?_) ?_
 {have d10:u 10= .pointer (some ⟨gm,0,none⟩):=hI.vals 10 (hw 10 (by kernel_rfl)) _ rfl;refine Z02 (v:= .pointer (some ⟨gm,4,none⟩)) (W':=W) rfl ?_ (hK.out _ _ (hI.pure (by decide) (fun v' h=>by cases h; rfl)));go_simp}
 refine StepsInv.cons2 _ rfl (fun d u W K' hs hI hd hw hK=> ?_) ?_
 {have d11:u 11= .pointer (some ⟨gm,4,none⟩):=hI.vals 11 (hw 11 (by kernel_rfl)) _ rfl;have h21:d 21=false:=Za2 hs rfl (by kernel_rfl) hd;have c4:=hI.c4;rw[h21] at c4;simp only[Bool.false_eq_true,if_false] at c4;change W.cell? ⟨gm,4,none⟩=_ at c4;refine Z02 (v:= .slice AP l.length cP) (W':=W) rfl ?_ (hK.out _ _ (hI.pure (by decide) (fun v' h=>by cases h; rfl)));go_simp}
 refine StepsInv.cons2 _ rfl (fun d u W K' hs hI hd hw hK=> ?_) ?_
 {obtain ⟨b0,b1,b2,b3,b4⟩:=hI.box HX.out;simp only[Nat.zero_add] at b0 b1 b2 b3 b4;change W.cell? ⟨pb,0,none⟩=some (.int .i64 t.kind) at b0;change W.cell? ⟨pb,1,none⟩=some (.string ⟨t.of_.toArray⟩) at b1;change W.cell? ⟨pb,2,none⟩=some (.string ⟨t.name.toArray⟩) at b2;change W.cell? ⟨pb,3,none⟩=some (.slice q.A t.names.length q.c) at b3;change W.cell? ⟨pb,4,none⟩=some (.slice q.P t.parts.length q.d) at b4;refine Z02 (v:= .agg (Y8 t q)) (W':=W) rfl ?_ (hK.out _ _ (hI.pure (by decide) (fun v' h=>by cases h; rfl)));go_simp}
 refine StepsInv.cons2 _ rfl (fun d u W K' hs hI hd hw hK=> ?_) ?_
 {have d13:u 13= .agg (Y8 t q):=hI.vals 13 (hw 13 (by kernel_rfl)) _ rfl;refine Z02 (v:= .slice (some ⟨W.heap.size,0,none⟩) 1 1) (W':=W.alloc (.cells (Y8 t q) 25)) rfl ?_ (hK.out _ _ (hI.s14 HX.out));go_simp}
 refine StepsInv.cons2 _ rfl (fun d u W K' hs hI hd hw hK=> ?_) ?_
 {have d12:u 12= .slice AP l.length cP:=hI.vals 12 (hw 12 (by kernel_rfl)) _ rfl;obtain ⟨z,d14,z1,z2,z3⟩:=hI.f14 (hw 14 (by kernel_rfl));have h18:d 18=false:=Za2 hs rfl (by kernel_rfl) hd;have h21:d 21=false:=Za2 hs rfl (by kernel_rfl) hd;have hll:=HX.out.ll;have hsz:=hI.up.size;have hpw:=HX.out.pw;have hhw:=HX.out.hw;refine step_append_lies W rfl _ _ 23 rfl hi 25 i0 (.agg #[.int .i64 0,.string ByteArray.empty,.string ByteArray.empty,.slice none 0 0,.slice none 0 0]) 5 88 Tryd.underlying23 hif0 hz0 hs0 hb0 rfl (by decide) _ _ _ (by show u 12=_; exact d12) (hI.p0 hd) ⟨z,0,none⟩ 1 1 (Za9 (t,q)) (by show u 14=_; exact d14) rfl (fun j v hv=>by rw[Z1z,Nat.zero_add]; exact z3 j v hv) (Zbh _) (by decide) (by show l.length+1<=maxLen; unfold maxLen; change l.length<=1000 at hll; omega) (by show (l.length+1) * 88<=140737488355328; change l.length<=1000 at hll; omega) (by change hi<=pb at hhw; change pb < w1.heap.size at hpw; change w1.heap.size<=_ at hsz; omega) _ rfl ?_;intro g cp W' hown hg hat hlt;rw[Zau] at hg hat;exact hK.out _ _ (hI.s15 HX.out (hw 8 (by kernel_rfl)) hd h18 h21 hown hg hat)}
 refine StepsInv.cons2 _ rfl (fun d u W K' hs hI hd hw hK=> ?_) ?_
 {have d0:u 0= .pointer (some ⟨gm,0,none⟩):=hI.vals 0 (hw 0 (by kernel_rfl)) _ rfl;refine Z02 (v:= .pointer (some ⟨gm,0,none⟩)) (W':=W) rfl ?_ (hK.out _ _ (hI.pure (by decide) (fun v' h=>by cases h; rfl)));go_simp}
 refine StepsInv.cons2 _ rfl (fun d u W K' hs hI hd hw hK=> ?_) ?_
 {have d16:u 16= .pointer (some ⟨gm,0,none⟩):=hI.vals 16 (hw 16 (by kernel_rfl)) _ rfl;refine Z02 (v:= .pointer (some ⟨gm,3,none⟩)) (W':=W) rfl ?_ (hK.out _ _ (hI.pure (by decide) (fun v' h=>by cases h; rfl)));go_simp}
 refine StepsInv.cons2 _ rfl (fun d u W K' hs hI hd hw hK=> ?_) ?_
 {have d17:u 17= .pointer (some ⟨gm,3,none⟩):=hI.vals 17 (hw 17 (by kernel_rfl)) _ rfl;have w8:=hw 8 (by kernel_rfl);have w15:=hw 15 (by kernel_rfl);obtain ⟨g,c,e,_⟩:=hI.n1 w8;change u 8= .slice (some ⟨g,0,none⟩) (nl.length+1) c at e;have hst:=hI.sto HX.out w8 w15 18 3 (by decide) hd;have cc:=hI.c3;rw[hd] at cc;simp only[Bool.false_eq_true,if_false] at cc;change W.cell? ⟨gm,3,none⟩=_ at cc;have hfz:=hI.fz 3;change W.frozen? ⟨gm,3,none⟩=_ at hfz;rw[if_pos rfl,e] at hst;change PX.PI _ _ _ (W.setCell ⟨gm,3,none⟩ _) at hst;refine Z8i (W':=W.setCell ⟨gm,3,none⟩ (.slice (some ⟨g,0,none⟩) (nl.length+1) c)) rfl ?_ (hK.out undef _ hst);go_simp}
 refine StepsInv.cons2 _ rfl (fun d u W K' hs hI hd hw hK=> ?_) ?_
 {have d1:u 1= .pointer (some ⟨gm,0,none⟩):=hI.vals 1 (hw 1 (by kernel_rfl)) _ rfl;refine Z02 (v:= .pointer (some ⟨gm,0,none⟩)) (W':=W) rfl ?_ (hK.out _ _ (hI.pure (by decide) (fun v' h=>by cases h; rfl)));go_simp}
 refine StepsInv.cons2 _ rfl (fun d u W K' hs hI hd hw hK=> ?_) ?_
 {have d19:u 19= .pointer (some ⟨gm,0,none⟩):=hI.vals 19 (hw 19 (by kernel_rfl)) _ rfl;refine Z02 (v:= .pointer (some ⟨gm,4,none⟩)) (W':=W) rfl ?_ (hK.out _ _ (hI.pure (by decide) (fun v' h=>by cases h; rfl)));go_simp}
 refine StepsInv.cons2 _ rfl (fun d u W K' hs hI hd hw hK=> ?_) StepsInv.nil
 {have d20:u 20= .pointer (some ⟨gm,4,none⟩):=hI.vals 20 (hw 20 (by kernel_rfl)) _ rfl;have w8:=hw 8 (by kernel_rfl);have w15:=hw 15 (by kernel_rfl);obtain ⟨g,c,e,_⟩:=hI.p1 w15;change u 15= .slice (some ⟨g,0,none⟩) (l.length+1) c at e;have hst:=hI.sto HX.out w8 w15 21 4 (by decide) hd;have cc:=hI.c4;rw[hd] at cc;simp only[Bool.false_eq_true,if_false] at cc;change W.cell? ⟨gm,4,none⟩=_ at cc;have hfz:=hI.fz 4;change W.frozen? ⟨gm,4,none⟩=_ at hfz;rw[if_neg (by decide),e] at hst;change PX.PI _ _ _ (W.setCell ⟨gm,4,none⟩ _) at hst;refine Z8i (W':=W.setCell ⟨gm,4,none⟩ (.slice (some ⟨g,0,none⟩) (l.length+1) c)) rfl ?_ (hK.out undef _ hst);go_simp}
 {intro d u W hI hd;have h8:=hd 8 (by show 8 < 22; omega);have h15:=hd 15 (by show 15 < 22; omega);have c3:=hI.c3;have c4:=hI.c4;rw[hd 18 (by show 18 < 22; omega)] at c3;rw[hd 21 (by show 21 < 22; omega)] at c4;obtain ⟨g,c,e,r,n⟩:=hI.n1 h8;obtain ⟨g',c',e',r',n',m'⟩:=hI.p1 h15;have hu:=hI.up;have hcr:=hI.cr;have hfz:=hI.fz;simp only[if_true] at c3 c4;rw[e] at c3;rw[e'] at c4;have hgg:=m' g _ _ e;change rowB AN=some g\/w1.heap.size<=g at n;change rowB AP=some g'\/w1.heap.size<=g' at n';have HFIN:Hid (Mk w0 gm hi k o nmm (nl++ [nm]) (l++ [(t,q)]) (some ⟨g,0,none⟩) c (some ⟨g',0,none⟩) c' W/\PutOk W0 gm AN AP (some ⟨g,0,none⟩) (some ⟨g',0,none⟩) W):=Y1 (by
   have hz:=HBW.out.size;have hm:=HM.out;have hrl: ∀b,(b=gm\/rowB AN=some b\/rowB AP=some b)->w0.heap.size<=b:=fun b hb=>by
    rcases hb with rfl | hb | hb
    {exact hm.lo}
    {have:=(Za0 hm.rN b hb).1; have:=hm.lo; have:=hm.gh; omega}
    {have:=(Za0 hm.rP b hb).1; have:=hm.lo; have:=hm.gh; omega}
   refine ⟨⟨hm.up.trans (hu.below hm.up.size hrl),hm.lo,hm.gh,Nat.le_trans hm.hw hu.size,(hcr 0 (by omega)).trans hm.c0,(hcr 1 (by omega)).trans hm.c1,(hcr 2 (by omega)).trans hm.c2, ?_, ?_,hfz, ?_, ?_,Or.inr (fun e=>hgg (by simpa[rowB] using e))⟩,⟨?_, ?_, ?_⟩⟩
   {rw[List.length_append]; exact c3}
   {rw[List.length_append]; exact c4}
   {rw[List.length_append,ZaX]; exact r}
   {rw[List.length_append,Zaf,Zan]; exact r'}
   {exact (Upd.new HBW.out).trans hu}
   {intro b hb;obtain rfl:g=b:=by simpa[rowB] using hb
    exact n.imp id (fun h=>by omega)}
   · intro b hb
     obtain rfl:g'=b:=by simpa[rowB] using hb
     exact n'.imp id (fun h=>by omega))
  clear hI hd h8 h15 c3 c4 e r n e' r' n' m' hu hcr hfz hgg;go_wp2;refine bodyPost_end (v:= .tuple #[]) (by simp[results,Tryd.results68,go_sem]) rfl ?_;exact ⟨rfl,_,_,_,_,HFIN.out⟩}
end SubM
end Go.Proofs.YthajhofgjhfjeaaDoor
namespace Go.Proofs.YthajhofgjhfjeaaDoor
open Go.RowKit Shp Sub
namespace SubM
structure TakesP (n0 N:Nat) (a b:Sh) (fn:Nat) (cs:List Value) (step:Nat->Bool) (K:Bool->Nat->World->Prop):Prop where
 keep: ∀ok k W W',K ok k W->Upd (fun x=>N<=x/\x < N+2) W W'->K ok k W'
 call: ∀k (hk:k < a.parts.length) (hk2:k < b.parts.length) W (x y:Ptr),N+2<=W.heap.size->K true k W->ShAt W n0 x (a.parts[k]'hk)->ShAt W n0 y (b.parts[k]'hk2)->
  Calls Tryd.prog fn (sv (a.parts[k]'hk) x::sv (b.parts[k]'hk2) y:: .bool (decide (k+1=a.parts.length))::cs).toArray W fun e W'=>e= .returned (.bool (step k))/\K (step k) (k+1) W'/\Upd (fun x=>n0<=x/\ ¬(N<=x/\x < N+2)) W W'
structure P2 (n0 N:Nat) (a b:Sh) (pa pb:Ptr) (w:World) (K:Bool->Nat->World->Prop) (k:Nat) (W:World):Prop where
 ba:Box5 W N a pa
 bb:Box5 W (N+1) b pb
 up:Upd (fun x=>n0<=x) w W
 sz:N+2<=W.heap.size
 k:K true k W
section
variable {n0 : Nat} {a b : Sh} {pa pb : Ptr} {w : World} {K : Bool -> Nat -> World -> Prop} {k : Nat} {W W' : World} {fn : Nat} {cs : List Value} {step : Nat -> Bool}
theorem P2.upd (h:P2 n0 w.heap.size a b pa pb w K k W) (hn:n0<=w.heap.size) (hu:Upd (fun x=>n0<=x/\ ¬(w.heap.size<=x/\x < w.heap.size+2)) W W') {k':Nat} (hk:K true k' W'):P2 n0 w.heap.size a b pa pb w K k' W':=
 ⟨Zal h.ba hu (by omega),Zal h.bb hu (by omega),h.up.trans (hu.mono (fun x _ hx=>hx.1)),Nat.le_trans h.sz hu.size,hk⟩
theorem P2.new (h:P2 n0 w.heap.size a b pa pb w K k W) (hT:TakesP n0 w.heap.size a b fn cs step K) (hn:n0<=w.heap.size) (hb:Below W.heap.size W W'):P2 n0 w.heap.size a b pa pb w K k W':=
 h.upd hn (Upd.new hb) (hT.keep _ _ _ _ h.k (Upd.new hb))
end
def headEq (a b:Sh):Bool:=decide (a.of_=b.of_/\a.name=b.name/\a.parts.length=b.parts.length)
theorem ZaQ (a b:Sh) (pa pb:Ptr) (n0:Nat) (w:World) (ha:ShAt w n0 pa a) (hb:ShAt w n0 pb b) (hn:n0<=w.heap.size) (la:a.parts.length<=1000)
 (fn:Nat) (hen: ∀args W,(callFunc fn args).run Tryd.prog W= .ok (.enter fn args) W) (cs:List Value) (step:Nat->Bool) (K:Bool->Nat->World->Prop)
 (hT:TakesP n0 w.heap.size a b fn cs step K) (h0:K true 0 w):
 Calls Tryd.prog 36 #[sv a pa,sv b pb,.func (.func fn) #[] cs.toArray] w fun e w'=>e= .returned (.bool (headEq a b&&(List.range a.parts.length).all step))/\
  (∃D,K (!headEq a b||(List.range a.parts.length).all step) D w'/\((headEq a b&&(List.range a.parts.length).all step)=true->D=a.parts.length))/\Upd (fun x=>n0<=x) w w':=by
 obtain ⟨Aa,ca,Pa,da⟩:=pa;obtain ⟨Ab,cb,Pb,db⟩:=pb;have hb1:=Z01 w (.cells #[.int .i64 a.kind,.string ⟨a.of_.toArray⟩,.string ⟨a.name.toArray⟩,.slice Aa a.names.length ca,.slice Pa a.parts.length da] 25);obtain ⟨w1,hw1⟩: ∃w1,w1=w.alloc (.cells #[.int .i64 a.kind,.string ⟨a.of_.toArray⟩,.string ⟨a.name.toArray⟩,.slice Aa a.names.length ca,.slice Pa a.parts.length da] 25):=⟨_,rfl⟩;have hb2:=Z01 w1 (.cells #[.int .i64 b.kind,.string ⟨b.of_.toArray⟩,.string ⟨b.name.toArray⟩,.slice Ab b.names.length cb,.slice Pb b.parts.length db] 25);obtain ⟨w2,hw2⟩: ∃w2,w2=w1.alloc (.cells #[.int .i64 b.kind,.string ⟨b.of_.toArray⟩,.string ⟨b.name.toArray⟩,.slice Ab b.names.length cb,.slice Pb b.parts.length db] 25):=⟨_,rfl⟩;have hs1:w1.heap.size=w.heap.size+1:=by rw[hw1]; simp
 have hs2:w2.heap.size=w.heap.size+2:=by rw[hw2]; simp[hs1]
 rw[<-hw1] at hb1;rw[<-hw2] at hb2;have hB1:Box5 w1 w.heap.size a ⟨Aa,ca,Pa,da⟩:=by rw[hw1]; exact Z03 w a ⟨Aa,ca,Pa,da⟩
 have hB2:Box5 w2 w1.heap.size b ⟨Ab,cb,Pb,db⟩:=by rw[hw2]; exact Z03 w1 b ⟨Ab,cb,Pb,db⟩
 have hBA:=hB1.next hb2;rw[hs1] at hB2;have hU:Upd (fun x=>w.heap.size<=x/\x < w.heap.size+2) w w2:=Upd.new (Z00 hb1 hb2);have hP2:P2 n0 w.heap.size a b ⟨Aa,ca,Pa,da⟩ ⟨Ab,cb,Pb,db⟩ w K 0 w2:=⟨hBA,hB2,hU.mono (fun x _ h=>by omega),by omega,hT.keep _ _ _ _ h0 hU⟩;have HP2:=Y1 hP2;have HSA:=Y1 ha;have HSB:=Y1 hb;have HN:=Y1 hn;have HLA:=Y1 la;have HT:=Y1 hT;have ns:=ha.small;have nt:=hb.small;have o1:=ns.o;have o2:=ns.n;have o3:=nt.o;have o4:=nt.n;obtain ⟨_,⟨a0,a1,a2,a3,a4⟩,_⟩:=hBA;obtain ⟨_,⟨b0,b1,b2,b3,b4⟩,_⟩:=hB2;simp only[Nat.zero_add] at a0 a1 a2 a3 a4 b0 b1 b2 b3 b4;have hw1':=hw1.symm;have hw2':=hw2.symm;clear hw1 hw2 hb1 hb2 hB1 hP2 hU ha hb hn la hT h0 ns nt;unfold sv
 try dsimp only
 cases hh:headEq a b with
 | false=>
  have HF:Hid ((∃D,K (!false||(List.range a.parts.length).all step) D w2/\((false&&(List.range a.parts.length).all step)=true->D=a.parts.length))/\Upd (fun x=>n0<=x) w w2):=Y1 ⟨⟨0,HP2.out.k,nofun⟩,HP2.out.up⟩;clear HP2 HSA HSB HN HLA HT;have hh': ¬(a.of_=b.of_/\a.name=b.name/\a.parts.length=b.parts.length):=of_decide_eq_false hh;clear hh;by_cases e1:a.of_=b.of_
  {by_cases e2:a.name=b.name
   {have e3:a.parts.length≠b.parts.length:=fun e=>hh' ⟨e1,e2,e⟩;have n1: (a.of_ !=b.of_)=false:=by rw[e1]; simp
    have m1: (a.of_==b.of_)=true:=by rw[e1]; simp
    have n2: (a.name !=b.name)=false:=by rw[e2]; simp
    have m2: (a.name==b.name)=true:=by rw[e2]; simp
    have n3: ((a.parts.length:Int) !=(b.parts.length:Int))=true:=by simp; omega
    have m3: ((a.parts.length:Int)==(b.parts.length:Int))=false:=by simp; omega
    clear e1 e2 e3 hh';go_enter Tryd.func36,Tryd.ntmps36;go_wp2;go_ret;exact ⟨rfl,HF.out⟩}
   {have n1: (a.of_ !=b.of_)=false:=by rw[e1]; simp
    have m1: (a.of_==b.of_)=true:=by rw[e1]; simp
    have n2: (a.name !=b.name)=true:=by simpa using e2
    have m2: (a.name==b.name)=false:=by simpa using e2
    clear e1 e2 hh';go_enter Tryd.func36,Tryd.ntmps36;go_wp2;go_ret;exact ⟨rfl,HF.out⟩}}
  {have n1: (a.of_ !=b.of_)=true:=by simpa using e1
   have m1: (a.of_==b.of_)=false:=by simpa using e1
   clear e1 hh';go_enter Tryd.func36,Tryd.ntmps36;go_wp2;go_ret;exact ⟨rfl,HF.out⟩}
 | true=>
  obtain ⟨e1,e2,e3⟩:a.of_=b.of_/\a.name=b.name/\a.parts.length=b.parts.length:=of_decide_eq_true hh;have HE3:=Y1 e3;have n1: (a.of_ !=b.of_)=false:=by rw[e1]; simp
  have m1: (a.of_==b.of_)=true:=by rw[e1]; simp
  have n2: (a.name !=b.name)=false:=by rw[e2]; simp
  have m2: (a.name==b.name)=true:=by rw[e2]; simp
  have n3: ((a.parts.length:Int) !=(b.parts.length:Int))=false:=by rw[e3]; simp
  have m3: ((a.parts.length:Int)==(b.parts.length:Int))=true:=by rw[e3]; simp
  simp only[Bool.true_and,Bool.not_true,Bool.false_or];clear e1 e2 e3 hh;obtain ⟨st,hst⟩: ∃st,st=(List.range a.parts.length).all step:=⟨_,rfl⟩;have HST:=Y1 hst;rw[<-hst];clear hst;go_enter Tryd.func36,Tryd.ntmps36
  go_wp2_with fail
  go_loopw [33] (fun ii wr=> ∃k:Nat,k<=a.parts.length/\ii= .int .i64 (k:Int)/\Hid ((List.range k).all step=true)/\Hid (P2 n0 w.heap.size a b ⟨Aa,ca,Pa,da⟩ ⟨Ab,cb,Pb,db⟩ w K k wr)) (fun i _=>a.parts.length - (intOf i).toNat)
  case atStart=>exact ⟨0,Nat.zero_le _,rfl,Y1 (by simp),HP2⟩
  case round=>
   obtain ⟨k,hk,rfl,HSS,HP⟩:=hrel;have hla:=HLA.out;clear a0 a1 a2 a3 a4 b0 b1 b2 b3 b4 n1 n2 n3 m1 m2 m3 o1 o2 o3 o4;by_cases hlt:k < a.parts.length
   {have hi1: (k:Int) < (a.parts.length:Int):=by omega
    have hk2:k < b.parts.length:=by rw[<-HE3.out]; exact hlt
    have hi2: (k:Int) < (b.parts.length:Int):=by omega
    have hn0:=HN.out;have hpa:=ZaS (Za8 HSA.out hn0 HP.out.up (fun x hx hs=>by omega));have hpb:=ZaS (Za8 HSB.out hn0 HP.out.up (fun x hx hs=>by omega));obtain ⟨ga,oa,ra,hpa⟩:=hpa;obtain ⟨gb,ob,rb,hpb⟩:=hpb;rcases hpa with h | ⟨rfl,hga,h5a⟩
    {omega}
    rcases hpb with h | ⟨rfl,hgb,h5b⟩
    {omega}
    obtain ⟨p,hp⟩: ∃p,p=a.parts[k]'hlt:=⟨_,rfl⟩;obtain ⟨q,hq⟩: ∃q,q=b.parts[k]'hk2:=⟨_,rfl⟩;obtain ⟨⟨x0,x1,x2,x3,x4⟩,hsx⟩:=h5a k hlt;obtain ⟨⟨y0,y1,y2,y3,y4⟩,hsy⟩:=h5b k hk2;have hwn:n0<=wr.heap.size:=by have:=HP.out.up.size; omega
    have hcall:=HT.out.call k hlt hk2;rw[<-hp] at x0 x1 x2 x3 x4 hsx hcall;rw[<-hq] at y0 y1 y2 y3 y4 hsy hcall;have HC:=Y1 hcall;have HWN:=Y1 hwn;have HSX:=Y1 hsx;have HSY:=Y1 hsy;have hbw:=Z01 wr (.cells (Y8 p (ra k)) 25);have HPN:=Y1 (HP.out.new HT.out hn0 hbw.drew);have HBW:=Y1 hbw;have HBX:=Y1 (Z03 wr p (ra k));obtain ⟨_,⟨a0,a1,a2,a3,a4⟩,_⟩:=HP.out.ba.next hbw;obtain ⟨_,⟨b0,b1,b2,b3,b4⟩,_⟩:=HP.out.bb.next hbw;obtain ⟨_,⟨c0,c1,c2,c3,c4⟩,_⟩:=HBX.out;have hgaW:ga < wr.heap.size:=by omega
    have hgbW:gb < wr.heap.size:=by omega
    have hwW:w.heap.size+1 < wr.heap.size:=by have:=HP.out.sz; omega
    simp only[Nat.zero_add] at a0 a1 a2 a3 a4 b0 b1 b2 b3 b4 c0 c1 c2 c3 c4;obtain ⟨y0,y1,y2,y3,y4⟩:=(show Sh5 wr gb (ob+k * 5) q (rb k) from ⟨y0,y1,y2,y3,y4⟩).keep hgbW hbw;obtain ⟨w3,hw3⟩: ∃w3,w3=wr.alloc (.cells (Y8 p (ra k)) 25):=⟨_,rfl⟩;rw[<-hw3] at hbw HPN HBW HBX a0 a1 a2 a3 a4 b0 b1 b2 b3 b4 c0 c1 c2 c3 c4 y0 y1 y2 y3 y4;have hw3':=hw3.symm;clear hw3 hcall hsx hsy hwn hp hq h5a h5b hbw
    go_wp2_with fail
    go_still_tail 13,(by kernel_rfl)
    change wpList _ _ _ _ _ w3.drew
    go_wp2_with fail
    rw[show ((k:Int)==(a.parts.length:Int) - 1)=decide (k+1=a.parts.length) from by rw[Bool.eq_iff_iff,beq_iff_eq,decide_eq_true_eq]; omega];have hu3:Upd (fun x=>n0<=x/\ ¬(w.heap.size<=x/\x < w.heap.size+2)) wr w3.drew:=Upd.new HBW.out.drew;refine (HC.out w3.drew (ra k) (rb k) HPN.out.sz HPN.out.k (Za8 HSX.out HWN.out hu3 (fun x h1 h2=>by omega)) (Za8 HSY.out HWN.out hu3 (fun x h1 h2=>by omega))).mono ?_;rintro e W2 ⟨rfl,hk2',hu2⟩;have HK2:=Y1 hk2';have HU2:=Y1 hu2;clear hk2' hu2 hu3 HC a0 a1 a2 a3 a4 b0 b1 b2 b3 b4 c0 c1 c2 c3 c4 y0 y1 y2 y3 y4 x0 x1 x2 x3 x4;cases hs:step k with
    | false=>
     have HALL:Hid (st=false):=Y1 (by
      rw[HST.out,Bool.eq_false_iff];intro h;have:=List.all_eq_true.1 h k (List.mem_range.2 hlt);rw[hs] at this; cases this)
     rw[hs] at HK2;clear hs;go_wp2;go_ret;rw[HALL.out];exact ⟨rfl,⟨_,HK2.out,nofun⟩,HPN.out.up.trans (HU2.out.mono (fun x _ h=>h.1))⟩
    | true=>
     rw[hs] at HK2;have HP4:=Y1 (HPN.out.upd HN.out HU2.out HK2.out);have HSS2:Hid ((List.range (k+1)).all step=true):=Y1 (by rw[List.range_succ,List.all_append,HSS.out]; simp[hs]);clear hs HK2 HU2;go_wp2
     go_roundw
     case rel=>exact ⟨k+1,by omega,by go_num,HSS2,HP4⟩
     case measure=>simp[intOf]; omega}
   {obtain rfl:k=a.parts.length:=by omega
    have hi1: ¬(a.parts.length:Int) < (a.parts.length:Int):=by omega
    have HALL:Hid (st=true):=Y1 (by rw[HST.out]; exact HSS.out);clear HSS;go_wp2;go_ret;rw[HALL.out];exact ⟨rfl,⟨_,HP.out.k,fun _=>rfl⟩,HP.out.up⟩}
end SubM
end Go.Proofs.YthajhofgjhfjeaaDoor
namespace Go.Proofs.YthajhofgjhfjeaaDoor
section
open Go.RowKit
theorem Z0V {P:Program} (w:World) {ops:Array Oper} {rest:List Oper} {o:Oper} {a:Act} {Q:Exit->Act->World->Prop} (hgd:Region.wanted o (yielded ops a.tmps)=true) (s x:Operand) (t:TypeId)
 (ho:o.op= .call { callee:= .builtin .append,args:=#[s,x],argTypes:=#[t,t] })
 (base:Nat) (e:TypeId) (i:TypeInfo) (z:Value) (size bytes:Nat) (ht:P.underlying t=some (.slice e)) (hi:P.info? e=some i) (hz:i.zero=some z)
 (hsize:i.size=size) (hby:i.bytes=bytes) (hzs:z.cells.size=size) (hsz:0 < size)
 (v:Value) (n:Nat) (xs:List Value) (hs:a.eval s=v) (hown:w.ownsRow base e size v n xs)
 (A:Option Addr) (m c:Nat) (news:List Value) (hx:a.eval x= .slice A m c) (hA:A=none->m=0/\c=0) (hl:news.length=m * size)
 (hnews: ∀ad,A=some ad-> ∀j u,news[j]? =some u->w.cell? (ad.add j)=some u) (h1: ∀u∈news,u.oneCell'=true)
 (h63:n+m<=maxLen) (hbytes: (n+m) * bytes<=140737488355328) (hbase:base<=w.heap.size)
 (h: ∀v' w',w'.ownsRow base e size v' (n+m) (xs++news)->Below base w w'->wpList P ops Q rest (a.put o.dst v') w'):wpList P ops Q (o::rest) a w:=by
 refine wpList_step fun K hK=> ?_;rw[if_pos hgd]
 match A,hA,hnews,hx with
 | some ad,_,hnews,hx=>
  exact wp_append_own w s x t ho base e i z size bytes ht hi hz hsize hby hzs hsz v n xs hs hown ad m c news hx hl (hnews ad rfl) h1 h63 hbytes hbase
   fun v' w' h2 h3 _=>hK _ _ (h v' w' h2 (Y2.grown h3 hbase (fun k hk=>(hown.lt k hk).1)))
 | none,hA,_,hx=>
  obtain ⟨rfl,rfl⟩:=hA rfl;obtain rfl:news= []:=List.eq_nil_of_length_eq_zero (by rw[hl,Nat.zero_mul]);have hr:=run_append_owned_none (P:=P) (w:=w) base t o.type e i size ht hi v n xs hown;unfold Oper.wp execOp;simp only[ho,resolve,invoke,builtin,Sem.run_bind,Sem.run_pure,Result.andThen_ok,List.map_toArray,List.map_cons,List.map_nil,hs,hx,hr];exact hK _ _ (h v w (by rw[List.append_nil]; exact hown) Y2)
end
section
open Go.RowKit Shp
structure PaR (W:World) (b:Nat) (ps:List Sh) (qs:Nat->Ptr):Prop where
 lt:b < W.heap.size
 at_: ∀i (h:i < ps.length),Sh5 W b (i * 5) (ps[i]'h) (qs i)
 fz: ∀k,W.frozen? ⟨b,k,none⟩=false
def Z0i (W W':World) (b:Nat):Prop:=(∀k,W'.cell? ⟨b,k,none⟩=W.cell? ⟨b,k,none⟩)/\ ∀k,W'.frozen? ⟨b,k,none⟩=W.frozen? ⟨b,k,none⟩
theorem PaR.of {W W':World} {b:Nat} {ps:List Sh} {qs:Nat->Ptr} (h:PaR W b ps qs) (hs:Z0i W W' b) (hz:W.heap.size<=W'.heap.size):PaR W' b ps qs:=
 ⟨Nat.lt_of_lt_of_le h.lt hz,fun i hi=>(h.at_ i hi).of hs.1,fun k=>(hs.2 k).trans (h.fz k)⟩
theorem TxR.of {W W':World} {b:Nat} {ts:List (List UInt8)} (h:TxR W b ts) (hs:Z0i W W' b) (hz:W.heap.size<=W'.heap.size):TxR W' b ts:=
 ⟨Nat.lt_of_lt_of_le h.lt hz,fun i hi=>(hs.1 i).trans (h.at_ i hi),fun k=>(hs.2 k).trans (h.fz k)⟩
inductive Own (W:World):Ptr->Sh->List Nat->Prop
 | mk (q:Ptr) (t:Sh) (F FN FP:List Nat) (qs:Nat->Ptr) (Fs:Nat->List Nat) (hs:Small t q)
  (hn:t.names.length=0/\FN= []\/ ∃b,q.A=some ⟨b,0,none⟩/\FN= [b]/\TxR W b t.names)
  (hp:t.parts.length=0/\FP= []\/ ∃b,q.P=some ⟨b,0,none⟩/\FP= [b]/\PaR W b t.parts qs)
  (hr: ∀i (h:i < t.parts.length),Own W (qs i) (t.parts[i]'h) (Fs i)) (hF:F=FN++FP++(List.range t.parts.length).flatMap Fs):Own W q t F
section
variable {W : World} {q : Ptr} {t : Sh} {F : List Nat} (h : Own W q t F)
include W q t F h
theorem Own.small:Small t q:=by cases h; assumption
theorem Own.inv: ∃(FN FP:List Nat) (qs:Nat->Ptr) (Fs:Nat->List Nat),
 (t.names.length=0/\FN= []\/ ∃b,q.A=some ⟨b,0,none⟩/\FN= [b]/\TxR W b t.names)/\
 (t.parts.length=0/\FP= []\/ ∃b,q.P=some ⟨b,0,none⟩/\FP= [b]/\PaR W b t.parts qs)/\
 (∀i (h:i < t.parts.length),Own W (qs i) (t.parts[i]'h) (Fs i))/\F=FN++FP++(List.range t.parts.length).flatMap Fs:=by
 cases h with
 | mk _ _ _ FN FP qs Fs hs hn hp hr hF=>exact ⟨FN,FP,qs,Fs,hn,hp,hr,hF⟩
end
theorem Own.of {W W':World} {q:Ptr} {t:Sh} {F:List Nat} (h:Own W q t F) (hc: ∀b∈F,Z0i W W' b) (hz:W.heap.size<=W'.heap.size):Own W' q t F:=by
 induction h with
 | mk q t F FN FP qs Fs hs hn hp hr hF ih=>
  subst hF;refine .mk q t _ FN FP qs Fs hs ?_ ?_ ?_ rfl
  {rcases hn with h | ⟨b,h1,rfl,h3⟩
   {exact Or.inl h}
   {exact Or.inr ⟨b,h1,rfl,h3.of (hc b (by simp)) hz⟩}}
  {rcases hp with h | ⟨b,h1,rfl,h3⟩
   {exact Or.inl h}
   {exact Or.inr ⟨b,h1,rfl,h3.of (hc b (by simp)) hz⟩}}
  {intro i hi;refine ih i hi (fun b hb=>hc b ?_);refine List.mem_append_right _ (List.mem_flatMap.2 ⟨i,List.mem_range.2 hi,hb⟩)}
theorem Own.at_ {W:World} {q:Ptr} {t:Sh} {F:List Nat} {B:Nat} (h:Own W q t F) (hB: ∀b∈F,b < B):ShAt W B q t:=by
 induction h with
 | mk q t F FN FP qs Fs hs hn hp hr hF ih=>
  subst hF;have hS:Strs W B q.A (strs t.names):=by
   rcases hn with ⟨h,_⟩ | ⟨b,h1,rfl,h3⟩
   {exact Or.inl (by rw[Z10]; exact h)}
   {refine Or.inr ⟨b,0,h1,hB b (by simp),fun i hi=> ?_⟩;rw[Z10] at hi;rw[Nat.zero_add,h3.at_ i hi];simp[strs]}
  have hrr: ∀i (h:i < t.parts.length),ShAt W B (qs i) (t.parts[i]'h):=fun i hi=>ih i hi (fun b hb=>hB b (List.mem_append_right _ (List.mem_flatMap.2 ⟨i,List.mem_range.2 hi,hb⟩)));rcases hp with ⟨h,_⟩ | ⟨b,h1,rfl,h3⟩
  {exact .mk q t 0 0 qs hs hS (Or.inl h) (fun i hi=>absurd hi (by omega)) hrr}
  {exact .mk q t b 0 qs hs hS (Or.inr ⟨h1,hB b (by simp)⟩) (fun i hi=>by rw[Nat.zero_add]; exact h3.at_ i hi) hrr}
theorem Own.lt {W:World} {q:Ptr} {t:Sh} {F:List Nat} (h:Own W q t F): ∀b∈F,b < W.heap.size:=by
 induction h with
 | mk q t F FN FP qs Fs hs hn hp hr hF ih=>
  subst hF;intro b hb;rcases List.mem_append.1 hb with hb | hb
  {rcases List.mem_append.1 hb with hb | hb
   {rcases hn with ⟨_,rfl⟩ | ⟨c,_,rfl,h3⟩
    {cases hb}
    {rw[List.mem_singleton] at hb; subst hb; exact h3.lt}}
   {rcases hp with ⟨_,rfl⟩ | ⟨c,_,rfl,h3⟩
    {cases hb}
    {rw[List.mem_singleton] at hb; subst hb; exact h3.lt}}}
  {obtain ⟨i,hi,hb⟩:=List.mem_flatMap.1 hb;exact ih i (List.mem_range.1 hi) b hb}
def Node (W:World) (g i:Nat) (t:Sh) (F:List Nat):Prop:= ∃q,Sh5 W g (i * 5) t q/\Own W q t F
structure Nd where
 g:Nat
 i:Nat
 t:Sh
 q:Ptr
def Ready (r:Nat) (T:Sh) (L:List Nd) (D:List Nat) (W:World):Prop:=
 ∀(W':World) (Fs:Nat->List Nat),W.heap.size<=W'.heap.size->
  (∀b∈D,∀k,(∀n∈L,¬(n.g=b/\(k=n.i * 5+3\/k=n.i * 5+4)))->W'.cell? ⟨b,k,none⟩=W.cell? ⟨b,k,none⟩)->
  (∀b∈D,∀k,W'.frozen? ⟨b,k,none⟩=W.frozen? ⟨b,k,none⟩)->
  (∀j (h:j < L.length),Node W' (L[j]'h).g (L[j]'h).i (L[j]'h).t (Fs j))->
  (∀j,j < L.length-> ∀b∈Fs j,b∉D)->((List.range L.length).flatMap Fs).Nodup->
  ∃F,Node W' r 0 T F/\F.Nodup/\ ∀b∈F,b∈D\/ ∃j,j < L.length/\b∈Fs j
theorem Z5B (r:Nat) (T:Sh) (q:Ptr) (D:List Nat) (W:World):Ready r T [⟨r,0,T,q⟩] D W:=by
 intro W' Fs _ _ _ hN _ hnd;refine ⟨Fs 0,hN 0 (by simp),by simpa using hnd,fun b hb=>Or.inr ⟨0,by simp,hb⟩⟩
theorem Z6Q {r:Nat} {T:Sh} {D:List Nat} {W:World} (h:Ready r T [] D W): ∃F,Node W r 0 T F/\F.Nodup/\ ∀b∈F,b∈D:=by
 obtain ⟨F,h1,h2,h3⟩:=h W (fun _=> []) (Nat.le_refl _) (fun _ _ _ _=>rfl) (fun _ _ _=>rfl) (fun j hj=>absurd hj (by simp)) (fun j hj=>absurd hj (by simp)) (by simp);refine ⟨F,h1,h2,fun b hb=> ?_⟩;rcases h3 b hb with h | ⟨j,hj,_⟩
 {exact h}
 {exact absurd hj (by simp)}
theorem Ready.of {r:Nat} {T:Sh} {L:List Nd} {D:List Nat} {W W1:World} (h:Ready r T L D W) (hs: ∀b∈D,Z0i W W1 b) (hz:W.heap.size<=W1.heap.size):Ready r T L D W1:=
 fun W' Fs hz' hc hf hN hd hn=>h W' Fs (Nat.le_trans hz hz') (fun b hb k hx=>(hc b hb k hx).trans ((hs b hb).1 k)) (fun b hb k=>(hf b hb k).trans ((hs b hb).2 k)) hN hd hn
def kids (pb:Nat) (ps:List Sh) (qs:Nat->Ptr):List Nd:=ps.mapIdx fun i p=>⟨pb,i,p,qs i⟩
section
variable (pb : Nat) (ps : List Sh) (qs : Nat -> Ptr)
include pb ps qs
theorem Z0x: (kids pb ps qs).length=ps.length:=by simp[kids]
theorem Z1l (i:Nat) (h:i < (kids pb ps qs).length): (kids pb ps qs)[i]'h=⟨pb,i,ps[i]'(by rwa [Z0x] at h),qs i⟩:=by simp[kids]
end
theorem Z4M {pb:Nat} {ps:List Sh} {qs:Nat->Ptr} {n:Nd} (h:n∈kids pb ps qs):n.g=pb:=by
 obtain ⟨i,hi,rfl⟩:=List.getElem_of_mem h;rw[Z1l]
theorem Z4y {n m:Nat} (Fs:Nat->List Nat): (List.range (n+m)).flatMap Fs=(List.range n).flatMap Fs++(List.range m).flatMap (fun i=>Fs (n+i)):=by
 rw[List.range_add,List.flatMap_append,List.flatMap_map]
theorem Ready.step {r:Nat} {T:Sh} {L:List Nd} {a:Nd} {D DN DP:List Nat} {W W1:World} {q1:Ptr} {pb:Nat} {qs:Nat->Ptr} (hR:Ready r T (L++ [a]) D W) (hD: ∀b∈D,b < W.heap.size)
 (hag:a.g∈D) (hLg: ∀n∈L,n.g∈D) (hne: ∀n∈L,n.g=a.g->n.i≠a.i) (hsz:W.heap.size<=W1.heap.size) (ha:Sh5 W1 a.g (a.i * 5) a.t q1) (hs:Small a.t q1)
 (hk: ∀b∈D,∀k,¬(a.g=b/\(k=a.i * 5+3\/k=a.i * 5+4))->W1.cell? ⟨b,k,none⟩=W.cell? ⟨b,k,none⟩) (hf: ∀b∈D,∀k,W1.frozen? ⟨b,k,none⟩=W.frozen? ⟨b,k,none⟩)
 (hn:a.t.names.length=0/\DN= []\/ ∃b,q1.A=some ⟨b,0,none⟩/\DN= [b]/\W.heap.size<=b/\TxR W1 b a.t.names)
 (hp:a.t.parts.length=0/\DP= []\/q1.P=some ⟨pb,0,none⟩/\DP= [pb]/\W.heap.size<=pb/\pb∉DN/\PaR W1 pb a.t.parts qs):
 Ready r T (L++kids pb a.t.parts qs) (D++DN++DP) W1:=by
 intro W' Fs hsz' hcell hfr hN hdis hnd;have hlen: (L++kids pb a.t.parts qs).length=L.length+a.t.parts.length:=by rw[List.length_append,Z0x]
 have hpg: ∀n∈kids pb a.t.parts qs,a.t.parts.length≠0:=fun n hn h0=>by
  have:kids pb a.t.parts qs= []:=List.eq_nil_of_length_eq_zero (by rw[Z0x]; exact h0);rw[this] at hn; cases hn
 have hkid: ∀n∈kids pb a.t.parts qs,n.g=pb/\W.heap.size<=pb/\pb∉DN:=fun n hnm=>by
  rcases hp with ⟨h0,_⟩ | ⟨_,_,h3,h4,_⟩
  {exact absurd h0 (hpg n hnm)}
  {exact ⟨Z4M hnm,h3,h4⟩}
 have hDNb: ∀b∈DN,W.heap.size<=b:=fun b hb=>by
  rcases hn with ⟨_,rfl⟩ | ⟨c,_,rfl,h3,_⟩
  {cases hb}
  {rw[List.mem_singleton] at hb; subst hb; exact h3}
 have hDPb: ∀b∈DP,W.heap.size<=b/\b∉DN:=fun b hb=>by
  rcases hp with ⟨_,rfl⟩ | ⟨_,rfl,h3,h4,_⟩
  {cases hb}
  {rw[List.mem_singleton] at hb; subst hb; exact ⟨h3,h4⟩}
 have hDNn:DN.Nodup:=by
  rcases hn with ⟨_,rfl⟩ | ⟨c,_,rfl,_⟩ <;> simp
 have hDPn:DP.Nodup:=by
  rcases hp with ⟨_,rfl⟩ | ⟨_,rfl,_⟩ <;> simp
 let Fk:Nat->List Nat:=fun i=>Fs (L.length+i)
 let Fa:List Nat:=DN++DP++(List.range a.t.parts.length).flatMap Fk
 let Fs':Nat->List Nat:=fun j=>if j < L.length then Fs j else Fa
 rw[hlen] at hdis hnd;rw[Z4y] at hnd;have hnd':=List.nodup_append.1 hnd;have hdisD: ∀j,j < L.length+a.t.parts.length-> ∀b∈Fs j,b∉D/\b∉DN/\b∉DP:=fun j hj b hb=>by
  have:=hdis j hj b hb;simp only[List.mem_append,not_or] at this;exact ⟨this.1.1,this.1.2,this.2⟩
 -- the place that was copied
 have hkn: ∀i (h:i < a.t.parts.length),Node W' pb i (a.t.parts[i]'h) (Fk i):=fun i hi=>by
  have h1:=hN (L.length+i) (by rw[hlen]; omega);have e: (L++kids pb a.t.parts qs)[L.length+i]'(by rw[hlen]; omega)=⟨pb,i,a.t.parts[i]'hi,qs i⟩:=by
   rw[List.getElem_append_right (by omega)];simp only[Nat.add_sub_cancel_left];exact Z1l _ _ _ _ _
  rw[e] at h1;exact h1
 have hqk: ∃qk:Nat->Ptr,∀i (h:i < a.t.parts.length),Sh5 W' pb (i * 5) (a.t.parts[i]'h) (qk i)/\Own W' (qk i) (a.t.parts[i]'h) (Fk i):=by
  refine ⟨fun i=>if h:i < a.t.parts.length then (hkn i h).choose else ⟨none,0,none,0⟩,fun i h=> ?_⟩;simp only[dif_pos h];exact (hkn i h).choose_spec
 obtain ⟨qk,hqk⟩:=hqk;have hexc: ∀b∈D,∀k,(∀n∈L,¬(n.g=b/\(k=n.i * 5+3\/k=n.i * 5+4)))->W'.cell? ⟨b,k,none⟩=W1.cell? ⟨b,k,none⟩:=fun b hb k hx=>by
  refine hcell b (by simp[hb]) k (fun n hnm=> ?_);rcases List.mem_append.1 hnm with h | h
  {exact hx n h}
  {intro ⟨h1,_⟩;have h2:=hkid n h;have:=hD b hb;omega}
 have hNa:Node W' a.g a.i a.t Fa:=by
  refine ⟨q1, ?_,.mk q1 a.t Fa DN DP qk Fk hs ?_ ?_ (fun i hi=>(hqk i hi).2) rfl⟩
  {have e: ∀c,c < 5->W'.cell? ⟨a.g,a.i * 5+c,none⟩=W1.cell? ⟨a.g,a.i * 5+c,none⟩:=fun c hc=>hexc a.g hag _ (fun n hnm ⟨h1,h2⟩=>by
    have:=hne n hnm h1;omega)
   obtain ⟨h0,h1,h2,h3,h4⟩:=ha;exact ⟨(e 0 (by omega)).trans h0,(e 1 (by omega)).trans h1,(e 2 (by omega)).trans h2,(e 3 (by omega)).trans h3,(e 4 (by omega)).trans h4⟩}
  {rcases hn with h | ⟨b,h1,rfl,h3,h4⟩
   {exact Or.inl h}
   {refine Or.inr ⟨b,h1,rfl,h4.of ⟨fun k=>hcell b (by simp) k (fun n hnm=> ?_),fun k=>hfr b (by simp) k⟩ hsz'⟩;rcases List.mem_append.1 hnm with h | h
    {intro ⟨h5,_⟩;have:=hD _ (hLg n h);omega}
    {intro ⟨h5,_⟩;have h6:=hkid n h;rw[List.mem_singleton] at h6;omega}}}
  {rcases hp with h | ⟨h1,rfl,h3,h4,h5⟩
   {exact Or.inl h}
   {exact Or.inr ⟨pb,h1,rfl,Nat.lt_of_lt_of_le h5.lt hsz',fun i hi=>(hqk i hi).1,fun k=>(hfr pb (by simp) k).trans (h5.fz k)⟩}}
 have hFaD: ∀b∈Fa,b∉D:=fun b hb hbD=>by
  have hlt:=hD b hbD;rcases List.mem_append.1 hb with hb | hb
  {rcases List.mem_append.1 hb with hb | hb
   {have:=hDNb b hb; omega}
   {have:=(hDPb b hb).1; omega}}
  {obtain ⟨i,hi,hb⟩:=List.mem_flatMap.1 hb;exact (hdisD (L.length+i) (by have:=List.mem_range.1 hi; omega) b hb).1 hbD}
 have hFan:Fa.Nodup:=by
  refine List.nodup_append.2 ⟨List.nodup_append.2 ⟨hDNn,hDPn,fun x hx y hy e=>(hDPb y hy).2 (e▸hx)⟩,hnd'.2.1,fun x hx y hy e=> ?_⟩;subst e;obtain ⟨i,hi,hb⟩:=List.mem_flatMap.1 hy;have h1:=hdisD (L.length+i) (by have:=List.mem_range.1 hi; omega) x hb;rcases List.mem_append.1 hx with h | h
  {exact h1.2.1 h}
  {exact h1.2.2 h}
 have hll: (L++ [a]).length=L.length+1:=by simp
 have hFs': (List.range L.length).flatMap Fs'=(List.range L.length).flatMap Fs:=by
  have: ∀(l:List Nat),(∀j∈l,j < L.length)->l.flatMap Fs'=l.flatMap Fs:=by
   intro l;induction l with
   | nil=>intro _; rfl
   | cons j l ih=>
    intro h;rw[List.flatMap_cons,List.flatMap_cons,ih (fun j hj=>h j (by simp[hj]))];simp only[Fs',if_pos (h j (by simp))]
  exact this _ (fun j hj=>List.mem_range.1 hj)
 obtain ⟨F,h1,h2,h3⟩:=hR W' Fs' (Nat.le_trans hsz hsz') (fun b hb k hx=>by
  rw[hexc b hb k (fun n hnm=>hx n (by simp[hnm]))];exact hk b hb k (hx a (by simp)))
  (fun b hb k=>(hfr b (by simp[hb]) k).trans (hf b hb k))
  (fun j hj=>by
   rw[hll] at hj;by_cases hjl:j < L.length
   {have e: (L++ [a])[j]'(by rw[hll]; omega)=L[j]'hjl:=List.getElem_append_left hjl;have h1:=hN j (by rw[hlen]; omega);have e2: (L++kids pb a.t.parts qs)[j]'(by rw[hlen]; omega)=L[j]'hjl:=List.getElem_append_left hjl;rw[e2] at h1;rw[e];simp only[Fs',if_pos hjl];exact h1}
   · have hje:j=L.length:=by omega
     subst hje;have e: (L++ [a])[L.length]'(by rw[hll]; omega)=a:=by simp
     rw[e];simp only[Fs',if_neg hjl];exact hNa)
  (fun j hj b hb=>by
   rw[hll] at hj;by_cases hjl:j < L.length
   {simp only[Fs',if_pos hjl] at hb;exact (hdisD j (by omega) b hb).1}
   · simp only[Fs',if_neg hjl] at hb
     exact hFaD b hb)
  (by
   rw[hll,List.range_succ,List.flatMap_append,hFs'];have e: [L.length].flatMap Fs'=Fa:=by simp[Fs']
   rw[e];refine List.nodup_append.2 ⟨hnd'.1,hFan,fun x hx y hy e=> ?_⟩;subst e;obtain ⟨j,hj,hxj⟩:=List.mem_flatMap.1 hx;have hd:=hdisD j (by have:=List.mem_range.1 hj; omega) x hxj;rcases List.mem_append.1 hy with hy | hy
   {rcases List.mem_append.1 hy with hy | hy
    {exact hd.2.1 hy}
    {exact hd.2.2 hy}}
   · exact hnd'.2.2 x hx x hy rfl)
 refine ⟨F,h1,h2,fun b hb=> ?_⟩;rcases h3 b hb with h | ⟨j,hj,h⟩
 {exact Or.inl (by simp[h])}
 {rw[hll] at hj;by_cases hjl:j < L.length
  {simp only[Fs',if_pos hjl] at h;exact Or.inr ⟨j,by rw[hlen]; omega,h⟩}
  {simp only[Fs',if_neg hjl] at h;rcases List.mem_append.1 h with h | h
   {rcases List.mem_append.1 h with h | h
    {exact Or.inl (by simp[h])}
    {exact Or.inl (by simp[h])}}
   {obtain ⟨i,hi,h⟩:=List.mem_flatMap.1 h;exact Or.inr ⟨L.length+i,by rw[hlen]; have:=List.mem_range.1 hi; omega,h⟩}}}
theorem Z7R: (Tryd.prog.info? 9).map (fun i=>(i.zero,i.size,i.bytes))=some (some (.string ByteArray.empty),1,16):=by kernel_rfl
theorem Z39: (Tryd.prog.info? 25).map (fun i=>(i.zero,i.size,i.bytes))=some (some (.agg #[.int .i64 0,.string ByteArray.empty,.string ByteArray.empty,.slice none 0 0,.slice none 0 0]),5,88):=by kernel_rfl
def Z34 (t:Sh) (q:Ptr):Nat->Value
 | 0=> .int .i64 t.kind
 | 1=> .string ⟨t.of_.toArray⟩
 | 2=> .string ⟨t.name.toArray⟩
 | 3=> .slice q.A t.names.length q.c
 | _=> .slice q.P t.parts.length q.d
def Z6R:Sh:=⟨0,[],[],[],[]⟩
def Z1t (ps:List Sh) (qs:Nat->Ptr):List Value:=(List.range (ps.length * 5)).map fun j=>Z34 (ps.getD (j / 5) Z6R) (qs (j / 5)) (j % 5)
section
variable (ps : List Sh) (qs : Nat -> Ptr)
include ps qs
theorem Z3G: (Z1t ps qs).length=ps.length * 5:=by simp[Z1t]
theorem Z4e {i c:Nat} (hi:i < ps.length) (hc:c < 5): (Z1t ps qs)[i * 5+c]? =some (Z34 (ps[i]'hi) (qs i) c):=by
 have h1:i * 5+c < ps.length * 5:=by omega
 have h2: (i * 5+c) / 5=i:=by omega
 have h3: (i * 5+c) % 5=c:=by omega
 simp[Z1t,h1,h2,h3,List.getD,List.getElem?_eq_getElem hi]
theorem Z6S: ∀u∈Z1t ps qs,u.oneCell'=true:=by
 intro u hu;obtain ⟨j,_,rfl⟩:=List.mem_map.1 hu;generalize j % 5=c
 match c with
 | 0=>rfl
 | 1=>rfl
 | 2=>rfl
 | 3=>rfl
 | _+4=>rfl
end
section
variable {W : World}
include W
theorem Z7S {g o:Nat} {t:Sh} {q:Ptr} (h:Sh5 W g o t q) {c:Nat} (hc:c < 5):W.cell? ⟨g,o+c,none⟩=some (Z34 t q c):=by
 obtain ⟨h0,h1,h2,h3,h4⟩:=h
 match c,hc with
 | 0,_=>exact h0
 | 1,_=>exact h1
 | 2,_=>exact h2
 | 3,_=>exact h3
 | 4,_=>exact h4
theorem Z7T {g o:Nat} {t:Sh} {q:Ptr} (h: ∀c,c < 5->W.cell? ⟨g,o+c,none⟩=some (Z34 t q c)):Sh5 W g o t q:=
 ⟨h 0 (by omega),h 1 (by omega),h 2 (by omega),h 3 (by omega),h 4 (by omega)⟩
theorem Z9n {B b n cap:Nat} {ps:List Sh} {qs:Nat->Ptr} (h:W.ownsRow B 25 5 (.slice (some ⟨b,0,none⟩) n cap) n (Z1t ps qs)) (hn:n=ps.length):PaR W b ps qs:=by
 subst hn;refine ⟨(h.lt b rfl).2,fun i hi=>Z7T (fun c hc=> ?_),fun k=>h.frozenAt k⟩;rw[h.cellAt _ (by omega),Z4e ps qs hi hc]
theorem Z9o {B b n cap:Nat} {l:List (List UInt8)} (h:W.ownsRow B 9 1 (.slice (some ⟨b,0,none⟩) n cap) n ((strs l).map Value.string)) (hn:n=l.length):TxR W b l:=by
 subst hn;refine ⟨(h.lt b rfl).2,fun i hi=> ?_,fun k=>h.frozenAt k⟩;rw[h.cellAt _ (by omega)];simp[strs,hi]
end
theorem Z4N (b o k:Nat): (⟨b,o,none⟩:Addr).add k=⟨b,o+k,none⟩:=Z1z b o k
theorem Z5C (A:Option Addr) (c:Nat) (l:List (List UInt8)) (w:World) (hA:Strs w w.heap.size A (strs l)) (hl:l.length<=1000000000) (hlc:l.length<=c) (hA0:A=none->c=0):
 Calls Tryd.prog 49 #[.slice A l.length c] w fun e w'=>(∃A' c',e= .returned (.slice A' l.length c')/\l.length<=c'/\(A'=none->c'=0)/\(l.length=0\/ ∃b,A'=some ⟨b,0,none⟩/\w.heap.size<=b/\TxR w' b l))/\Below w.heap.size w w':=by
 obtain ⟨i0,hi,hz0,hz1,hz2⟩:=info_parts (P:=Tryd.prog) (e:=9) (z:= .string ByteArray.empty) (size:=1) (bytes:=16) Z7R;have q22: ∀(w:World) (a:Option Addr) (n c n' c':Nat),(binOp .eql 22 (.slice a n c) (.slice none n' c')).run Tryd.prog w= .ok (.bool a.isNone) w:=fun w a n c n' c'=>Lib.run_eql_slice_nil w _ _ a n c n' c' Tryd.underlying22;cases A with
 | none=>
  obtain rfl:=hA0 rfl;have hl0:l= []:=List.eq_nil_of_length_eq_zero (by omega);subst hl0;go_enter Tryd.func49,Tryd.ntmps49;go_wp2;go_ret;exact ⟨⟨none,0,by simp⟩,Below.refl _ _⟩
 | some ad=>
  have HA:=Y1 hA.cell7;clear hA hA0;go_enter Tryd.func49,Tryd.ntmps49
  go_wp2_with (at_builtin; refine Z0V _ rfl _ _ 22 rfl w.heap.size 9 i0 (.string ByteArray.empty) 1 16 Tryd.underlying22 hi hz0 hz1 hz2 rfl (by decide) _ 0 [] rfl (World.ownsRow_made w #[] 0 (Nat.le_refl _) (Nat.zero_le _) rfl) (some ad) l.length c ((strs l).map Value.string) rfl nofun ?qc1 ?qc2 ?qc3 ?qc4 ?qc5 ?qc6 ?_)
  case qc1=>simp[strs]
  case qc2=>
   intro ad' had j u hj;cases had;have hjl:j < l.length:=by
    have:=(List.getElem?_eq_some_iff.1 hj).1;simpa[strs] using this
   rcases HA.out with h0 | ⟨g,off,hgo,hg,hc⟩
   {omega}
   {cases hgo;rw[Z4N];refine ((Z01 w _).cell (p:=⟨g,off+j,none⟩) hg).trans ((hc j hjl).trans ?_);simp[strs,hjl] at hj;rw[<-hj]}
  case qc3=>intro u hu; obtain ⟨x,_,rfl⟩:=List.mem_map.1 hu; rfl
  case qc4=>unfold maxLen; omega
  case qc5=>omega
  case qc6=>simp
  intro v' w' hown hb;have hown2:w'.ownsRow w.heap.size 9 1 v' l.length ((strs l).map Value.string):=by simpa using hown
  have HO:=Y1 hown2;have HB:Hid (Below w.heap.size w w'):=Y1 ((Z01 w (.cells #[] 9)).trans hb);clear hown hown2 hb;go_wp2;go_ret;refine ⟨?_,HB.out⟩;have h:=HO.out;rcases h.2 with ⟨hv,h0⟩ | ⟨g,cap,cur,hv,hBg,hh,hnc,_⟩
  {exact ⟨none,0,by rw[hv,h0]; rfl,by omega,fun _=>rfl,Or.inl h0⟩}
  {rw[hv] at h;exact ⟨some ⟨g,0,none⟩,cap,by rw[hv]; rfl,hnc,nofun,Or.inr ⟨g,rfl,hBg,Z9o h rfl⟩⟩}
theorem Z5D (g off d:Nat) (ps:List Sh) (qs:Nat->Ptr) (w:World) (hg:g < w.heap.size) (hc: ∀i (h:i < ps.length),Sh5 w g (off+i * 5) (ps[i]'h) (qs i)) (hl:ps.length<=1000000000) (hpos:0 < ps.length):
 Calls Tryd.prog 79 #[.slice (some ⟨g,off,none⟩) ps.length d] w fun e w'=>(∃b c',e= .returned (.slice (some ⟨b,0,none⟩) ps.length c')/\ps.length<=c'/\w.heap.size<=b/\PaR w' b ps qs)/\Below w.heap.size w w':=by
 obtain ⟨i0,hi,hz0,hz1,hz2⟩:=info_parts (P:=Tryd.prog) (e:=25) (z:= .agg #[.int .i64 0,.string ByteArray.empty,.string ByteArray.empty,.slice none 0 0,.slice none 0 0]) (size:=5) (bytes:=88) Z39;have q23: ∀(w:World) (a:Option Addr) (n c n' c':Nat),(binOp .eql 23 (.slice a n c) (.slice none n' c')).run Tryd.prog w= .ok (.bool a.isNone) w:=fun w a n c n' c'=>Lib.run_eql_slice_nil w _ _ a n c n' c' Tryd.underlying23;have HC:=Y1 hc;clear hc;go_enter Tryd.func79,Tryd.ntmps79
 go_wp2_with (at_builtin; refine Z0V _ rfl _ _ 23 rfl w.heap.size 25 i0 (.agg #[.int .i64 0,.string ByteArray.empty,.string ByteArray.empty,.slice none 0 0,.slice none 0 0]) 5 88 Tryd.underlying23 hi hz0 hz1 hz2 rfl (by decide) _ 0 [] rfl (World.ownsRow_made w #[] 0 (Nat.le_refl _) (Nat.zero_le _) rfl) (some ⟨g,off,none⟩) ps.length d (Z1t ps qs) rfl nofun ?qc1 ?qc2 ?qc3 ?qc4 ?qc5 ?qc6 ?_)
 case qc1=>rw[Z3G]
 case qc2=>
  intro ad' had j u hj;cases had;have hjl:j < ps.length * 5:=by
   have:=(List.getElem?_eq_some_iff.1 hj).1
   rwa [Z3G] at this
  obtain ⟨i,c,rfl,hci⟩: ∃i c,j=i * 5+c/\c < 5:=⟨j / 5,j % 5,by omega,by omega⟩;have hil:i < ps.length:=by omega
  rw[Z4e ps qs hil hci] at hj;rw[Z4N, <-Nat.add_assoc];refine ((Z01 w _).cell (p:=⟨g,off+i * 5+c,none⟩) hg).trans ((Z7S (HC.out i hil) hci).trans hj)
 case qc3=>exact Z6S ps qs
 case qc4=>unfold maxLen; omega
 case qc5=>omega
 case qc6=>simp
 intro v' w' hown hb;have hown2:w'.ownsRow w.heap.size 25 5 v' ps.length (Z1t ps qs):=by simpa using hown
 have HO:=Y1 hown2;have HB:Hid (Below w.heap.size w w'):=Y1 ((Z01 w (.cells #[] 25)).trans hb);clear hown hown2 hb;go_wp2;go_ret;refine ⟨?_,HB.out⟩;have h:=HO.out;rcases h.2 with ⟨hv,h0⟩ | ⟨b,cap,cur,hv,hBg,hh,hnc,_⟩
 {omega}
 {rw[hv] at h;exact ⟨b,cap,by rw[hv]; rfl,hnc,hBg,Z9n h rfl⟩}
theorem Z6T (A:Option Addr) (d:Nat) (w:World) (hA0:A=none->d=0):
 Calls Tryd.prog 79 #[.slice A 0 d] w fun e w'=>(∃A' d',e= .returned (.slice A' 0 d')/\(A'=none->d'=0))/\Below w.heap.size w w':=by
 obtain ⟨i0,hi,hz0,hz1,hz2⟩:=info_parts (P:=Tryd.prog) (e:=25) (z:= .agg #[.int .i64 0,.string ByteArray.empty,.string ByteArray.empty,.slice none 0 0,.slice none 0 0]) (size:=5) (bytes:=88) Z39;have q23: ∀(w:World) (a:Option Addr) (n c n' c':Nat),(binOp .eql 23 (.slice a n c) (.slice none n' c')).run Tryd.prog w= .ok (.bool a.isNone) w:=fun w a n c n' c'=>Lib.run_eql_slice_nil w _ _ a n c n' c' Tryd.underlying23;cases A with
 | none=>
  obtain rfl:=hA0 rfl;go_enter Tryd.func79,Tryd.ntmps79;go_wp2;go_ret;exact ⟨⟨none,0,by simp⟩,Below.refl _ _⟩
 | some ad=>
  clear hA0;go_enter Tryd.func79,Tryd.ntmps79
  go_wp2_with (at_builtin; refine Z0V _ rfl _ _ 23 rfl w.heap.size 25 i0 (.agg #[.int .i64 0,.string ByteArray.empty,.string ByteArray.empty,.slice none 0 0,.slice none 0 0]) 5 88 Tryd.underlying23 hi hz0 hz1 hz2 rfl (by decide) _ 0 [] rfl (World.ownsRow_made w #[] 0 (Nat.le_refl _) (Nat.zero_le _) rfl) (some ad) 0 d [] rfl nofun ?qc1 ?qc2 ?qc3 ?qc4 ?qc5 ?qc6 ?_)
  case qc1=>rfl
  case qc2=>
   intro ad' had j u hj;simp at hj
  case qc3=>intro u hu; cases hu
  case qc4=>unfold maxLen; omega
  case qc5=>omega
  case qc6=>simp
  intro v' w' hown hb;have hown2:w'.ownsRow w.heap.size 25 5 v' 0 []:=by simpa using hown
  have HO:=Y1 hown2;have HB:Hid (Below w.heap.size w w'):=Y1 ((Z01 w (.cells #[] 25)).trans hb);clear hown hown2 hb;go_wp2;go_ret;refine ⟨?_,HB.out⟩;rcases HO.out.2 with ⟨hv,h0⟩ | ⟨g,cap,cur,hv,hBg,hh,hnc,_⟩
  {exact ⟨none,0,by rw[hv]; rfl,fun _=>rfl⟩}
  {exact ⟨some ⟨g,0,none⟩,cap,by rw[hv]; rfl,nofun⟩}
end
end Go.Proofs.YthajhofgjhfjeaaDoor
