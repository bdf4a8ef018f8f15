/- What the proofs of SubtypeBelows, SubtypeBoth, SubtypeGreatest, SubtypeLeast, SubtypeOrder want, part 0. -/
import Derived.Test.YtlomianlcnmfgaaDoorRows
import Derived.WalkKit
import Derived.Lib.Hide
import Derived.Lib.Strings
import Derived.Lib.Builder
import Derived.BigQuiet
import Derived.Laws.Cover1
import Derived.SliceStrings
import Derived.SizedLaws
import Derived.OpenShut
import Derived.Deep.AppendLies
import Derived.StillTailTactics
import Derived.Deep.Fields
set_option linter.unusedVariables false
set_option linter.unusedSimpArgs false
set_option linter.unusedSectionVars false
set_option maxRecDepth 100000
set_option maxHeartbeats 16000000
namespace Utf
section
def pt (p:Int):Bool:=decide (0<=p)&&decide (p<=1114111)&&(decide (p < 55296)||decide (57343 < p))
def byte (x:Int):UInt8:=UInt8.ofNat (x % 256).toNat
def bytes (p:Int):List UInt8:=
 if p < 128 then [byte p]
 else if p < 2048 then [byte (192+p / 64),byte (128+p % 64)]
 else if p < 65536 then [byte (224+p / 4096),byte (128+p / 64 % 64),byte (128+p % 64)]
 else [byte (240+p / 262144),byte (128+p / 4096 % 64),byte (128+p / 64 % 64),byte (128+p % 64)]
def lead (a:Nat):Nat×Int:=
 if 240<=a then (4,(a:Int) - 240) else if 224<=a then (3,(a:Int) - 224) else if 192<=a then (2,(a:Int) - 192) else (1,a)
def val (p:Int):List UInt8->Int
 | []=>p
 | b::r=>val (p * 64+b.toNat - 128) r
def first:List UInt8->Int×Nat
 | []=>(0,0)
 | a::r=>
  if (lead a.toNat).1<=r.length+1/\pt (val (lead a.toNat).2 (r.take ((lead a.toNat).1 - 1)))=true/\
   bytes (val (lead a.toNat).2 (r.take ((lead a.toNat).1 - 1)))=(a::r).take (lead a.toNat).1
  then (val (lead a.toNat).2 (r.take ((lead a.toNat).1 - 1)),(lead a.toNat).1) else (0,0)
def enc (ps:List Int):List UInt8:=ps.flatMap bytes
def step (l:List UInt8) (k:Nat):Nat:=if (first (l.drop k)).2=0 then 1 else (first (l.drop k)).2
end
end Utf
namespace Sem
section
def dig (c:UInt8):Bool:=decide (48<=c.toNat)&&decide (c.toNat<=57)
def digits (l:List UInt8):Bool:= !l.isEmpty&&l.all dig
def parts:List UInt8->List (List UInt8)
 | []=> [[]]
 | c::r=>if c=46 then []::parts r else match parts r with
  | []=> [[c]]
  | p::ps=>(c::p)::ps
def join:List (List UInt8)->List UInt8
 | []=> []
 | [p]=>p
 | p::q::ps=>p++46::join (q::ps)
structure Ver where
 maj:Int
 min:Int
 pat:Int
 pre:List UInt8
deriving DecidableEq
def dec (n:Nat):List UInt8:=if h:n < 10 then [UInt8.ofNat (48+n)] else dec (n / 10)++ [UInt8.ofNat (48+n % 10)]
termination_by n
def text (v:Ver):List UInt8:=dec v.maj.toNat++46::(dec v.min.toNat++46::(dec v.pat.toNat++if v.pre= [] then [] else 45::v.pre))
def put (t:Nat×Nat×Nat) (k x:Nat):Nat×Nat×Nat:=if k=0 then (x,t.2.1,t.2.2) else if k=1 then (t.1,x,t.2.2) else (t.1,t.2.1,x)
def get (t:Nat×Nat×Nat) (k:Nat):Nat:=if k=0 then t.1 else if k=1 then t.2.1 else t.2.2
def num (l:List UInt8):Nat:=l.foldl (fun a c=>10 * a+(c.toNat - 48)) 0
def partKey (p:List UInt8):List Int:=if digits p then [0,(num p:Int)] else 1::p.map fun c=>(c.toNat:Int)
def preKey (p:List UInt8):List (List Int):=if p= [] then [[2]] else [1]::(parts p).map partKey
def key (v:Ver):List (List Int):= [v.maj]:: [v.min]:: [v.pat]::preKey v.pre
end
end Sem
namespace Lex
section
def small (c:UInt8):Bool:=decide (97<=c.toNat)&&decide (c.toNat<=122)
def great (c:UInt8):Bool:=decide (65<=c.toNat)&&decide (c.toNat<=90)
def digit (c:UInt8):Bool:=decide (48<=c.toNat)&&decide (c.toNat<=57)
def nameB (c:UInt8):Bool:=small c||great c||digit c||c==95
def words:List (List UInt8):= [[109,111,100,117,108,101],[105,109,112,111,114,116],[112,105,110],[114,97,110,103,101],[116,121,112,101],[111,112,97,113,117,101],[108,101,116],[105,110],[101,120,112,111,114,116],[102,117,110],[105,102],[116,104,101,110],[101,108,115,101],[99,97,115,101],[111,102],[97,115],[110,101,119],[114,97,119],[116,114,117,101],[102,97,108,115,101]]
def isWord (s:List UInt8):Bool:=words.contains s
def isName (s:List UInt8):Bool:=match s with
 | []=>false
 | c::_=>decide (s.length<=24)&&small c&&s.all nameB&& !isWord s
def isUpper (s:List UInt8):Bool:=match s with
 | []=>false
 | c::_=>decide (s.length<=24)&&great c&&s.all nameB
structure Tok where
 kind:Int
 text:List UInt8
deriving DecidableEq
end
end Lex
namespace Shp
section
structure Sh where
 kind:Int
 of_:List UInt8
 name:List UInt8
 names:List (List UInt8)
 parts:List Sh
mutual
def size:Sh->Nat
 | ⟨_,_,_,_,ps⟩=>1+sizes ps
def sizes:List Sh->Nat
 | []=>0
 | p::ps=>size p+sizes ps
end
mutual
def deep:Sh->Nat
 | ⟨_,_,_,_,ps⟩=>deeps ps+1
def deeps:List Sh->Nat
 | []=>0
 | p::ps=>max (deep p) (deeps ps)
end
theorem size_eq (t:Sh):size t=1+sizes t.parts:=by cases t; rfl
theorem Z0q (t:Sh):deep t=deeps t.parts+1:=by cases t; rfl
theorem Z3d (t:Sh):1<=size t:=by rw[size_eq]; omega
section
variable {l : List Sh} {p : Sh} (h : p ∈ l)
include l p h
theorem Z24:size p<=sizes l:=by
 induction l with
 | nil=>cases h
 | cons a l ih=>
  rcases List.mem_cons.1 h with rfl | h
  {simp[sizes]}
  {have:=ih h; simp[sizes]; omega}
theorem Z0P:deep p<=deeps l:=by
 induction l with
 | nil=>cases h
 | cons a l ih=>
  rcases List.mem_cons.1 h with rfl | h
  {simp[deeps]; omega}
  {have:=ih h; simp[deeps]; omega}
end
theorem Sh.ind {P:Sh->Prop} (h: ∀t,(∀p∈t.parts,P p)->P t) (t:Sh):P t:=by
 have: ∀n t,size t<=n->P t:=by
  intro n;induction n with
  | zero=>intro t ht; have:=Z3d t; omega
  | succ n ih=>
   intro t ht;refine h t (fun p hp=>ih p ?_);have:=Z24 hp;rw[size_eq] at ht;omega
 exact this _ t (Nat.le_refl _)
theorem Z3M (l m:List Sh):sizes (l++m)=sizes l+sizes m:=by
 induction l with
 | nil=>simp[sizes]
 | cons a l ih=>simp[sizes,ih]; omega
theorem Z3N (l m:List Sh):deeps (l++m)=max (deeps l) (deeps m):=by
 induction l with
 | nil=>simp[deeps]
 | cons a l ih=>simp[deeps,ih,Nat.max_assoc]
theorem Z3O {α:Type} {l:List α} {i:Nat} (h:i < l.length):l.take (i+1)=l.take i++ [l[i]'h]:=by rw[List.take_succ_eq_append_getElem h]
section
variable {l : List Sh} {i : Nat} (h : i < l.length)
include l i h
theorem Z2c:sizes (l.take (i+1))=sizes (l.take i)+size (l[i]'h):=by rw[Z3O h,Z3M]; simp[sizes]
theorem Z3e:deeps (l.take (i+1))=max (deeps (l.take i)) (deep (l[i]'h)):=by rw[Z3O h,Z3N]; simp[deeps]
end
theorem Z3f (l:List Sh) (i:Nat):sizes (l.take i)<=sizes l:=by
 have:=Z3M (l.take i) (l.drop i);rw[List.take_append_drop] at this;omega
theorem Z3g (l:List Sh) (i:Nat):deeps (l.take i)<=deeps l:=by
 have:=Z3N (l.take i) (l.drop i);rw[List.take_append_drop] at this;omega
theorem Z11 (l:List Sh):l.length<=sizes l:=by
 induction l with
 | nil=>simp
 | cons a l ih=>have:=Z3d a; simp[sizes]; omega
theorem Z1G (t:Sh):deep t<=size t:=by
 induction t using Sh.ind with
 | h t ih=>
  rw[Z0q,size_eq];have: ∀l:List Sh,(∀p∈l,deep p<=size p)->deeps l<=sizes l:=by
   intro l;induction l with
   | nil=>simp[deeps]
   | cons a l ihl=>
    intro h;have h1:=h a (by simp);have h2:=ihl (fun p hp=>h p (by simp[hp]));simp[deeps,sizes]; omega
  have:=this _ ih;omega
def noDup:List (List UInt8)->Bool
 | []=>true
 | x::l=> !l.contains x&&noDup l
def areNames (l:List (List UInt8)):Bool:=l.all Lex.isName&&noDup l
def plain (s:List UInt8):Bool:=s== [73,110,116]||s== [66,111,111,108]||s== [84,101,120,116]||s== [65,110,121]
def bare (t:Sh):Bool:=t.of_== []&&t.name== []
def fits (t:Sh):Bool:=
 if t.kind=9\/t.kind=10 then Lex.isUpper t.name&&(Lex.isName t.of_||(t.of_== []&&decide (t.kind=9)&& !plain t.name))&&decide (t.names.length=0)&&decide (t.parts.length=0)
 else if bare t=false then false
 else if t.kind=6\/t.kind=7 then areNames t.names&&decide (t.names.length=t.parts.length)
 else if 0 < t.names.length then false
 else if t.kind=8 then decide (1<=t.parts.length)
 else if t.kind=5 then decide (t.parts.length=1)
 else decide (1<=t.kind)&&decide (t.kind<=4)&&decide (t.parts.length=0)
mutual
def right:Sh->Bool
 | ⟨k,o,n,ns,ps⟩=>fits ⟨k,o,n,ns,ps⟩&&rights ps
def rights:List Sh->Bool
 | []=>true
 | p::ps=>right p&&rights ps
end
theorem Z2t (t:Sh):right t=(fits t&&rights t.parts):=by cases t; rfl
theorem Z3h (l:List Sh):rights l=l.all right:=by
 induction l with
 | nil=>rfl
 | cons a l ih=>simp[rights,ih]
def check (t:Sh):Int:=if 400 < size t then 3 else if 40 < deep t then 91 else if right t=false then 70 else 0
abbrev Fld:=List UInt8×Sh
def ins (x:Fld):List Fld->List Fld
 | []=> [x]
 | y::l=>if y.1 < x.1 then y::ins x l else x::y::l
def sortF (l:List Fld):List Fld:=l.foldl (fun a x=>ins x a) []
mutual
def sorted:Sh->Sh
 | ⟨k,o,n,ns,ps⟩=>if ns= [] then ⟨k,o,n,[],sorteds ps⟩ else ⟨k,o,n,(sortF (ns.zip (sorteds ps))).map Prod.fst,(sortF (ns.zip (sorteds ps))).map Prod.snd⟩
def sorteds:List Sh->List Sh
 | []=> []
 | p::ps=>sorted p::sorteds ps
end
theorem Z6I (l:List Sh):sorteds l=l.map sorted:=by
 induction l with
 | nil=>rfl
 | cons a l ih=>simp[sorteds,ih]
theorem Z0j (t:Sh):sorted t=if t.names= [] then ⟨t.kind,t.of_,t.name,[],t.parts.map sorted⟩ else ⟨t.kind,t.of_,t.name,(sortF (t.names.zip (t.parts.map sorted))).map Prod.fst,(sortF (t.names.zip (t.parts.map sorted))).map Prod.snd⟩:=by
 cases t with
 | mk k o n ns ps=>rw[<-Z6I]; rfl
mutual
def eqB:Sh->Sh->Bool
 | ⟨k,o,n,ns,ps⟩,⟨k',o',n',ns',ps'⟩=>k==k'&&o==o'&&n==n'&&ns==ns'&&eqs ps ps'
def eqs:List Sh->List Sh->Bool
 | [],[]=>true
 | p::ps,q::qs=>eqB p q&&eqs ps qs
 | [],_::_=>false
 | _::_,[]=>false
end
theorem Z5O (t u:Sh):eqB t u=(t.kind==u.kind&&t.of_==u.of_&&t.name==u.name&&t.names==u.names&&eqs t.parts u.parts):=by cases t; cases u; rfl
theorem Z4F {l:List Sh} (h: ∀p∈l,∀u,eqB p u=true ↔ p=u): ∀m,eqs l m=true ↔ l=m:=by
 induction l with
 | nil=>intro m; cases m <;> simp[eqs]
 | cons a l ih=>
  intro m;cases m with
  | nil=>simp[eqs]
  | cons b m=>simp[eqs,h a (by simp) b,ih (fun p hp=>h p (by simp[hp])) m]
theorem Z32 (t u:Sh):eqB t u=true ↔ t=u:=by
 induction t using Sh.ind generalizing u with
 | h t ih=>
  rw[Z5O];cases t; cases u;simp[Z4F ih,and_assoc]
theorem Z58 (l m:List Sh):eqs l m=true ↔ l=m:=Z4F (fun p _ u=>Z32 p u) m
theorem Z1l (t:Sh):eqB t t=true:=(Z32 t t).2 rfl
theorem Z59 {t u:Sh} (h:t≠u):eqB t u=false:=by
 cases e:eqB t u with
 | false=>rfl
 | true=>exact absurd ((Z32 t u).1 e) h
def field (n t:List UInt8):List UInt8:=n++ [58,32]++t
def fields (ns ts:List (List UInt8)):List (List UInt8):=if ns= [] then ts else List.zipWith field ns ts
def named (t:Sh):List UInt8:=if t.of_= [] then t.name else t.of_++ [47]++t.name
def join (sep:List UInt8) (l:List (List UInt8)):List UInt8:=sep.intercalate l
def textOf (k:Int) (o n:List UInt8) (ns ts:List (List UInt8)):List UInt8:=
 if k=1 then [73,110,116] else if k=2 then [66,111,111,108] else if k=3 then [84,101,120,116] else if k=4 then [65,110,121]
 else if k=5 then [91]++ts.headD []++ [93]
 else if k=6 then [123]++join [44,32] (fields ns ts)++ [125]
 else if k=7 then [60]++join [32,124,32] (fields ns ts)++ [62]
 else if k=8 then [40]++join [44,32] ts.dropLast++ [41,32,45,62,32]++ts.getLastD []
 else if o= [] then n else o++ [47]++n
mutual
def text:Sh->List UInt8
 | ⟨k,o,n,ns,ps⟩=>textOf k o n ns (texts ps)
def texts:List Sh->List (List UInt8)
 | []=> []
 | p::ps=>text p::texts ps
end
theorem Z6K (l:List Sh):deeps l<=sizes l:=by
 induction l with
 | nil=>simp[deeps]
 | cons a l ih=>have:=Z1G a; simp[deeps,sizes]; omega
theorem Z5f (l:List (List UInt8)):noDup l=true ↔ l.Nodup:=by
 induction l with
 | nil=>simp[noDup]
 | cons a l ih=>simp[noDup,ih]
theorem Z0F (l:List (List UInt8)):areNames l=true ↔ (∀x∈l,Lex.isName x=true)/\l.Nodup:=by
 simp[areNames,Z5f]
section
variable {l : List (List UInt8)}
include l
theorem Z3Q {i:Nat} (hi:i < l.length) (h:Lex.isName (l[i]'hi)=false):areNames l=false:=by
 cases e:areNames l with
 | false=>rfl
 | true=>rw[((Z0F l).1 e).1 _ (List.getElem_mem hi)] at h; cases h
theorem Z33 {i k:Nat} (hi:i < l.length) (hk:k < i) (h:l[k]'(by omega)=l[i]'hi):areNames l=false:=by
 cases e:areNames l with
 | false=>rfl
 | true=>
  have:=((Z0F l).1 e).2;have:=(List.pairwise_iff_getElem.1 this) k i (by omega) hi hk;exact absurd h this
theorem Z4d (h1: ∀i (hi:i < l.length),Lex.isName (l[i]'hi)=true) (h2: ∀i (hi:i < l.length),∀k (hk:k < i),l[k]'(by omega)≠l[i]'hi):areNames l=true:=by
 refine (Z0F l).2 ⟨fun x hx=> ?_, ?_⟩
 {obtain ⟨i,hi,rfl⟩:=List.getElem_of_mem hx; exact h1 i hi}
 {exact List.pairwise_iff_getElem.2 (fun k i hk hi hki=>h2 i hi k hki)}
end
def ofOk (t:Sh):Bool:=Lex.isName t.of_||(t.of_== []&&decide (t.kind=9)&& !plain t.name)
section
variable {t : Sh}
include t
theorem Z2F (h:t.kind=9\/t.kind=10):fits t=(Lex.isUpper t.name&&ofOk t&&decide (t.names.length=0)&&decide (t.parts.length=0)):=by unfold fits ofOk; rw[if_pos h]
theorem Z13 (h: ¬(t.kind=9\/t.kind=10)) (hb:bare t=false):fits t=false:=by unfold fits; rw[if_neg h,if_pos hb]
theorem Z2u (hb:bare t=true) (h:t.kind=6\/t.kind=7):fits t=(areNames t.names&&decide (t.names.length=t.parts.length)):=by
 unfold fits; rw[if_neg (by omega),if_neg (by rw[hb]; decide),if_pos h]
theorem Z1H (h: ¬(t.kind=9\/t.kind=10)) (hb:bare t=true) (h2: ¬(t.kind=6\/t.kind=7)) (h3:0 < t.names.length):fits t=false:=by
 unfold fits; rw[if_neg h,if_neg (by rw[hb]; decide),if_neg h2,if_pos h3]
theorem Z4r (hb:bare t=true) (h:t.kind=8) (h3: ¬0 < t.names.length):fits t=decide (1<=t.parts.length):=by
 unfold fits; rw[if_neg (by omega),if_neg (by rw[hb]; decide),if_neg (by omega),if_neg h3,if_pos h]
theorem Z3R (hb:bare t=true) (h:t.kind=5) (h3: ¬0 < t.names.length):fits t=decide (t.parts.length=1):=by
 unfold fits; rw[if_neg (by omega),if_neg (by rw[hb]; decide),if_neg (by omega),if_neg h3,if_neg (by omega),if_pos h]
theorem Z2G (hb:bare t=true) (h: ¬(t.kind=9\/t.kind=10)) (h2: ¬(t.kind=6\/t.kind=7)) (h3: ¬0 < t.names.length) (h4:t.kind≠8) (h5:t.kind≠5):
 fits t=(decide (1<=t.kind)&&decide (t.kind<=4)&&decide (t.parts.length=0)):=by
 unfold fits; rw[if_neg h,if_neg (by rw[hb]; decide),if_neg h2,if_neg h3,if_neg h4,if_neg h5]
theorem Z08 (h:right t=true):fits t=true:=by rw[Z2t,Bool.and_eq_true] at h; exact h.1
end
theorem Z05 {t p:Sh} (h:right t=true) (hp:p∈t.parts):right p=true:=by
 rw[Z2t,Z3h,Bool.and_eq_true,List.all_eq_true] at h; exact h.2 p hp
theorem Z2w {t:Sh} (h:fits t=true) (hp: ∀p∈t.parts,right p=true):right t=true:=by
 rw[Z2t,Z3h,Bool.and_eq_true,List.all_eq_true]; exact ⟨h,hp⟩
theorem Z3i {s:List UInt8} (h:Lex.isName s=true):s.length<=24:=by
 cases s with
 | nil=>simp
 | cons c r=>
  have:Lex.isName (c::r)=(decide ((c::r).length<=24)&&Lex.small c&&(c::r).all Lex.nameB&& !Lex.isWord (c::r)):=rfl;rw[this] at h;simp only[Bool.and_eq_true,decide_eq_true_eq] at h;exact h.1.1.1
theorem Z6L {s:List UInt8} (h:Lex.isUpper s=true):s.length<=24:=by
 cases s with
 | nil=>simp
 | cons c r=>
  have:Lex.isUpper (c::r)=(decide ((c::r).length<=24)&&Lex.great c&&(c::r).all Lex.nameB):=rfl;rw[this] at h;simp only[Bool.and_eq_true,decide_eq_true_eq] at h;exact h.1.1
theorem Z3j {t:Sh} (h:fits t=true):
 (1<=t.kind/\t.kind<=4/\t.names= []/\t.parts= [])\/(t.kind=5/\t.names= []/\t.parts.length=1)\/((t.kind=6\/t.kind=7)/\t.names.length=t.parts.length/\areNames t.names=true)\/
 (t.kind=8/\t.names= []/\1<=t.parts.length)\/((t.kind=9\/t.kind=10)/\t.names= []/\t.parts= []/\t.name.length<=24/\t.of_.length<=24):=by
 by_cases h9:t.kind=9\/t.kind=10
 {rw[Z2F h9] at h;simp only[Bool.and_eq_true,decide_eq_true_eq] at h;obtain ⟨⟨⟨h1,h2⟩,h3⟩,h4⟩:=h;refine Or.inr (Or.inr (Or.inr (Or.inr ⟨h9,List.eq_nil_of_length_eq_zero h3,List.eq_nil_of_length_eq_zero h4,Z6L h1, ?_⟩)));unfold ofOk at h2;cases hn:Lex.isName t.of_ with
  | true=>exact Z3i hn
  | false=>
   rw[hn] at h2;simp at h2;rw[h2.1.1]; simp}
 {cases hb:bare t with
  | false=>rw[Z13 h9 hb] at h; cases h
  | true=>
   by_cases h6:t.kind=6\/t.kind=7
   {rw[Z2u hb h6,Bool.and_eq_true,decide_eq_true_eq] at h;exact Or.inr (Or.inr (Or.inl ⟨h6,h.2,h.1⟩))}
   {by_cases hz:0 < t.names.length
    {rw[Z1H h9 hb h6 hz] at h; cases h}
    {have hn:t.names= []:=List.eq_nil_of_length_eq_zero (by omega);by_cases h8:t.kind=8
     {rw[Z4r hb h8 hz,decide_eq_true_eq] at h;exact Or.inr (Or.inr (Or.inr (Or.inl ⟨h8,hn,h⟩)))}
     {by_cases h5:t.kind=5
      {rw[Z3R hb h5 hz,decide_eq_true_eq] at h;exact Or.inr (Or.inl ⟨h5,hn,h⟩)}
      {rw[Z2G hb h9 h6 hz h8 h5] at h;simp only[Bool.and_eq_true,decide_eq_true_eq] at h;exact Or.inl ⟨h.1.1,h.1.2,hn,List.eq_nil_of_length_eq_zero h.2⟩}}}}}
end
end Shp
namespace Go.Proofs.YtlomianlcnmfgaaDoor
section
open Shp
theorem Z4s (x:Fld): ∀l:List Fld,(ins x l).Perm (x::l)
 | []=>List.Perm.refl _
 | y::l=>by
  unfold ins;split
  {exact ((Z4s x l).cons y).trans (List.Perm.swap x y l)}
  {exact List.Perm.refl _}
theorem Z3S: ∀(l a:List Fld),(l.foldl (fun a x=>ins x a) a).Perm (l++a)
 | [],a=>List.Perm.refl _
 | x::l,a=>by
  rw[List.foldl_cons];refine (Z3S l _).trans ?_;refine (List.Perm.append_left l (Z4s x a)).trans ?_;exact List.perm_middle
theorem Z0V (l:List Fld): (sortF l).Perm l:=by
 have:=Z3S l []
 rwa [List.append_nil] at this
theorem Z4G (x:Fld): ∀l:List Fld,l.Pairwise (fun a b=>a.1<=b.1)->(ins x l).Pairwise (fun a b=>a.1<=b.1)
 | [],_=>by simp[ins]
 | y::l,h=>by
  rw[List.pairwise_cons] at h;unfold ins;split
  {rename_i hlt
   rw[List.pairwise_cons];refine ⟨fun b hb=> ?_,Z4G x l h.2⟩;rcases List.mem_cons.1 ((Z4s x l).mem_iff.1 hb) with rfl | hb
   {exact List.le_of_lt hlt}
   {exact h.1 b hb}}
  {rename_i hlt
   have hxy:x.1<=y.1:=List.not_lt.1 hlt;rw[List.pairwise_cons,List.pairwise_cons];refine ⟨fun b hb=> ?_,h⟩;rcases List.mem_cons.1 hb with rfl | hb
   {exact hxy}
   {exact List.le_trans hxy (h.1 b hb)}}
theorem Z34: ∀(l a:List Fld),a.Pairwise (fun a b=>a.1<=b.1)->(l.foldl (fun a x=>ins x a) a).Pairwise (fun a b=>a.1<=b.1)
 | [],a,h=>h
 | x::l,a,h=>Z34 l _ (Z4G x a h)
theorem Z1L (l:List Fld): (sortF l).Pairwise (fun a b=>a.1<=b.1):=Z34 l [] List.Pairwise.nil
theorem Z9r {l:List Fld} (h: (l.map Prod.fst).Nodup) {a b:Fld} (ha:a∈l) (hb:b∈l) (he:a.1=b.1):a=b:=by
 induction l with
 | nil=>cases ha
 | cons x l ih=>
  rw[List.map_cons,List.nodup_cons] at h;rcases List.mem_cons.1 ha with e1 | h1
  {rcases List.mem_cons.1 hb with e2 | h2
   {rw[e1,e2]}
   {exact absurd (by rw[<-e1,he]; exact List.mem_map_of_mem h2) h.1}}
  {rcases List.mem_cons.1 hb with e2 | h2
   {exact absurd (by rw[<-e2, <-he]; exact List.mem_map_of_mem h1) h.1}
   {exact ih h.2 h1 h2}}
theorem Z1M {l m:List Fld} (hp:m.Perm l) (hs:m.Pairwise (fun a b=>a.1<=b.1)) (hn: (l.map Prod.fst).Nodup):m=sortF l:=by
 refine List.Perm.eq_of_pairwise (le:=fun a b:Fld=>a.1<=b.1) (fun a b ha hb h1 h2=> ?_) hs (Z1L l) (hp.trans (Z0V l).symm);exact Z9r hn (hp.mem_iff.1 ha) ((Z0V l).mem_iff.1 hb) (List.le_antisymm h1 h2)
end
end Go.Proofs.YtlomianlcnmfgaaDoor
namespace Sub
section
open Shp
def look:List (List UInt8)->List Sh->List UInt8->Option Sh
 | x::ns,p::ps,n=>if x=n then some p else look ns ps n
 | [],_,_=>none
 | _::_,[],_=>none
def get (t:Sh) (n:List UInt8):Option Sh:=look t.names t.parts n
section
variable {ns : List (List UInt8)} {ps : List Sh}
include ns ps
theorem Z5T {n:List UInt8} {p:Sh} (h:look ns ps n=some p):n∈ns/\p∈ps:=by
 induction ns generalizing ps with
 | nil=>cases ps <;> simp[look] at h
 | cons x ns ih=>
  cases ps with
  | nil=>simp[look] at h
  | cons q ps=>
   unfold look at h;split at h
   {rename_i e
    cases h;exact ⟨by simp[e],by simp⟩}
   {have:=ih h;exact ⟨by simp[this.1],by simp[this.2]⟩}
theorem Z2x (hd:ns.Nodup) {n:List UInt8} {p:Sh}:look ns ps n=some p ↔ (n,p)∈ns.zip ps:=by
 induction ns generalizing ps with
 | nil=>cases ps <;> simp[look]
 | cons x ns ih=>
  rw[List.nodup_cons] at hd;cases ps with
  | nil=>simp[look]
  | cons q ps=>
   unfold look;rw[List.zip_cons_cons,List.mem_cons];split
   {rename_i e
    subst e;refine ⟨fun h=>Or.inl (by cases h; rfl),fun h=> ?_⟩;rcases h with h | h
    {cases h; rfl}
    {exact absurd (List.of_mem_zip h).1 hd.1}}
   {rename_i e
    rw[ih hd.2];refine ⟨Or.inr,fun h=> ?_⟩;rcases h with h | h
    {cases h; exact absurd rfl e}
    {exact h}}
theorem Z9s (hl:ns.length=ps.length) {n:List UInt8}:look ns ps n=none ↔ n∉ns:=by
 induction ns generalizing ps with
 | nil=>cases ps <;> simp[look]
 | cons x ns ih=>
  cases ps with
  | nil=>simp at hl
  | cons q ps=>
   unfold look;split
   {rename_i e; simp[e]}
   {rename_i e
    rw[ih (by simpa using hl),List.mem_cons,not_or];exact ⟨fun h=>⟨fun e'=>e e'.symm,h⟩,fun h=>h.2⟩}
theorem Z5a (hd:ns.Nodup) {i:Nat} (h1:i < ns.length) (h2:i < ps.length):look ns ps (ns[i]'h1)=some (ps[i]'h2):=
 (Z2x hd).2 (List.mem_iff_getElem.2 ⟨i,by rw[List.length_zip]; omega,by rw[List.getElem_zip]⟩)
end
structure Rec (t:Sh):Prop where
 k:t.kind=6\/t.kind=7
 b:bare t=true
 l:t.names.length=t.parts.length
 a:areNames t.names=true
theorem Rec.nodup {t:Sh} (h:Rec t):t.names.Nodup:=((Z0F _).1 h.a).2
theorem Rec.isName {t:Sh} (h:Rec t) {n:List UInt8} (hn:n∈t.names):Lex.isName n=true:=((Z0F _).1 h.a).1 n hn
theorem Z0n {t:Sh} (h:fits t=true) (hk:t.kind=6\/t.kind=7):Rec t:=by
 have hb:bare t=true:=by
  cases hb:bare t with
  | true=>rfl
  | false=>rw[Z13 (by omega) hb] at h; cases h
 rw[Z2u hb hk,Bool.and_eq_true,decide_eq_true_eq] at h;exact ⟨hk,hb,h.2,h.1⟩
section
variable {t : Sh} (h : Rec t) {n : List UInt8}
include t h n
theorem Rec.get_none:get t n=none ↔ n∉t.names:=Z9s h.l
theorem Rec.get_iff {p:Sh}:get t n=some p ↔ (n,p)∈t.names.zip t.parts:=Z2x h.nodup
end
section
variable {t p : Sh} {n : List UInt8} (h : get t n = some p)
include t p n h
theorem Z06:p∈t.parts:=(Z5T h).2
theorem Z1A:n∈t.names:=(Z5T h).1
end
def Narrow (up:Bool) (k:Int):Prop:=(up=true/\k=6)\/(up=false/\k=7)
def Wide (up:Bool) (k:Int):Prop:=(up=true/\k=7)\/(up=false/\k=6)
instance (up:Bool) (k:Int):Decidable (Narrow up k):=by unfold Narrow; infer_instance
instance (up:Bool) (k:Int):Decidable (Wide up k):=by unfold Wide; infer_instance
section
variable {k : Int} {up : Bool}
include k up
theorem Z1B (h:Narrow up k): ¬Wide up k:=by
 unfold Narrow Wide at *;cases up <;> rcases h with h | h <;> simp_all
theorem Z0v (h:Narrow up k):k=6\/k=7:=by unfold Narrow at h; omega
theorem Z0H (h:Wide up k):k=6\/k=7:=by unfold Wide at h; omega
theorem Z6W:Narrow (!up) k ↔ Wide up k:=by cases up <;> simp[Narrow,Wide]
theorem Z9u:Wide (!up) k ↔ Narrow up k:=by cases up <;> simp[Narrow,Wide]
end
def V:Nat->Bool->Sh->Sh->Prop
 | 0,_,_,_=>False
 | f+1,up,a,b=>a.kind=b.kind/\
  (Narrow up a.kind-> ∀n q,get b n=some q-> ∃p,get a n=some p/\V f up p q)/\
  (Wide up a.kind-> ∀n p,get a n=some p-> ∃q,get b n=some q/\V f up p q)/\
  (¬(a.kind=6\/a.kind=7)->a.of_=b.of_/\a.name=b.name/\a.parts.length=b.parts.length/\
   ∀i p q,a.parts[i]? =some p->b.parts[i]? =some q->V f (if i+1=a.parts.length then up else !up) p q)
theorem V.flip {f:Nat}: ∀ {up:Bool} {a b:Sh},V f up a b->V f (!up) b a:=by
 induction f with
 | zero=>intro up a b h; exact h.elim
 | succ f ih=>
  intro up a b h;obtain ⟨hk,h1,h2,h3⟩:=h;refine ⟨hk.symm,fun h n q hq=> ?_,fun h n p hp=> ?_,fun h=> ?_⟩
  {rw[Z6W, <-hk] at h;obtain ⟨p,hp,hv⟩:=h2 h n q hq;exact ⟨p,hp,ih hv⟩}
  {rw[Z9u, <-hk] at h;obtain ⟨q,hq,hv⟩:=h1 h n p hp;exact ⟨q,hq,ih hv⟩}
  {rw[<-hk] at h;obtain ⟨e1,e2,e3,e4⟩:=h3 h;refine ⟨e1.symm,e2.symm,e3.symm,fun i p q hp hq=> ?_⟩;have:=ih (e4 i q p hq hp);rw[<-e3];by_cases e:i+1=a.parts.length
   {rw[if_pos e] at this ⊢; exact this}
   {rw[if_neg e] at this ⊢; exact this}}
theorem V.flip_iff {f:Nat} {up:Bool} {a b:Sh}:V f up a b ↔ V f (!up) b a:=⟨V.flip,fun h=>by have:=h.flip; rwa [Bool.not_not] at this⟩
theorem V.refl {f:Nat}: ∀ {up:Bool} {a:Sh},deep a<=f->V f up a a:=by
 induction f with
 | zero=>intro up a h; rw[Z0q] at h; omega
 | succ f ih=>
  intro up a h;have hp: ∀p∈a.parts,deep p<=f:=fun p hp=>by have:=Z0P hp; rw[Z0q] at h; omega
  refine ⟨rfl,fun _ n q hq=>⟨q,hq,ih (hp q (Z06 hq))⟩,fun _ n q hq=>⟨q,hq,ih (hp q (Z06 hq))⟩,fun _=>⟨rfl,rfl,rfl,fun i p q h1 h2=> ?_⟩⟩;rw[h1] at h2;cases h2;exact ih (hp p (List.mem_of_getElem? h1))
theorem V.trans {f:Nat}: ∀ {up:Bool} {a b c:Sh},V f up a b->V f up b c->V f up a c:=by
 induction f with
 | zero=>intro up a b c h; exact h.elim
 | succ f ih=>
  intro up a b c h k;obtain ⟨hk,h1,h2,h3⟩:=h;obtain ⟨kk,k1,k2,k3⟩:=k;rw[<-hk] at k1 k2 k3;refine ⟨hk.trans kk,fun h n r hr=> ?_,fun h n p hp=> ?_,fun h=> ?_⟩
  {obtain ⟨q,hq,hv⟩:=k1 h n r hr;obtain ⟨p,hp,hu⟩:=h1 h n q hq;exact ⟨p,hp,ih hu hv⟩}
  {obtain ⟨q,hq,hv⟩:=h2 h n p hp;obtain ⟨r,hr,hu⟩:=k2 h n q hq;exact ⟨r,hr,ih hv hu⟩}
  {obtain ⟨e1,e2,e3,e4⟩:=h3 h;obtain ⟨g1,g2,g3,g4⟩:=k3 h;refine ⟨e1.trans g1,e2.trans g2,e3.trans g3,fun i p r hp hr=> ?_⟩;have hi:i < a.parts.length:=(List.getElem?_eq_some_iff.1 hp).1;have hib:i < b.parts.length:=by omega
   obtain ⟨q,hq⟩: ∃q,b.parts[i]? =some q:=⟨_,List.getElem?_eq_getElem hib⟩;have:=g4 i q r hq hr;rw[<-e3] at this;exact ih (e4 i p q hp hq) this}
abbrev Cl:=List UInt8×Option Sh×Option Sh
def callsA (a b:Sh):List Cl:=(a.names.zip a.parts).map (fun x=>(x.1,some x.2,get b x.1))
def callsB (a b:Sh):List Cl:=((b.names.zip b.parts).filter (fun x=>(get a x.1).isNone)).map (fun x=>(x.1,none,some x.2))
def calls (a b:Sh):List Cl:=callsA a b++callsB a b
section
variable {a b : Sh} (A : Rec a) (B : Rec b) {n : List UInt8}
include a b A B n
theorem Z0p {x y:Option Sh}: (n,x,y)∈calls a b ↔ x=get a n/\y=get b n/\(n∈a.names\/n∈b.names):=by
 unfold calls callsA callsB;rw[List.mem_append,List.mem_map,List.mem_map];constructor
 {rintro (⟨⟨m,p⟩,h,e⟩ | ⟨⟨m,p⟩,h,e⟩)
  {simp only[Prod.mk.injEq] at e;obtain ⟨rfl,rfl,rfl⟩:=e;exact ⟨(A.get_iff.2 h).symm,rfl,Or.inl (List.of_mem_zip h).1⟩}
  {simp only[Prod.mk.injEq] at e;obtain ⟨rfl,rfl,rfl⟩:=e;rw[List.mem_filter] at h;refine ⟨?_,(B.get_iff.2 h.1).symm,Or.inr (List.of_mem_zip h.1).1⟩;exact (Option.isNone_iff_eq_none.1 h.2).symm}}
 {rintro ⟨rfl,rfl,h⟩;cases ha:get a n with
  | some p=>exact Or.inl ⟨(n,p),A.get_iff.1 ha,rfl⟩
  | none=>
   have hb:n∈b.names:=h.resolve_left (A.get_none.1 ha);cases hq:get b n with
   | none=>exact absurd hb (B.get_none.1 hq)
   | some q=>exact Or.inr ⟨(n,q),List.mem_filter.2 ⟨B.get_iff.1 hq,by simp[ha]⟩,rfl⟩}
theorem Z2d (h:n∈(calls a b).map Prod.fst):Lex.isName n=true:=by
 obtain ⟨⟨m,x,y⟩,hm,rfl⟩:=List.mem_map.1 h;rcases ((Z0p A B).1 hm).2.2 with h | h
 {exact A.isName h}
 {exact B.isName h}
end
def narrowStep (g:Sh->Sh->Option Sh) (c:Cl):Option Fld:=
 match c with
 | (n,some p,some q)=>(g p q).map (fun x=>(n,x))
 | (_,some _,none)=>none
 | (_,none,_)=>none
def wideStep (g:Sh->Sh->Option Sh) (c:Cl):Option Fld:=
 match c with
 | (n,some p,some q)=>(g p q).map (fun x=>(n,x))
 | (n,some p,none)=>some (n,p)
 | (n,none,some q)=>some (n,q)
 | (_,none,none)=>none
def allOf (s:Cl->Option Fld):List Cl->Option (List Fld)
 | []=>some []
 | c::l=>(s c).bind (fun x=>(allOf s l).map (fun xs=>x::xs))
def placesOf (ga gr:Sh->Sh->Option Sh):List Sh->List Sh->Option (List Sh)
 | [],[]=>some []
 | a::us,b::bs=>(if us.isEmpty then gr a b else ga a b).bind (fun x=>(placesOf ga gr us bs).map (fun xs=>x::xs))
 | [],_::_=>none
 | _::_,[]=>none
def made (k:Int) (l:List Fld):Sh:=⟨k,[],[],l.map Prod.fst,l.map Prod.snd⟩
def bound:Nat->Bool->Sh->Sh->Option Sh
 | 0,_,_,_=>none
 | f+1,up,a,b=>
  if a.kind≠b.kind then none
  else if Narrow up a.kind then some (made a.kind ((calls a b).filterMap (narrowStep (bound f up))))
  else if Wide up a.kind then (allOf (wideStep (bound f up)) (calls a b)).map (made a.kind)
  else if a.of_=b.of_/\a.name=b.name then (placesOf (bound f (!up)) (bound f up) a.parts b.parts).map (fun ps=>⟨a.kind,a.of_,a.name,[],ps⟩)
  else none
section
variable {g : Sh -> Sh -> Option Sh} {c : Cl} {x : Fld}
include g c x
theorem Z2e (h:narrowStep g c=some x):x.1=c.1:=by
 unfold narrowStep at h;split at h
 {obtain ⟨_,_,rfl⟩:=Option.map_eq_some_iff.1 h; rfl}
 {cases h}
 {cases h}
theorem Z1C (h:wideStep g c=some x):x.1=c.1:=by
 unfold wideStep at h;split at h
 {obtain ⟨_,_,rfl⟩:=Option.map_eq_some_iff.1 h; rfl}
 {cases h; rfl}
 {cases h; rfl}
 {cases h}
end
section
variable {s : Cl -> Option Fld} (hs : ∀ c x, s c = some x -> x.1 = c.1)
include s hs
theorem Z2a (l:List Cl): ((l.filterMap s).map Prod.fst).Sublist (l.map Prod.fst):=by
 induction l with
 | nil=>exact List.Sublist.refl _
 | cons c l ih=>
  cases h:s c with
  | none=>rw[List.filterMap_cons_none h,List.map_cons]; exact ih.cons _
  | some x=>rw[List.filterMap_cons_some h,List.map_cons,List.map_cons,hs c x h]; exact ih.cons_cons _
theorem Z2I {l:List Cl} {L:List Fld} (h:allOf s l=some L):L.map Prod.fst=l.map Prod.fst:=by
 induction l generalizing L with
 | nil=>unfold allOf at h; cases h; rfl
 | cons c l ih=>
  unfold allOf at h;obtain ⟨x,hx,h⟩:=Option.bind_eq_some_iff.1 h;obtain ⟨xs,hxs,rfl⟩:=Option.map_eq_some_iff.1 h;rw[List.map_cons,List.map_cons,ih hxs,hs c x hx]
end
theorem Z1N {ga gr:Sh->Sh->Option Sh} {us bs xs:List Sh} (h:placesOf ga gr us bs=some xs):xs.length=us.length/\us.length=bs.length:=by
 induction us generalizing bs xs with
 | nil=>cases bs <;> unfold placesOf at h <;> cases h; exact ⟨rfl,rfl⟩
 | cons a us ih=>
  cases bs with
  | nil=>unfold placesOf at h; cases h
  | cons b bs=>
   unfold placesOf at h;obtain ⟨x,_,h⟩:=Option.bind_eq_some_iff.1 h;obtain ⟨xs,hxs,rfl⟩:=Option.map_eq_some_iff.1 h;have:=ih hxs;simp[this.1,this.2]
theorem Z1b {α:Type} (us:List α):us.isEmpty=true ↔ 0=us.length:=by cases us <;> simp
theorem Z21 {ga gr:Sh->Sh->Option Sh} {us bs xs:List Sh} (h:placesOf ga gr us bs=some xs):
 ∀(i:Nat) (p q:Sh),us[i]? =some p->bs[i]? =some q-> ∃x,xs[i]? =some x/\(if i+1=us.length then gr p q else ga p q)=some x:=by
 induction us generalizing bs xs with
 | nil=>intro i p q hp; simp at hp
 | cons a us ih=>
  cases bs with
  | nil=>intro i p q _ hq; simp at hq
  | cons b bs=>
   unfold placesOf at h;obtain ⟨x,hx,h⟩:=Option.bind_eq_some_iff.1 h;obtain ⟨xs,hxs,rfl⟩:=Option.map_eq_some_iff.1 h;intro i p q hp hq;cases i with
   | zero=>
    simp only[List.getElem?_cons_zero,Option.some.injEq] at hp hq;subst hp hq;refine ⟨x,by simp, ?_⟩;rw[<-hx];by_cases e:us.isEmpty=true
    {rw[if_pos e,if_pos (by have:=(Z1b us).1 e; rw[List.length_cons]; omega)]}
    {rw[if_neg e,if_neg (fun h=>e ((Z1b us).2 (by rw[List.length_cons] at h; omega)))]}
   | succ i=>
    simp only[List.getElem?_cons_succ] at hp hq;obtain ⟨y,hy,e⟩:=ih hxs i p q hp hq;refine ⟨y,by simpa using hy, ?_⟩;rw[<-e];simp
theorem Z2b {ga gr:Sh->Sh->Option Sh} {us bs:List Sh} (hl:us.length=bs.length)
 (h: ∀(i:Nat) (p q:Sh),us[i]? =some p->bs[i]? =some q-> ∃x,(if i+1=us.length then gr p q else ga p q)=some x): ∃xs,placesOf ga gr us bs=some xs:=by
 induction us generalizing bs with
 | nil=>
  cases bs with
  | nil=>exact ⟨[],by unfold placesOf; rfl⟩
  | cons b bs=>simp at hl
 | cons a us ih=>
  cases bs with
  | nil=>simp at hl
  | cons b bs=>
   obtain ⟨x,hx⟩:=h 0 a b (by simp) (by simp);obtain ⟨xs,hxs⟩:=ih (bs:=bs) (by simpa using hl) (fun i p q hp hq=>by
    obtain ⟨y,hy⟩:=h (i+1) p q (by simpa using hp) (by simpa using hq);exact ⟨y,by rw[<-hy]; simp⟩)
   refine ⟨x::xs, ?_⟩;unfold placesOf;rw[show (if us.isEmpty then gr a b else ga a b)=some x from ?_,hxs]
   {rfl}
   {rw[<-hx];by_cases e:us.isEmpty=true
    {rw[if_pos e,if_pos (by have:=(Z1b us).1 e; rw[List.length_cons]; omega)]}
    {rw[if_neg e,if_neg (fun h=>e ((Z1b us).2 (by rw[List.length_cons] at h; omega)))]}}
def sz:Option Sh->Nat
 | some p=>size p
 | none=>0
end
end Sub
namespace Go.Proofs.YtlomianlcnmfgaaDoor
section
open Go.RowKit
theorem Z0l {B:Nat} {a w:World} (h:Below B a w) (n:Nat):Below B a (w.drewN n):=⟨h.os,h.tape,h.output,h.size,h.block⟩
abbrev Y9 (f:FuncId) (a:Array Value) (w:World) (v:Value):Prop:=Calls Tryd.prog f a w fun e w'=>e= .returned v/\Below w.heap.size w w'
abbrev Ya:Array Value:=#[.int .i64 0,.string ⟨#[]⟩,.string ⟨#[]⟩,.int .i64 0,.slice none 0 0,.slice none 0 0,.slice none 0 0,.slice none 0 0,.int .i64 0]
abbrev Yb:Array Value:=#[.int .i64 0,.string ⟨#[]⟩,.string ⟨#[]⟩,.slice none 0 0,.slice none 0 0]
abbrev Yc:Array Value:=#[.int .i64 0,.int .i64 0]
abbrev Yd:Array Value:=#[.int .i64 0,.string ⟨#[]⟩,.int .i64 0]
theorem Y1 {P:Prop} (h:P):Hid P:=Lib.hid h
theorem Y2 {B:Nat} {w:World}:Below B w w:=Below.refl _ _
section
variable {k n : Int} (m : Int) (h : k = n)
include k n m h
theorem Y3 (e: (n==m)=false): (k==m)=false:=by rw[h]; exact e
theorem Y4 (e: (n==m)=true): (k==m)=true:=by rw[h]; exact e
theorem Y5 (e: (n !=m)=false): (k !=m)=false:=by rw[h]; exact e
theorem Y6 (e: (n !=m)=true): (k !=m)=true:=by rw[h]; exact e
end
theorem Z0Y (l:List UInt8): (⟨l.toArray⟩:ByteArray).size=l.length:=by simp[ByteArray.size]
theorem Z35 {B:Nat} {w w':World} (h:Below B w w') (hB:w.heap.size<=B) (row:Option Nat):w.grownBy w' row:=
 ⟨h.os,h.tape,h.output,h.size,fun i hi _=>h.block i (Nat.lt_of_lt_of_le hi hB)⟩
theorem Z00 {w W w':World} (h:Below w.heap.size w W) (hb:Below W.heap.size W w'):Below w.heap.size w w':=h.trans (hb.mono h.size)
theorem Z0z {w W:World} (h:Below w.heap.size w W) (o:Obj):Below w.heap.size w (W.alloc o):=h.alloc h.size o
theorem Z02 (w:World) (o:Obj):Below w.heap.size w (w.alloc o):=(Below.refl _ _).alloc (Nat.le_refl _) _
theorem flip {P:Program} {f:FuncId} {args:Array Value} {w:World} {v:Value} (h:Calls P f args w fun e w'=>e= .returned v/\w=w'):Calls P f args w fun e w'=>e= .returned v/\w'=w:=
 h.mono fun _ _ ⟨he,hw⟩=>⟨he,hw.symm⟩
theorem Z7M: ∀(x y:List UInt8),Op.bytesLess x y=decide (x < y)
 | x,[]=>by simp[Op.bytesLess]
 | [],_::_=>by simp[Op.bytesLess]
 | a::x,b::y=>by
  rw[Op.bytesLess,Z7M x y,Bool.eq_iff_iff];simp[List.cons_lt_cons_iff]
def Strs (w:World) (B:Nat) (A:Option Addr) (ss:List ByteArray):Prop:=
 ss.length=0\/ ∃b off,A=some ⟨b,off,none⟩/\b < B/\ ∀i (h:i < ss.length),w.cell? ⟨b,off+i,none⟩=some (.string (ss[i]'h))
theorem Strs.keep {w w':World} {B B':Nat} {A:Option Addr} {ss:List ByteArray} (h:Strs w B A ss) (hb:Below B' w w') (hB:B<=B'):Strs w' B A ss:=by
 rcases h with h | ⟨b,off,hA,hlt,hc⟩
 {exact Or.inl h}
 {exact Or.inr ⟨b,off,hA,hlt,fun i hi=>(hb.cell (p:=⟨b,off+i,none⟩) (Nat.lt_of_lt_of_le hlt hB)).trans (hc i hi)⟩}
theorem Strs.more {w:World} {B B':Nat} {A:Option Addr} {ss:List ByteArray} (h:Strs w B A ss) (hB:B<=B'):Strs w B' A ss:=by
 rcases h with h | ⟨b,off,hA,hlt,hc⟩
 {exact Or.inl h}
 {exact Or.inr ⟨b,off,hA,Nat.lt_of_lt_of_le hlt hB,hc⟩}
theorem Strs.next {w w':World} {A:Option Addr} {ss:List ByteArray} (h:Strs w w.heap.size A ss) (hb:Below w.heap.size w w'):Strs w' w'.heap.size A ss:=
 (h.keep hb (Nat.le_refl _)).more hb.size
theorem Z2f {w:World} {b o:Nat} {v:Value} (h:w.cell? ⟨b,o,none⟩=some v):b < w.heap.size:=by
 rcases Nat.lt_or_ge b w.heap.size with h' | h'
 {exact h'}
 {simp[World.cell?,Array.getElem?_eq_none h'] at h}
theorem Z3y {w:World} {a:Addr} {ss:List ByteArray} {len:Nat} (hc: ∀i,i < ss.length->w.cell? (a.add i)=some (.string (ss.getD i ByteArray.empty))):Strs w w.heap.size (some a) (ss.take len):=by
 by_cases h0: (ss.take len).length=0
 {exact Or.inl h0}
 {have hpos:0 < ss.length:=by rw[List.length_take] at h0; omega
  obtain ⟨b,off,spot⟩:=a;have h1:=hc 0 hpos;have hspot:spot=none:=by simpa[Addr.add] using World.cell?_spot h1
  subst hspot;refine Or.inr ⟨b,off,rfl,Z2f (o:=off) (by simpa[Addr.add] using h1),fun i hi=> ?_⟩;rw[List.length_take] at hi;have hplain: (⟨b,off,none⟩:Addr).add i=⟨b,off+i,none⟩:=by unfold Addr.add; split <;> simp_all
  rw[<-hplain,hc i (by omega),List.getElem_take];simp[List.getD,List.getElem?_eq_getElem (show i < ss.length by omega)]}
def strs (l:List (List UInt8)):List ByteArray:=l.map fun p=>⟨p.toArray⟩
end
end Go.Proofs.YtlomianlcnmfgaaDoor
namespace Lex
end Lex
namespace Go.Proofs.YtlomianlcnmfgaaDoor
open Go.RowKit
theorem Z4J (s:ByteArray) (n:Nat) (h:n < s.size) (W:World): (Instr.index 9 (.string s) (.int .i64 (n:Int))).run Tryd.prog W= .ok (.int .u8 (s[n]'h).toNat) W:=by
 rw[run_index_string (P:=Tryd.prog) _ _ _ _ _ Tryd.underlying9,dif_pos ⟨by omega,by omega⟩];simp
theorem Z7N (c:UInt8): ((c.toNat:Int)==95)=(c==95):=by
 rw[Bool.eq_iff_iff,beq_iff_eq,beq_iff_eq];constructor
 {intro h; apply UInt8.toNat_inj.1; show c.toNat=95; omega}
 {rintro rfl; rfl}
end Go.Proofs.YtlomianlcnmfgaaDoor
namespace Go.Proofs.YtlomianlcnmfgaaDoor
open Go.RowKit Shp
theorem Z17 {k:IntKind} {a b:Int} (h:a=b):Ending.returned (.int k a)= .returned (.int k b):=by rw[h]
theorem Z0o {a b:Bool} (h:a=b):Ending.returned (.bool a)= .returned (.bool b):=by rw[h]
structure Ptr where
 A:Option Addr
 c:Nat
 P:Option Addr
 d:Nat
abbrev Y8 (t:Shp.Sh) (q:Ptr):Array Value:=#[.int .i64 t.kind,.string ⟨t.of_.toArray⟩,.string ⟨t.name.toArray⟩,.slice q.A t.names.length q.c,.slice q.P t.parts.length q.d]
def Sh5 (w:World) (g o:Nat) (t:Sh) (q:Ptr):Prop:=
 w.cell? ⟨g,o,none⟩=some (.int .i64 t.kind)/\w.cell? ⟨g,o+1,none⟩=some (.string ⟨t.of_.toArray⟩)/\w.cell? ⟨g,o+2,none⟩=some (.string ⟨t.name.toArray⟩)/\
 w.cell? ⟨g,o+3,none⟩=some (.slice q.A t.names.length q.c)/\w.cell? ⟨g,o+4,none⟩=some (.slice q.P t.parts.length q.d)
theorem Sh5.of {w w':World} {g o:Nat} {t:Sh} {q:Ptr} (h:Sh5 w g o t q) (hc: ∀k,w'.cell? ⟨g,k,none⟩=w.cell? ⟨g,k,none⟩):Sh5 w' g o t q:=by
 obtain ⟨h0,h1,h2,h3,h4⟩:=h;exact ⟨(hc _).trans h0,(hc _).trans h1,(hc _).trans h2,(hc _).trans h3,(hc _).trans h4⟩
theorem Sh5.keep {w w':World} {g o B:Nat} {t:Sh} {q:Ptr} (h:Sh5 w g o t q) (hg:g < B) (hb:Below B w w'):Sh5 w' g o t q:=
 h.of (fun k=>hb.cell (p:=⟨g,k,none⟩) hg)
structure Small (t:Sh) (q:Ptr):Prop where
 o:t.of_.length<=9223372036854775807
 n:t.name.length<=9223372036854775807
 ns: ∀x∈t.names,x.length<=9223372036854775807
 l:t.names.length<=9223372036854775807
 m:t.parts.length<=9223372036854775807
 c:t.names.length<=q.c
 d:t.parts.length<=q.d
 A0:q.A=none->q.c=0
 P0:q.P=none->q.d=0
inductive ShAt (w:World) (B:Nat):Ptr->Sh->Prop
 | mk (q:Ptr) (t:Sh) (g off:Nat) (qs:Nat->Ptr) (hs:Small t q) (hn:Strs w B q.A (strs t.names)) (hp:t.parts.length=0\/q.P=some ⟨g,off,none⟩/\g < B)
  (hc: ∀i (h:i < t.parts.length),Sh5 w g (off+i * 5) (t.parts[i]'h) (qs i)) (hr: ∀i (h:i < t.parts.length),ShAt w B (qs i) (t.parts[i]'h)):ShAt w B q t
theorem ShAt.small {w:World} {B:Nat} {q:Ptr} {t:Sh} (h:ShAt w B q t):Small t q:=by cases h; assumption
theorem ShAt.strs {w:World} {B:Nat} {q:Ptr} {t:Sh} (h:ShAt w B q t):Strs w B q.A (strs t.names):=by cases h; assumption
theorem ShAt.part {w:World} {B:Nat} {q:Ptr} {t:Sh} (h:ShAt w B q t):t.parts.length=0\/ ∃(g off:Nat) (qs:Nat->Ptr),q.P=some ⟨g,off,none⟩/\g < B/\(∀i (h:i < t.parts.length),Sh5 w g (off+i * 5) (t.parts[i]'h) (qs i))/\ ∀i (h:i < t.parts.length),ShAt w B (qs i) (t.parts[i]'h):=by
 cases h with
 | mk _ _ g off qs hs hn hp hc hr=>
  rcases hp with hp | ⟨hp,hg⟩
  {exact Or.inl hp}
  {exact Or.inr ⟨g,off,qs,hp,hg,hc,hr⟩}
theorem ShAt.of {w w':World} {B B':Nat} {q:Ptr} {t:Sh} (h:ShAt w B q t) (hB:B<=B') (hc: ∀g k,g < B->w'.cell? ⟨g,k,none⟩=w.cell? ⟨g,k,none⟩):ShAt w' B' q t:=by
 induction h with
 | mk q t g off qs hs hn hp hc' hr ih=>
  refine .mk q t g off qs hs ?_ ?_ ?_ ih
  {rcases hn with h | ⟨b,o,hA,hlt,hcc⟩
   {exact Or.inl h}
   {exact Or.inr ⟨b,o,hA,Nat.lt_of_lt_of_le hlt hB,fun i hi=>(hc b _ hlt).trans (hcc i hi)⟩}}
  {rcases hp with h | ⟨h,hg⟩
   {exact Or.inl h}
   {exact Or.inr ⟨h,Nat.lt_of_lt_of_le hg hB⟩}}
  {intro i hi;rcases hp with h | ⟨h,hg⟩
   {omega}
   {exact (hc' i hi).of (fun k=>hc g k hg)}}
theorem ShAt.keep {w w':World} {B B':Nat} {q:Ptr} {t:Sh} (h:ShAt w B q t) (hb:Below B' w w') (hB:B<=B'):ShAt w' B q t:=
 h.of (Nat.le_refl _) (fun g k hg=>hb.cell (p:=⟨g,k,none⟩) (Nat.lt_of_lt_of_le hg hB))
theorem ShAt.more {w:World} {B B':Nat} {q:Ptr} {t:Sh} (h:ShAt w B q t) (hB:B<=B'):ShAt w B' q t:=h.of hB (fun _ _ _=>rfl)
theorem ShAt.next {w w':World} {q:Ptr} {t:Sh} (h:ShAt w w.heap.size q t) (hb:Below w.heap.size w w'):ShAt w' w'.heap.size q t:=(h.keep hb (Nat.le_refl _)).more hb.size
def Box5 (w:World) (g:Nat) (t:Sh) (q:Ptr):Prop:=
 g < w.heap.size/\Sh5 w g 0 t q/\w.frozen? ⟨g,0,none⟩=false/\w.frozen? ⟨g,1,none⟩=false/\w.frozen? ⟨g,2,none⟩=false/\w.frozen? ⟨g,3,none⟩=false/\w.frozen? ⟨g,4,none⟩=false
theorem Box5.keep {W W':World} {g B:Nat} {t:Sh} {q:Ptr} (h:Box5 W g t q) (hg:g < B) (hb:Below B W W'):Box5 W' g t q:=by
 obtain ⟨h0,h1,f0,f1,f2,f3,f4⟩:=h;exact ⟨Nat.lt_of_lt_of_le h0 hb.size,h1.keep hg hb,(hb.frozen (p:=⟨g,0,none⟩) hg).trans f0,(hb.frozen (p:=⟨g,1,none⟩) hg).trans f1,(hb.frozen (p:=⟨g,2,none⟩) hg).trans f2,(hb.frozen (p:=⟨g,3,none⟩) hg).trans f3,(hb.frozen (p:=⟨g,4,none⟩) hg).trans f4⟩
theorem Box5.next {W W':World} {g:Nat} {t:Sh} {q:Ptr} (h:Box5 W g t q) (hb:Below W.heap.size W W'):Box5 W' g t q:=h.keep h.1 hb
theorem Z03 (w:World) (t:Sh) (q:Ptr):Box5 (w.alloc (.cells (Y8 t q) 25)) w.heap.size t q:=
 ⟨by simp,⟨by simp[go_sem],by simp[go_sem],by simp[go_sem],by simp[go_sem],by simp[go_sem]⟩,by simp[go_sem],by simp[go_sem],by simp[go_sem],by simp[go_sem],by simp[go_sem]⟩
theorem Z0W (b off k:Nat): (⟨b,off,none⟩:Addr).add k=⟨b,off+k,none⟩:=by unfold Addr.add; split <;> simp_all
theorem Z9z (ss:List ByteArray):strs (ss.map fun s=>s.data.toList)=ss:=by
 unfold strs;rw[List.map_map]
 conv=>rhs; rw[<-List.map_id ss]
 rfl
section
variable {H : Type} {enc : TypeId × Value -> H} {W : World} {base : Nat} {held : Bool}
theorem Z8e {fuel:Nat} {cs:List Value} {x:DataW H×List MemPlace} (h:DataW.trod enc Tryd.prog W base (fun _=>true) held fuel 22 cs=some x):
 ∃(A:Option Addr) (l:List (List UInt8)) (c:Nat),cs= [.slice A l.length c]/\Strs W W.heap.size A (strs l)/\l.length<=9223372036854775807/\l.length<=c/\(A=none->c=0)/\ ∀y∈l,y.length<=9223372036854775807:=by
 rcases Go.ChangeShapes.open_strings Tryd.underlying22 Tryd.underlying9 (by kernel_rfl) h with ⟨hcs,_⟩ | ⟨a,len,cap,ss,hcs,_,hl,hm,hz,_,hcell,hws⟩
 {exact ⟨none,[],0,hcs,Or.inl rfl,by simp,by simp,fun _=>rfl,by simp⟩}
 {have hz':ss.length=cap:=by simpa using hz
  unfold maxLen at hm;refine ⟨some a,(ss.take len).map (fun s=>s.data.toList),cap, ?_, ?_, ?_, ?_,by simp, ?_⟩
  {rw[hcs,List.length_map,List.length_take,Nat.min_eq_left (by omega)]}
  {rw[Z9z]; exact Z3y hcell}
  {rw[List.length_map,List.length_take]; omega}
  {rw[List.length_map,List.length_take]; omega}
  {intro y hy;obtain ⟨s,hs,rfl⟩:=List.mem_map.1 hy;have:=hws s (List.mem_of_mem_take hs);unfold maxLen at this
   rwa [Lib.size_eq] at this}}
theorem Z8f: ∀(fuel:Nat) {cs:List Value} {x:DataW H×List MemPlace},DataW.trod enc Tryd.prog W base (fun _=>true) held fuel 25 cs=some x->
 ∃(t:Sh) (q:Ptr),cs= [.int .i64 t.kind,.string ⟨t.of_.toArray⟩,.string ⟨t.name.toArray⟩,.slice q.A t.names.length q.c,.slice q.P t.parts.length q.d]/\ShAt W W.heap.size q t:=by
 intro fuel;induction fuel using Nat.strongRecOn with
 | _ fuel IH=>
 intro cs x h;obtain ⟨xs,n,hn,_,hlen,hxl,hf⟩:=DataW.trod_struct Tryd.underlying25 h;have hC:Tryd.prog.cellsOf 25=5:=by kernel_rfl
 have c1:Tryd.prog.cellsOf 3=1:=by kernel_rfl
 have c9:Tryd.prog.cellsOf 9=1:=by kernel_rfl
 have c22:Tryd.prog.cellsOf 22=1:=by kernel_rfl
 have c23:Tryd.prog.cellsOf 23=1:=by kernel_rfl
 rw[hC] at hlen
 match cs,hlen with
 | [a0,a1,a2,a3,a4],_=>
  have f0:=hf 0 _ rfl;have f1:=hf 1 _ rfl;have f2:=hf 2 _ rfl;have f3:=hf 3 _ rfl;have f4:=hf 4 _ rfl;have hz:xs.length=5:=hxl;change DataW.trod enc _ W base _ held n 3 (([a0,a1,a2,a3,a4].drop 0).take (Tryd.prog.cellsOf 3))=_ at f0;change DataW.trod enc _ W base _ held n 9 (([a0,a1,a2,a3,a4].drop 1).take (Tryd.prog.cellsOf 9))=_ at f1;change DataW.trod enc _ W base _ held n 9 (([a0,a1,a2,a3,a4].drop 2).take (Tryd.prog.cellsOf 9))=_ at f2;change DataW.trod enc _ W base _ held n 22 (([a0,a1,a2,a3,a4].drop 3).take (Tryd.prog.cellsOf 22))=_ at f3;change DataW.trod enc _ W base _ held n 23 (([a0,a1,a2,a3,a4].drop 4).take (Tryd.prog.cellsOf 23))=_ at f4;rw[c1,List.getElem?_eq_getElem (by omega)] at f0;rw[c9,List.getElem?_eq_getElem (by omega)] at f1 f2;rw[c22,List.getElem?_eq_getElem (by omega)] at f3;rw[c23,List.getElem?_eq_getElem (by omega)] at f4;obtain ⟨b0,hb0,_,_⟩:=DataW.trod_int Tryd.underlying3 f0;obtain ⟨b1,hb1,_,hm1⟩:=DataW.trod_string Tryd.underlying9 f1;obtain ⟨b2,hb2,_,hm2⟩:=DataW.trod_string Tryd.underlying9 f2;obtain ⟨A,l,c,hb3,hS,hl,hlc,hA0,hly⟩:=Z8e f3;unfold maxLen at hm1 hm2;simp at hb0 hb1 hb2 hb3;subst hb0 hb1 hb2 hb3;rcases DataW.trod_slice Tryd.underlying23 f4 with ⟨hb4,_⟩ | ⟨a,len,cap,elems,rest,n2,hn2,hb4,_,hb,hle,hmm,hel,hx,_⟩
  {simp at hb4;subst hb4;exact ⟨⟨b0,b1.data.toList,b2.data.toList,l,[]⟩,⟨A,c,none,0⟩,rfl,
    .mk _ _ 0 0 (fun _=>⟨none,0,none,0⟩) ⟨by rw[<-Lib.size_eq]; exact hm1,by rw[<-Lib.size_eq]; exact hm2,hly,hl,by simp,hlc,by simp,hA0,fun _=>rfl⟩ hS (Or.inl rfl) (fun i h=>absurd h (by simp)) (fun i h=>absurd h (by simp))⟩}
  {simp at hb4;subst hb4;unfold maxLen at hmm;have hv: ∀i,∃u:Sh×Ptr,i < len->W.cell? (a.add (i * 5+0))=some (.int .i64 u.1.kind)/\W.cell? (a.add (i * 5+1))=some (.string ⟨u.1.of_.toArray⟩)/\W.cell? (a.add (i * 5+2))=some (.string ⟨u.1.name.toArray⟩)/\
    W.cell? (a.add (i * 5+3))=some (.slice u.2.A u.1.names.length u.2.c)/\W.cell? (a.add (i * 5+4))=some (.slice u.2.P u.1.parts.length u.2.d)/\ShAt W W.heap.size u.2 u.1:=by
    intro i;by_cases hi:i < len
    {have h1:=hx i hi;rw[hC,List.getElem?_eq_getElem (by omega)] at h1;cases hcs:W.cells? base (a.add (i * 5)) 5 with
     | none=>rw[hcs] at h1; cases h1
     | some cs'=>
      rw[hcs] at h1;obtain ⟨u,q,hu,hat⟩:=IH n2 (by omega) h1;subst hu;obtain ⟨_,hcl,hat'⟩:=World.cells?_some hcs;refine ⟨(u,q),fun _=>⟨?_, ?_, ?_, ?_, ?_,hat⟩⟩
      {rw[<-Go.Deep.add_add]; exact hat' 0 (by omega)}
      {rw[<-Go.Deep.add_add]; exact hat' 1 (by omega)}
      {rw[<-Go.Deep.add_add]; exact hat' 2 (by omega)}
      {rw[<-Go.Deep.add_add]; exact hat' 3 (by omega)}
      {rw[<-Go.Deep.add_add]; exact hat' 4 (by omega)}}
    {exact ⟨(⟨0,[],[],[],[]⟩,⟨none,0,none,0⟩),fun h=>absurd h hi⟩}
   let f:=fun i=>(hv i).choose
   have hf2: ∀i,i < len->W.cell? (a.add (i * 5+0))=some (.int .i64 (f i).1.kind)/\W.cell? (a.add (i * 5+1))=some (.string ⟨(f i).1.of_.toArray⟩)/\W.cell? (a.add (i * 5+2))=some (.string ⟨(f i).1.name.toArray⟩)/\
    W.cell? (a.add (i * 5+3))=some (.slice (f i).2.A (f i).1.names.length (f i).2.c)/\W.cell? (a.add (i * 5+4))=some (.slice (f i).2.P (f i).1.parts.length (f i).2.d)/\ShAt W W.heap.size (f i).2 (f i).1:=fun i=>(hv i).choose_spec
   have hln: ((List.range len).map fun i=>(f i).1).length=len:=by simp
   refine ⟨⟨b0,b1.data.toList,b2.data.toList,l,(List.range len).map fun i=>(f i).1⟩,⟨A,c,some a,cap⟩,by simp, ?_⟩;obtain ⟨b,off,spot⟩:=a;have hsm:Small ⟨b0,b1.data.toList,b2.data.toList,l,(List.range len).map fun i=>(f i).1⟩ ⟨A,c,some ⟨b,off,spot⟩,cap⟩:=
    ⟨by rw[<-Lib.size_eq]; exact hm1,by rw[<-Lib.size_eq]; exact hm2,hly,hl,by simp; omega,hlc,by simp; omega,hA0,fun h=>by cases h⟩
   by_cases h0:len=0
   {exact .mk _ _ 0 0 (fun _=>⟨none,0,none,0⟩) hsm hS (Or.inl (by simp[h0])) (fun i h=>absurd h (by simp[h0])) (fun i h=>absurd h (by simp[h0]))}
   {have h1:=(hf2 0 (by omega)).1;have hspot:spot=none:=by simpa[Addr.add] using World.cell?_spot h1
    subst hspot;have hplain: ∀k,(⟨b,off,none⟩:Addr).add k=⟨b,off+k,none⟩:=fun k=>Z0W b off k;refine .mk _ _ b off (fun i=>(f i).2) hsm hS (Or.inr ⟨rfl, ?_⟩) ?_ ?_
    {rw[hplain] at h1;exact Z2f h1}
    {intro i hi;have hin:i < len:=by simpa using hi
     obtain ⟨g0,g1,g2,g3,g4,_⟩:=hf2 i hin;simp only[hplain] at g0 g1 g2 g3 g4;simp only[List.getElem_map,List.getElem_range];exact ⟨g0,g1,g2,g3,g4⟩}
    {intro i hi;have hin:i < len:=by simpa using hi
     simp only[List.getElem_map,List.getElem_range];exact (hf2 i hin).2.2.2.2.2}}}
end
end Go.Proofs.YtlomianlcnmfgaaDoor
namespace Go.Proofs.YtlomianlcnmfgaaDoor
section
open Go.RowKit Shp
theorem Z3l (l:List (List UInt8)): (strs l).length=l.length:=by simp[strs]
structure TxR (W:World) (g:Nat) (ts:List (List UInt8)):Prop where
 lt:g < W.heap.size
 at_: ∀j (h:j < ts.length),W.cell? ⟨g,j,none⟩=some (.string ⟨(ts[j]'h).toArray⟩)
 fz: ∀o,W.frozen? ⟨g,o,none⟩=false
theorem TxR.keep {W W':World} {g B:Nat} {ts:List (List UInt8)} (h:TxR W g ts) (hg:g < B) (hb:Below B W W'):TxR W' g ts:=
 ⟨Nat.lt_of_lt_of_le h.lt hb.size,fun j hj=>(hb.cell (p:=⟨g,j,none⟩) hg).trans (h.at_ j hj),fun o=>(hb.frozen (p:=⟨g,o,none⟩) hg).trans (h.fz o)⟩
theorem TxR.next {W W':World} {g:Nat} {ts:List (List UInt8)} (h:TxR W g ts) (hb:Below W.heap.size W W'):TxR W' g ts:=h.keep h.lt hb
end
end Go.Proofs.YtlomianlcnmfgaaDoor
