/- What the proofs of GradualBetweens want, part 0. -/
import Derived.Test.YtlomianlcnmfgaaGreatDoorRows
import Derived.WalkKit
import Derived.Lib.Hide
import Derived.Lib.Strings
import Derived.Lib.Builder
import Derived.BigQuiet
import Derived.Laws.Cover1
import Derived.SliceStrings
import Derived.SizedLaws
import Derived.OpenShut
import Derived.Deep.AppendLies
import Derived.StillTailTactics
set_option linter.unusedVariables false
set_option linter.unusedSimpArgs false
set_option linter.unusedSectionVars false
set_option maxRecDepth 100000
set_option maxHeartbeats 16000000
namespace Utf
section
def pt (p:Int):Bool:=decide (0<=p)&&decide (p<=1114111)&&(decide (p < 55296)||decide (57343 < p))
def byte (x:Int):UInt8:=UInt8.ofNat (x % 256).toNat
def bytes (p:Int):List UInt8:=
 if p < 128 then [byte p]
 else if p < 2048 then [byte (192+p / 64),byte (128+p % 64)]
 else if p < 65536 then [byte (224+p / 4096),byte (128+p / 64 % 64),byte (128+p % 64)]
 else [byte (240+p / 262144),byte (128+p / 4096 % 64),byte (128+p / 64 % 64),byte (128+p % 64)]
def lead (a:Nat):Nat×Int:=
 if 240<=a then (4,(a:Int) - 240) else if 224<=a then (3,(a:Int) - 224) else if 192<=a then (2,(a:Int) - 192) else (1,a)
def val (p:Int):List UInt8->Int
 | []=>p
 | b::r=>val (p * 64+b.toNat - 128) r
def first:List UInt8->Int×Nat
 | []=>(0,0)
 | a::r=>
  if (lead a.toNat).1<=r.length+1/\pt (val (lead a.toNat).2 (r.take ((lead a.toNat).1 - 1)))=true/\
   bytes (val (lead a.toNat).2 (r.take ((lead a.toNat).1 - 1)))=(a::r).take (lead a.toNat).1
  then (val (lead a.toNat).2 (r.take ((lead a.toNat).1 - 1)),(lead a.toNat).1) else (0,0)
def enc (ps:List Int):List UInt8:=ps.flatMap bytes
def step (l:List UInt8) (k:Nat):Nat:=if (first (l.drop k)).2=0 then 1 else (first (l.drop k)).2
end
end Utf
namespace Sem
section
def dig (c:UInt8):Bool:=decide (48<=c.toNat)&&decide (c.toNat<=57)
def okc (c:UInt8):Bool:=(decide (97<=c.toNat)&&decide (c.toNat<=122))||(decide (65<=c.toNat)&&decide (c.toNat<=90))||decide (c.toNat=45)||dig c
def digits (l:List UInt8):Bool:= !l.isEmpty&&l.all dig
def part (l:List UInt8):Bool:= !l.isEmpty&&l.all okc&&(!digits l||l== [48]||l.head? !=some 48)
def parts:List UInt8->List (List UInt8)
 | []=> [[]]
 | c::r=>if c=46 then []::parts r else match parts r with
  | []=> [[c]]
  | p::ps=>(c::p)::ps
def join:List (List UInt8)->List UInt8
 | []=> []
 | [p]=>p
 | p::q::ps=>p++46::join (q::ps)
structure Ver where
 maj:Int
 min:Int
 pat:Int
 pre:List UInt8
deriving DecidableEq
def dec (n:Nat):List UInt8:=if h:n < 10 then [UInt8.ofNat (48+n)] else dec (n / 10)++ [UInt8.ofNat (48+n % 10)]
termination_by n
def text (v:Ver):List UInt8:=dec v.maj.toNat++46::(dec v.min.toNat++46::(dec v.pat.toNat++if v.pre= [] then [] else 45::v.pre))
def put (t:Nat×Nat×Nat) (k x:Nat):Nat×Nat×Nat:=if k=0 then (x,t.2.1,t.2.2) else if k=1 then (t.1,x,t.2.2) else (t.1,t.2.1,x)
def get (t:Nat×Nat×Nat) (k:Nat):Nat:=if k=0 then t.1 else if k=1 then t.2.1 else t.2.2
def num (l:List UInt8):Nat:=l.foldl (fun a c=>10 * a+(c.toNat - 48)) 0
def partKey (p:List UInt8):List Int:=if digits p then [0,(num p:Int)] else 1::p.map fun c=>(c.toNat:Int)
def preKey (p:List UInt8):List (List Int):=if p= [] then [[2]] else [1]::(parts p).map partKey
def key (v:Ver):List (List Int):= [v.maj]:: [v.min]:: [v.pat]::preKey v.pre
end
end Sem
namespace Lex
section
def small (c:UInt8):Bool:=decide (97<=c.toNat)&&decide (c.toNat<=122)
def great (c:UInt8):Bool:=decide (65<=c.toNat)&&decide (c.toNat<=90)
def digit (c:UInt8):Bool:=decide (48<=c.toNat)&&decide (c.toNat<=57)
def nameB (c:UInt8):Bool:=small c||great c||digit c||c==95
def words:List (List UInt8):= [[109,111,100,117,108,101],[105,109,112,111,114,116],[112,105,110],[114,97,110,103,101],[116,121,112,101],[111,112,97,113,117,101],[108,101,116],[105,110],[101,120,112,111,114,116],[102,117,110],[105,102],[116,104,101,110],[101,108,115,101],[99,97,115,101],[111,102],[97,115],[110,101,119],[114,97,119],[116,114,117,101],[102,97,108,115,101]]
def isWord (s:List UInt8):Bool:=words.contains s
def isName (s:List UInt8):Bool:=match s with
 | []=>false
 | c::_=>decide (s.length<=24)&&small c&&s.all nameB&& !isWord s
def isUpper (s:List UInt8):Bool:=match s with
 | []=>false
 | c::_=>decide (s.length<=24)&&great c&&s.all nameB
structure Tok where
 kind:Int
 text:List UInt8
deriving DecidableEq
end
end Lex
namespace Shp
section
structure Sh where
 kind:Int
 of_:List UInt8
 name:List UInt8
 names:List (List UInt8)
 parts:List Sh
mutual
def size:Sh->Nat
 | ⟨_,_,_,_,ps⟩=>1+sizes ps
def sizes:List Sh->Nat
 | []=>0
 | p::ps=>size p+sizes ps
end
mutual
def deep:Sh->Nat
 | ⟨_,_,_,_,ps⟩=>deeps ps+1
def deeps:List Sh->Nat
 | []=>0
 | p::ps=>max (deep p) (deeps ps)
end
theorem size_eq (t:Sh):size t=1+sizes t.parts:=by cases t; rfl
theorem Z0j (t:Sh):deep t=deeps t.parts+1:=by cases t; rfl
theorem Z3n (t:Sh):1<=size t:=by rw[size_eq]; omega
section
variable {l : List Sh} {p : Sh} (h : p ∈ l)
include l p h
theorem Z1x:size p<=sizes l:=by
 induction l with
 | nil=>cases h
 | cons a l ih=>
  rcases List.mem_cons.1 h with rfl | h
  {simp[sizes]}
  {have:=ih h; simp[sizes]; omega}
theorem Z0v:deep p<=deeps l:=by
 induction l with
 | nil=>cases h
 | cons a l ih=>
  rcases List.mem_cons.1 h with rfl | h
  {simp[deeps]; omega}
  {have:=ih h; simp[deeps]; omega}
end
theorem Sh.ind {P:Sh->Prop} (h: ∀t,(∀p∈t.parts,P p)->P t) (t:Sh):P t:=by
 have: ∀n t,size t<=n->P t:=by
  intro n;induction n with
  | zero=>intro t ht; have:=Z3n t; omega
  | succ n ih=>
   intro t ht;refine h t (fun p hp=>ih p ?_);have:=Z1x hp;rw[size_eq] at ht;omega
 exact this _ t (Nat.le_refl _)
theorem Z3R (l m:List Sh):sizes (l++m)=sizes l+sizes m:=by
 induction l with
 | nil=>simp[sizes]
 | cons a l ih=>simp[sizes,ih]; omega
theorem Z3S (l m:List Sh):deeps (l++m)=max (deeps l) (deeps m):=by
 induction l with
 | nil=>simp[deeps]
 | cons a l ih=>simp[deeps,ih,Nat.max_assoc]
theorem Z2h {α:Type} {l:List α} {i:Nat} (h:i < l.length):l.take (i+1)=l.take i++ [l[i]'h]:=by rw[List.take_succ_eq_append_getElem h]
section
variable {l : List Sh} {i : Nat} (h : i < l.length)
include l i h
theorem Z2m:sizes (l.take (i+1))=sizes (l.take i)+size (l[i]'h):=by rw[Z2h h,Z3R]; simp[sizes]
theorem Z3o:deeps (l.take (i+1))=max (deeps (l.take i)) (deep (l[i]'h)):=by rw[Z2h h,Z3S]; simp[deeps]
end
theorem Z3p (l:List Sh) (i:Nat):sizes (l.take i)<=sizes l:=by
 have:=Z3R (l.take i) (l.drop i);rw[List.take_append_drop] at this;omega
theorem Z3q (l:List Sh) (i:Nat):deeps (l.take i)<=deeps l:=by
 have:=Z3S (l.take i) (l.drop i);rw[List.take_append_drop] at this;omega
theorem Z0L (l:List Sh):l.length<=sizes l:=by
 induction l with
 | nil=>simp
 | cons a l ih=>have:=Z3n a; simp[sizes]; omega
theorem Z1O (t:Sh):deep t<=size t:=by
 induction t using Sh.ind with
 | h t ih=>
  rw[Z0j,size_eq];have: ∀l:List Sh,(∀p∈l,deep p<=size p)->deeps l<=sizes l:=by
   intro l;induction l with
   | nil=>simp[deeps]
   | cons a l ihl=>
    intro h;have h1:=h a (by simp);have h2:=ihl (fun p hp=>h p (by simp[hp]));simp[deeps,sizes]; omega
  have:=this _ ih;omega
def sizeTo (m:Nat) (t:Sh):Nat:=min (size t) (m+1)
def noDup:List (List UInt8)->Bool
 | []=>true
 | x::l=> !l.contains x&&noDup l
def areNames (l:List (List UInt8)):Bool:=l.all Lex.isName&&noDup l
def plain (s:List UInt8):Bool:=s== [73,110,116]||s== [66,111,111,108]||s== [84,101,120,116]||s== [65,110,121]
def bare (t:Sh):Bool:=t.of_== []&&t.name== []
def fits (t:Sh):Bool:=
 if t.kind=9\/t.kind=10 then Lex.isUpper t.name&&(Lex.isName t.of_||(t.of_== []&&decide (t.kind=9)&& !plain t.name))&&decide (t.names.length=0)&&decide (t.parts.length=0)
 else if bare t=false then false
 else if t.kind=6\/t.kind=7 then areNames t.names&&decide (t.names.length=t.parts.length)
 else if 0 < t.names.length then false
 else if t.kind=8 then decide (1<=t.parts.length)
 else if t.kind=5 then decide (t.parts.length=1)
 else decide (1<=t.kind)&&decide (t.kind<=4)&&decide (t.parts.length=0)
mutual
def right:Sh->Bool
 | ⟨k,o,n,ns,ps⟩=>fits ⟨k,o,n,ns,ps⟩&&rights ps
def rights:List Sh->Bool
 | []=>true
 | p::ps=>right p&&rights ps
end
theorem Z2x (t:Sh):right t=(fits t&&rights t.parts):=by cases t; rfl
theorem Z3r (l:List Sh):rights l=l.all right:=by
 induction l with
 | nil=>rfl
 | cons a l ih=>simp[rights,ih]
def check (t:Sh):Int:=if 400 < size t then 3 else if 40 < deep t then 91 else if right t=false then 70 else 0
abbrev Fld:=List UInt8×Sh
def ins (x:Fld):List Fld->List Fld
 | []=> [x]
 | y::l=>if y.1 < x.1 then y::ins x l else x::y::l
def sortF (l:List Fld):List Fld:=l.foldl (fun a x=>ins x a) []
mutual
def sorted:Sh->Sh
 | ⟨k,o,n,ns,ps⟩=>if ns= [] then ⟨k,o,n,[],sorteds ps⟩ else ⟨k,o,n,(sortF (ns.zip (sorteds ps))).map Prod.fst,(sortF (ns.zip (sorteds ps))).map Prod.snd⟩
def sorteds:List Sh->List Sh
 | []=> []
 | p::ps=>sorted p::sorteds ps
end
theorem Z75 (l:List Sh):sorteds l=l.map sorted:=by
 induction l with
 | nil=>rfl
 | cons a l ih=>simp[sorteds,ih]
theorem Z0n (t:Sh):sorted t=if t.names= [] then ⟨t.kind,t.of_,t.name,[],t.parts.map sorted⟩ else ⟨t.kind,t.of_,t.name,(sortF (t.names.zip (t.parts.map sorted))).map Prod.fst,(sortF (t.names.zip (t.parts.map sorted))).map Prod.snd⟩:=by
 cases t with
 | mk k o n ns ps=>rw[<-Z75]; rfl
mutual
def eqB:Sh->Sh->Bool
 | ⟨k,o,n,ns,ps⟩,⟨k',o',n',ns',ps'⟩=>k==k'&&o==o'&&n==n'&&ns==ns'&&eqs ps ps'
def eqs:List Sh->List Sh->Bool
 | [],[]=>true
 | p::ps,q::qs=>eqB p q&&eqs ps qs
 | [],_::_=>false
 | _::_,[]=>false
end
theorem Z9G (t u:Sh):eqB t u=(t.kind==u.kind&&t.of_==u.of_&&t.name==u.name&&t.names==u.names&&eqs t.parts u.parts):=by cases t; cases u; rfl
theorem Z4K {l:List Sh} (h: ∀p∈l,∀u,eqB p u=true ↔ p=u): ∀m,eqs l m=true ↔ l=m:=by
 induction l with
 | nil=>intro m; cases m <;> simp[eqs]
 | cons a l ih=>
  intro m;cases m with
  | nil=>simp[eqs]
  | cons b m=>simp[eqs,h a (by simp) b,ih (fun p hp=>h p (by simp[hp])) m]
theorem Z3d (t u:Sh):eqB t u=true ↔ t=u:=by
 induction t using Sh.ind generalizing u with
 | h t ih=>
  rw[Z9G];cases t; cases u;simp[Z4K ih,and_assoc]
theorem Z85 (l m:List Sh):eqs l m=true ↔ l=m:=Z4K (fun p _ u=>Z3d p u) m
theorem Z2y (t:Sh):eqB t t=true:=(Z3d t t).2 rfl
theorem Z5d {t u:Sh} (h:t≠u):eqB t u=false:=by
 cases e:eqB t u with
 | false=>rfl
 | true=>exact absurd ((Z3d t u).1 e) h
def field (n t:List UInt8):List UInt8:=n++ [58,32]++t
def fields (ns ts:List (List UInt8)):List (List UInt8):=if ns= [] then ts else List.zipWith field ns ts
def named (t:Sh):List UInt8:=if t.of_= [] then t.name else t.of_++ [47]++t.name
def join (sep:List UInt8) (l:List (List UInt8)):List UInt8:=sep.intercalate l
def textOf (k:Int) (o n:List UInt8) (ns ts:List (List UInt8)):List UInt8:=
 if k=1 then [73,110,116] else if k=2 then [66,111,111,108] else if k=3 then [84,101,120,116] else if k=4 then [65,110,121]
 else if k=5 then [91]++ts.headD []++ [93]
 else if k=6 then [123]++join [44,32] (fields ns ts)++ [125]
 else if k=7 then [60]++join [32,124,32] (fields ns ts)++ [62]
 else if k=8 then [40]++join [44,32] ts.dropLast++ [41,32,45,62,32]++ts.getLastD []
 else if o= [] then n else o++ [47]++n
mutual
def text:Sh->List UInt8
 | ⟨k,o,n,ns,ps⟩=>textOf k o n ns (texts ps)
def texts:List Sh->List (List UInt8)
 | []=> []
 | p::ps=>text p::texts ps
end
theorem Z77 (l:List Sh):deeps l<=sizes l:=by
 induction l with
 | nil=>simp[deeps]
 | cons a l ih=>have:=Z1O a; simp[deeps,sizes]; omega
theorem Z5j (l:List (List UInt8)):noDup l=true ↔ l.Nodup:=by
 induction l with
 | nil=>simp[noDup]
 | cons a l ih=>simp[noDup,ih]
theorem Z0M (l:List (List UInt8)):areNames l=true ↔ (∀x∈l,Lex.isName x=true)/\l.Nodup:=by
 simp[areNames,Z5j]
section
variable {l : List (List UInt8)}
include l
theorem Z3U {i:Nat} (hi:i < l.length) (h:Lex.isName (l[i]'hi)=false):areNames l=false:=by
 cases e:areNames l with
 | false=>rfl
 | true=>rw[((Z0M l).1 e).1 _ (List.getElem_mem hi)] at h; cases h
theorem Z3e {i k:Nat} (hi:i < l.length) (hk:k < i) (h:l[k]'(by omega)=l[i]'hi):areNames l=false:=by
 cases e:areNames l with
 | false=>rfl
 | true=>
  have:=((Z0M l).1 e).2;have:=(List.pairwise_iff_getElem.1 this) k i (by omega) hi hk;exact absurd h this
theorem Z4h (h1: ∀i (hi:i < l.length),Lex.isName (l[i]'hi)=true) (h2: ∀i (hi:i < l.length),∀k (hk:k < i),l[k]'(by omega)≠l[i]'hi):areNames l=true:=by
 refine (Z0M l).2 ⟨fun x hx=> ?_, ?_⟩
 {obtain ⟨i,hi,rfl⟩:=List.getElem_of_mem hx; exact h1 i hi}
 {exact List.pairwise_iff_getElem.2 (fun k i hk hi hki=>h2 i hi k hki)}
end
def ofOk (t:Sh):Bool:=Lex.isName t.of_||(t.of_== []&&decide (t.kind=9)&& !plain t.name)
section
variable {t : Sh}
include t
theorem Z2O (h:t.kind=9\/t.kind=10):fits t=(Lex.isUpper t.name&&ofOk t&&decide (t.names.length=0)&&decide (t.parts.length=0)):=by unfold fits ofOk; rw[if_pos h]
theorem Z17 (h: ¬(t.kind=9\/t.kind=10)) (hb:bare t=false):fits t=false:=by unfold fits; rw[if_neg h,if_pos hb]
theorem Z2z (hb:bare t=true) (h:t.kind=6\/t.kind=7):fits t=(areNames t.names&&decide (t.names.length=t.parts.length)):=by
 unfold fits; rw[if_neg (by omega),if_neg (by rw[hb]; decide),if_pos h]
theorem Z1P (h: ¬(t.kind=9\/t.kind=10)) (hb:bare t=true) (h2: ¬(t.kind=6\/t.kind=7)) (h3:0 < t.names.length):fits t=false:=by
 unfold fits; rw[if_neg h,if_neg (by rw[hb]; decide),if_neg h2,if_pos h3]
theorem Z4y (hb:bare t=true) (h:t.kind=8) (h3: ¬0 < t.names.length):fits t=decide (1<=t.parts.length):=by
 unfold fits; rw[if_neg (by omega),if_neg (by rw[hb]; decide),if_neg (by omega),if_neg h3,if_pos h]
theorem Z3V (hb:bare t=true) (h:t.kind=5) (h3: ¬0 < t.names.length):fits t=decide (t.parts.length=1):=by
 unfold fits; rw[if_neg (by omega),if_neg (by rw[hb]; decide),if_neg (by omega),if_neg h3,if_neg (by omega),if_pos h]
theorem Z2P (hb:bare t=true) (h: ¬(t.kind=9\/t.kind=10)) (h2: ¬(t.kind=6\/t.kind=7)) (h3: ¬0 < t.names.length) (h4:t.kind≠8) (h5:t.kind≠5):
 fits t=(decide (1<=t.kind)&&decide (t.kind<=4)&&decide (t.parts.length=0)):=by
 unfold fits; rw[if_neg h,if_neg (by rw[hb]; decide),if_neg h2,if_neg h3,if_neg h4,if_neg h5]
end
theorem Z0Q (t:Sh):bare t=true ↔ t.of_= []/\t.name= []:=by simp[bare]
theorem Zbn {t:Sh} (h: (t.of_== [])=false):bare t=false:=by simp[bare,h]
theorem Z9I {t:Sh} (h: (t.name== [])=false):bare t=false:=by simp[bare,h]
theorem Z0b {t:Sh} (h:right t=true):fits t=true:=by rw[Z2x,Bool.and_eq_true] at h; exact h.1
theorem Z03 {t p:Sh} (h:right t=true) (hp:p∈t.parts):right p=true:=by
 rw[Z2x,Z3r,Bool.and_eq_true,List.all_eq_true] at h; exact h.2 p hp
theorem Z1k {t:Sh} (h:fits t=true) (hp: ∀p∈t.parts,right p=true):right t=true:=by
 rw[Z2x,Z3r,Bool.and_eq_true,List.all_eq_true]; exact ⟨h,hp⟩
theorem Z9J {t p:Sh} (hp:p∈t.parts) (h:right p=false):right t=false:=by
 cases e:right t with
 | false=>rfl
 | true=>rw[Z03 e hp] at h; cases h
theorem Z1l {s:List UInt8} (h:Lex.isName s=true):s.length<=24:=by
 cases s with
 | nil=>simp
 | cons c r=>
  have:Lex.isName (c::r)=(decide ((c::r).length<=24)&&Lex.small c&&(c::r).all Lex.nameB&& !Lex.isWord (c::r)):=rfl;rw[this] at h;simp only[Bool.and_eq_true,decide_eq_true_eq] at h;exact h.1.1.1
theorem Z78 {s:List UInt8} (h:Lex.isUpper s=true):s.length<=24:=by
 cases s with
 | nil=>simp
 | cons c r=>
  have:Lex.isUpper (c::r)=(decide ((c::r).length<=24)&&Lex.great c&&(c::r).all Lex.nameB):=rfl;rw[this] at h;simp only[Bool.and_eq_true,decide_eq_true_eq] at h;exact h.1.1
theorem Z1C {t:Sh} (h:fits t=true):
 (1<=t.kind/\t.kind<=4/\t.names= []/\t.parts= [])\/(t.kind=5/\t.names= []/\t.parts.length=1)\/((t.kind=6\/t.kind=7)/\t.names.length=t.parts.length/\areNames t.names=true)\/
 (t.kind=8/\t.names= []/\1<=t.parts.length)\/((t.kind=9\/t.kind=10)/\t.names= []/\t.parts= []/\t.name.length<=24/\t.of_.length<=24):=by
 by_cases h9:t.kind=9\/t.kind=10
 {rw[Z2O h9] at h;simp only[Bool.and_eq_true,decide_eq_true_eq] at h;obtain ⟨⟨⟨h1,h2⟩,h3⟩,h4⟩:=h;refine Or.inr (Or.inr (Or.inr (Or.inr ⟨h9,List.eq_nil_of_length_eq_zero h3,List.eq_nil_of_length_eq_zero h4,Z78 h1, ?_⟩)));unfold ofOk at h2;cases hn:Lex.isName t.of_ with
  | true=>exact Z1l hn
  | false=>
   rw[hn] at h2;simp at h2;rw[h2.1.1]; simp}
 {cases hb:bare t with
  | false=>rw[Z17 h9 hb] at h; cases h
  | true=>
   by_cases h6:t.kind=6\/t.kind=7
   {rw[Z2z hb h6,Bool.and_eq_true,decide_eq_true_eq] at h;exact Or.inr (Or.inr (Or.inl ⟨h6,h.2,h.1⟩))}
   {by_cases hz:0 < t.names.length
    {rw[Z1P h9 hb h6 hz] at h; cases h}
    {have hn:t.names= []:=List.eq_nil_of_length_eq_zero (by omega);by_cases h8:t.kind=8
     {rw[Z4y hb h8 hz,decide_eq_true_eq] at h;exact Or.inr (Or.inr (Or.inr (Or.inl ⟨h8,hn,h⟩)))}
     {by_cases h5:t.kind=5
      {rw[Z3V hb h5 hz,decide_eq_true_eq] at h;exact Or.inr (Or.inl ⟨h5,hn,h⟩)}
      {rw[Z2P hb h9 h6 hz h8 h5] at h;simp only[Bool.and_eq_true,decide_eq_true_eq] at h;exact Or.inl ⟨h.1.1,h.1.2,hn,List.eq_nil_of_length_eq_zero h.2⟩}}}}}
end
end Shp
namespace Go.Proofs.YtlomianlcnmfgaaGreatDoor
section
open Shp
theorem Z4z (x:Fld): ∀l:List Fld,(ins x l).Perm (x::l)
 | []=>List.Perm.refl _
 | y::l=>by
  unfold ins;split
  {exact ((Z4z x l).cons y).trans (List.Perm.swap x y l)}
  {exact List.Perm.refl _}
theorem Z3W: ∀(l a:List Fld),(l.foldl (fun a x=>ins x a) a).Perm (l++a)
 | [],a=>List.Perm.refl _
 | x::l,a=>by
  rw[List.foldl_cons];refine (Z3W l _).trans ?_;refine (List.Perm.append_left l (Z4z x a)).trans ?_;exact List.perm_middle
theorem Z0N (l:List Fld): (sortF l).Perm l:=by
 have:=Z3W l []
 rwa [List.append_nil] at this
theorem Z4L (x:Fld): ∀l:List Fld,l.Pairwise (fun a b=>a.1<=b.1)->(ins x l).Pairwise (fun a b=>a.1<=b.1)
 | [],_=>by simp[ins]
 | y::l,h=>by
  rw[List.pairwise_cons] at h;unfold ins;split
  {rename_i hlt
   rw[List.pairwise_cons];refine ⟨fun b hb=> ?_,Z4L x l h.2⟩;rcases List.mem_cons.1 ((Z4z x l).mem_iff.1 hb) with rfl | hb
   {exact List.le_of_lt hlt}
   {exact h.1 b hb}}
  {rename_i hlt
   have hxy:x.1<=y.1:=List.not_lt.1 hlt;rw[List.pairwise_cons,List.pairwise_cons];refine ⟨fun b hb=> ?_,h⟩;rcases List.mem_cons.1 hb with rfl | hb
   {exact hxy}
   {exact List.le_trans hxy (h.1 b hb)}}
theorem Z3f: ∀(l a:List Fld),a.Pairwise (fun a b=>a.1<=b.1)->(l.foldl (fun a x=>ins x a) a).Pairwise (fun a b=>a.1<=b.1)
 | [],a,h=>h
 | x::l,a,h=>Z3f l _ (Z4L x a h)
theorem Z1U (l:List Fld): (sortF l).Pairwise (fun a b=>a.1<=b.1):=Z3f l [] List.Pairwise.nil
theorem Z9L {l:List Fld} (h: (l.map Prod.fst).Nodup) {a b:Fld} (ha:a∈l) (hb:b∈l) (he:a.1=b.1):a=b:=by
 induction l with
 | nil=>cases ha
 | cons x l ih=>
  rw[List.map_cons,List.nodup_cons] at h;rcases List.mem_cons.1 ha with e1 | h1
  {rcases List.mem_cons.1 hb with e2 | h2
   {rw[e1,e2]}
   {exact absurd (by rw[<-e1,he]; exact List.mem_map_of_mem h2) h.1}}
  {rcases List.mem_cons.1 hb with e2 | h2
   {exact absurd (by rw[<-e2, <-he]; exact List.mem_map_of_mem h1) h.1}
   {exact ih h.2 h1 h2}}
theorem Z1V {l m:List Fld} (hp:m.Perm l) (hs:m.Pairwise (fun a b=>a.1<=b.1)) (hn: (l.map Prod.fst).Nodup):m=sortF l:=by
 refine List.Perm.eq_of_pairwise (le:=fun a b:Fld=>a.1<=b.1) (fun a b ha hb h1 h2=> ?_) hs (Z1U l) (hp.trans (Z0N l).symm);exact Z9L hn (hp.mem_iff.1 ha) ((Z0N l).mem_iff.1 hb) (List.le_antisymm h1 h2)
end
end Go.Proofs.YtlomianlcnmfgaaGreatDoor
namespace Sub
section
open Shp
def look:List (List UInt8)->List Sh->List UInt8->Option Sh
 | x::ns,p::ps,n=>if x=n then some p else look ns ps n
 | [],_,_=>none
 | _::_,[],_=>none
def get (t:Sh) (n:List UInt8):Option Sh:=look t.names t.parts n
section
variable {ns : List (List UInt8)} {ps : List Sh}
include ns ps
theorem Z66 {n:List UInt8} {p:Sh} (h:look ns ps n=some p):n∈ns/\p∈ps:=by
 induction ns generalizing ps with
 | nil=>cases ps <;> simp[look] at h
 | cons x ns ih=>
  cases ps with
  | nil=>simp[look] at h
  | cons q ps=>
   unfold look at h;split at h
   {rename_i e
    cases h;exact ⟨by simp[e],by simp⟩}
   {have:=ih h;exact ⟨by simp[this.1],by simp[this.2]⟩}
theorem Z2A (hd:ns.Nodup) {n:List UInt8} {p:Sh}:look ns ps n=some p ↔ (n,p)∈ns.zip ps:=by
 induction ns generalizing ps with
 | nil=>cases ps <;> simp[look]
 | cons x ns ih=>
  rw[List.nodup_cons] at hd;cases ps with
  | nil=>simp[look]
  | cons q ps=>
   unfold look;rw[List.zip_cons_cons,List.mem_cons];split
   {rename_i e
    subst e;refine ⟨fun h=>Or.inl (by cases h; rfl),fun h=> ?_⟩;rcases h with h | h
    {cases h; rfl}
    {exact absurd (List.of_mem_zip h).1 hd.1}}
   {rename_i e
    rw[ih hd.2];refine ⟨Or.inr,fun h=> ?_⟩;rcases h with h | h
    {cases h; exact absurd rfl e}
    {exact h}}
theorem Z9M (hl:ns.length=ps.length) {n:List UInt8}:look ns ps n=none ↔ n∉ns:=by
 induction ns generalizing ps with
 | nil=>cases ps <;> simp[look]
 | cons x ns ih=>
  cases ps with
  | nil=>simp at hl
  | cons q ps=>
   unfold look;split
   {rename_i e; simp[e]}
   {rename_i e
    rw[ih (by simpa using hl),List.mem_cons,not_or];exact ⟨fun h=>⟨fun e'=>e e'.symm,h⟩,fun h=>h.2⟩}
theorem Z5e (hd:ns.Nodup) {i:Nat} (h1:i < ns.length) (h2:i < ps.length):look ns ps (ns[i]'h1)=some (ps[i]'h2):=
 (Z2A hd).2 (List.mem_iff_getElem.2 ⟨i,by rw[List.length_zip]; omega,by rw[List.getElem_zip]⟩)
end
theorem Z8r (l:List Fld): (l.map Prod.fst).zip (l.map Prod.snd)=l:=by
 induction l with
 | nil=>rfl
 | cons a l ih=>rw[List.map_cons,List.map_cons,List.zip_cons_cons,ih]
theorem Z67 {l:List Fld} (hd: (l.map Prod.fst).Nodup) {n:List UInt8} {p:Sh}:look (l.map Prod.fst) (l.map Prod.snd) n=some p ↔ (n,p)∈l:=by
 rw[Z2A hd,Z8r]
structure Rec (t:Sh):Prop where
 k:t.kind=6\/t.kind=7
 b:bare t=true
 l:t.names.length=t.parts.length
 a:areNames t.names=true
theorem Rec.nodup {t:Sh} (h:Rec t):t.names.Nodup:=((Z0M _).1 h.a).2
theorem Rec.isName {t:Sh} (h:Rec t) {n:List UInt8} (hn:n∈t.names):Lex.isName n=true:=((Z0M _).1 h.a).1 n hn
theorem Rec.fits {t:Sh} (h:Rec t):fits t=true:=by rw[Z2z h.b h.k,h.a,h.l]; simp
theorem Z0p {t:Sh} (h:fits t=true) (hk:t.kind=6\/t.kind=7):Rec t:=by
 have hb:bare t=true:=by
  cases hb:bare t with
  | true=>rfl
  | false=>rw[Z17 (by omega) hb] at h; cases h
 rw[Z2z hb hk,Bool.and_eq_true,decide_eq_true_eq] at h;exact ⟨hk,hb,h.2,h.1⟩
theorem Z1Q {t:Sh} (h:fits t=true) (hk: ¬(t.kind=6\/t.kind=7)):t.names= []:=by
 rcases Z1C h with h | h | h | h | h
 {exact h.2.2.1}
 {exact h.2.1}
 {exact absurd h.1 hk}
 {exact h.2.1}
 {exact h.2.1}
theorem Z3X {t u:Sh} (hk:u.kind=t.kind) (ho:u.of_=t.of_) (hn:u.name=t.name) (hns:u.names=t.names) (hp:u.parts.length=t.parts.length):fits u=fits t:=by
 unfold fits bare;rw[hk,ho,hn,hns,hp]
section
variable {t : Sh} (h : Rec t) {n : List UInt8}
include t h n
theorem Rec.get_none:get t n=none ↔ n∉t.names:=Z9M h.l
theorem Rec.get_iff {p:Sh}:get t n=some p ↔ (n,p)∈t.names.zip t.parts:=Z2A h.nodup
end
section
variable {t p : Sh} {n : List UInt8} (h : get t n = some p)
include t p n h
theorem Z06:p∈t.parts:=(Z66 h).2
theorem Z0C:n∈t.names:=(Z66 h).1
end
def Narrow (up:Bool) (k:Int):Prop:=(up=true/\k=6)\/(up=false/\k=7)
def Wide (up:Bool) (k:Int):Prop:=(up=true/\k=7)\/(up=false/\k=6)
instance (up:Bool) (k:Int):Decidable (Narrow up k):=by unfold Narrow; infer_instance
instance (up:Bool) (k:Int):Decidable (Wide up k):=by unfold Wide; infer_instance
section
variable {k : Int}
include k
theorem Z1e (h:k=6\/k=7) (up:Bool):Narrow up k\/Wide up k:=by
 unfold Narrow Wide;cases up <;> rcases h with h | h <;> simp[h]
theorem Z0R {up:Bool} (h:Narrow up k): ¬Wide up k:=by
 unfold Narrow Wide at *;cases up <;> rcases h with h | h <;> simp_all
theorem Z0w {up:Bool} (h:Narrow up k):k=6\/k=7:=by unfold Narrow at h; omega
theorem Z0D {up:Bool} (h:Wide up k):k=6\/k=7:=by unfold Wide at h; omega
theorem Z2T {up:Bool}:Narrow (!up) k ↔ Wide up k:=by cases up <;> simp[Narrow,Wide]
theorem Z3Y {up:Bool}:Wide (!up) k ↔ Narrow up k:=by cases up <;> simp[Narrow,Wide]
end
def V:Nat->Bool->Sh->Sh->Prop
 | 0,_,_,_=>False
 | f+1,up,a,b=>a.kind=b.kind/\
  (Narrow up a.kind-> ∀n q,get b n=some q-> ∃p,get a n=some p/\V f up p q)/\
  (Wide up a.kind-> ∀n p,get a n=some p-> ∃q,get b n=some q/\V f up p q)/\
  (¬(a.kind=6\/a.kind=7)->a.of_=b.of_/\a.name=b.name/\a.parts.length=b.parts.length/\
   ∀i p q,a.parts[i]? =some p->b.parts[i]? =some q->V f (if i+1=a.parts.length then up else !up) p q)
theorem V.flip {f:Nat}: ∀ {up:Bool} {a b:Sh},V f up a b->V f (!up) b a:=by
 induction f with
 | zero=>intro up a b h; exact h.elim
 | succ f ih=>
  intro up a b h;obtain ⟨hk,h1,h2,h3⟩:=h;refine ⟨hk.symm,fun h n q hq=> ?_,fun h n p hp=> ?_,fun h=> ?_⟩
  {rw[Z2T, <-hk] at h;obtain ⟨p,hp,hv⟩:=h2 h n q hq;exact ⟨p,hp,ih hv⟩}
  {rw[Z3Y, <-hk] at h;obtain ⟨q,hq,hv⟩:=h1 h n p hp;exact ⟨q,hq,ih hv⟩}
  {rw[<-hk] at h;obtain ⟨e1,e2,e3,e4⟩:=h3 h;refine ⟨e1.symm,e2.symm,e3.symm,fun i p q hp hq=> ?_⟩;have:=ih (e4 i q p hq hp);rw[<-e3];by_cases e:i+1=a.parts.length
   {rw[if_pos e] at this ⊢; exact this}
   {rw[if_neg e] at this ⊢; exact this}}
theorem V.refl {f:Nat}: ∀ {up:Bool} {a:Sh},deep a<=f->V f up a a:=by
 induction f with
 | zero=>intro up a h; rw[Z0j] at h; omega
 | succ f ih=>
  intro up a h;have hp: ∀p∈a.parts,deep p<=f:=fun p hp=>by have:=Z0v hp; rw[Z0j] at h; omega
  refine ⟨rfl,fun _ n q hq=>⟨q,hq,ih (hp q (Z06 hq))⟩,fun _ n q hq=>⟨q,hq,ih (hp q (Z06 hq))⟩,fun _=>⟨rfl,rfl,rfl,fun i p q h1 h2=> ?_⟩⟩;rw[h1] at h2;cases h2;exact ih (hp p (List.mem_of_getElem? h1))
theorem V.trans {f:Nat}: ∀ {up:Bool} {a b c:Sh},V f up a b->V f up b c->V f up a c:=by
 induction f with
 | zero=>intro up a b c h; exact h.elim
 | succ f ih=>
  intro up a b c h k;obtain ⟨hk,h1,h2,h3⟩:=h;obtain ⟨kk,k1,k2,k3⟩:=k;rw[<-hk] at k1 k2 k3;refine ⟨hk.trans kk,fun h n r hr=> ?_,fun h n p hp=> ?_,fun h=> ?_⟩
  {obtain ⟨q,hq,hv⟩:=k1 h n r hr;obtain ⟨p,hp,hu⟩:=h1 h n q hq;exact ⟨p,hp,ih hu hv⟩}
  {obtain ⟨q,hq,hv⟩:=h2 h n p hp;obtain ⟨r,hr,hu⟩:=k2 h n q hq;exact ⟨r,hr,ih hv hu⟩}
  {obtain ⟨e1,e2,e3,e4⟩:=h3 h;obtain ⟨g1,g2,g3,g4⟩:=k3 h;refine ⟨e1.trans g1,e2.trans g2,e3.trans g3,fun i p r hp hr=> ?_⟩;have hi:i < a.parts.length:=(List.getElem?_eq_some_iff.1 hp).1;have hib:i < b.parts.length:=by omega
   obtain ⟨q,hq⟩: ∃q,b.parts[i]? =some q:=⟨_,List.getElem?_eq_getElem hib⟩;have:=g4 i q r hq hr;rw[<-e3] at this;exact ih (e4 i p q hp hq) this}
abbrev Cl:=List UInt8×Option Sh×Option Sh
def callsA (a b:Sh):List Cl:=(a.names.zip a.parts).map (fun x=>(x.1,some x.2,get b x.1))
def callsB (a b:Sh):List Cl:=((b.names.zip b.parts).filter (fun x=>(get a x.1).isNone)).map (fun x=>(x.1,none,some x.2))
def calls (a b:Sh):List Cl:=callsA a b++callsB a b
section
variable {a b : Sh} (A : Rec a)
include a b A
theorem Z0l (B:Rec b) {n:List UInt8} {x y:Option Sh}: (n,x,y)∈calls a b ↔ x=get a n/\y=get b n/\(n∈a.names\/n∈b.names):=by
 unfold calls callsA callsB;rw[List.mem_append,List.mem_map,List.mem_map];constructor
 {rintro (⟨⟨m,p⟩,h,e⟩ | ⟨⟨m,p⟩,h,e⟩)
  {simp only[Prod.mk.injEq] at e;obtain ⟨rfl,rfl,rfl⟩:=e;exact ⟨(A.get_iff.2 h).symm,rfl,Or.inl (List.of_mem_zip h).1⟩}
  {simp only[Prod.mk.injEq] at e;obtain ⟨rfl,rfl,rfl⟩:=e;rw[List.mem_filter] at h;refine ⟨?_,(B.get_iff.2 h.1).symm,Or.inr (List.of_mem_zip h.1).1⟩;exact (Option.isNone_iff_eq_none.1 h.2).symm}}
 {rintro ⟨rfl,rfl,h⟩;cases ha:get a n with
  | some p=>exact Or.inl ⟨(n,p),A.get_iff.1 ha,rfl⟩
  | none=>
   have hb:n∈b.names:=h.resolve_left (A.get_none.1 ha);cases hq:get b n with
   | none=>exact absurd hb (B.get_none.1 hq)
   | some q=>exact Or.inr ⟨(n,q),List.mem_filter.2 ⟨B.get_iff.1 hq,by simp[ha]⟩,rfl⟩}
theorem Z8s: (callsA a b).map Prod.fst=a.names:=by
 unfold callsA;rw[List.map_map];exact List.map_fst_zip (by rw[A.l]; exact Nat.le_refl _)
theorem Z10 (B:Rec b): ((calls a b).map Prod.fst).Nodup:=by
 unfold calls;rw[List.map_append,Z8s A,List.nodup_append];have h2: ((callsB a b).map Prod.fst).Sublist b.names:=by
  unfold callsB;rw[List.map_map];have h3:=(List.filter_sublist (p:=fun x:Fld=>(get a x.1).isNone) (l:=b.names.zip b.parts)).map Prod.fst;rw[List.map_fst_zip (by rw[B.l]; exact Nat.le_refl _)] at h3;exact h3
 refine ⟨A.nodup,h2.nodup B.nodup,fun x hx y hy e=> ?_⟩;subst e;unfold callsB at hy;rw[List.map_map,List.mem_map] at hy;obtain ⟨⟨m,p⟩,hm,rfl⟩:=hy;have:=(List.mem_filter.1 hm).2;rw[Option.isNone_iff_eq_none] at this;exact A.get_none.1 this hx
theorem Z2n (B:Rec b) {n:List UInt8} (h:n∈(calls a b).map Prod.fst):Lex.isName n=true:=by
 obtain ⟨⟨m,x,y⟩,hm,rfl⟩:=List.mem_map.1 h;rcases ((Z0l A B).1 hm).2.2 with h | h
 {exact A.isName h}
 {exact B.isName h}
end
def narrowStep (g:Sh->Sh->Option Sh) (c:Cl):Option Fld:=
 match c with
 | (n,some p,some q)=>(g p q).map (fun x=>(n,x))
 | (_,some _,none)=>none
 | (_,none,_)=>none
def wideStep (g:Sh->Sh->Option Sh) (c:Cl):Option Fld:=
 match c with
 | (n,some p,some q)=>(g p q).map (fun x=>(n,x))
 | (n,some p,none)=>some (n,p)
 | (n,none,some q)=>some (n,q)
 | (_,none,none)=>none
def allOf (s:Cl->Option Fld):List Cl->Option (List Fld)
 | []=>some []
 | c::l=>(s c).bind (fun x=>(allOf s l).map (fun xs=>x::xs))
def placesOf (ga gr:Sh->Sh->Option Sh):List Sh->List Sh->Option (List Sh)
 | [],[]=>some []
 | a::us,b::bs=>(if us.isEmpty then gr a b else ga a b).bind (fun x=>(placesOf ga gr us bs).map (fun xs=>x::xs))
 | [],_::_=>none
 | _::_,[]=>none
def made (k:Int) (l:List Fld):Sh:=⟨k,[],[],l.map Prod.fst,l.map Prod.snd⟩
def bound:Nat->Bool->Sh->Sh->Option Sh
 | 0,_,_,_=>none
 | f+1,up,a,b=>
  if a.kind≠b.kind then none
  else if Narrow up a.kind then some (made a.kind ((calls a b).filterMap (narrowStep (bound f up))))
  else if Wide up a.kind then (allOf (wideStep (bound f up)) (calls a b)).map (made a.kind)
  else if a.of_=b.of_/\a.name=b.name then (placesOf (bound f (!up)) (bound f up) a.parts b.parts).map (fun ps=>⟨a.kind,a.of_,a.name,[],ps⟩)
  else none
theorem Z1o {s:Cl->Option Fld} (hs: ∀c x,s c=some x->x.1=c.1) (l:List Cl): ((l.filterMap s).map Prod.fst).Sublist (l.map Prod.fst):=by
 induction l with
 | nil=>exact List.Sublist.refl _
 | cons c l ih=>
  cases h:s c with
  | none=>rw[List.filterMap_cons_none h,List.map_cons]; exact ih.cons _
  | some x=>rw[List.filterMap_cons_some h,List.map_cons,List.map_cons,hs c x h]; exact ih.cons_cons _
theorem Z1i {α:Type} (us:List α):us.isEmpty=true ↔ 0=us.length:=by cases us <;> simp
def sz:Option Sh->Nat
 | some p=>size p
 | none=>0
theorem ZbE (x:List UInt8) (c:Nat) (g:List UInt8->Nat) {N:List (List UInt8)} (h:N.Nodup): (N.map (fun n=>if x=n then c else g n)).sum<=c+(N.map g).sum:=by
 induction N with
 | nil=>simp
 | cons n N ih=>
  rw[List.nodup_cons] at h;simp only[List.map_cons,List.sum_cons];have:=ih h.2;by_cases e:x=n
  {subst e;have h0: ∀M:List (List UInt8),x∉M->M.map (fun n=>if x=n then c else g n)=M.map g:=by
    intro M hM;refine List.map_congr_left (fun y hy=> ?_);rw[if_neg (fun (e:x=y)=>hM (e▸hy))]
   rw[if_pos rfl,h0 N h.1];omega}
  {rw[if_neg e]; omega}
theorem Z68 (ns:List (List UInt8)): ∀(ps:List Sh) {N:List (List UInt8)},N.Nodup->(N.map (fun n=>sz (look ns ps n))).sum<=sizes ps:=by
 induction ns with
 | nil=>
  intro ps N _;have: ∀M:List (List UInt8),(M.map (fun n=>sz (look [] ps n))).sum=0:=by
   intro M;induction M with
   | nil=>rfl
   | cons a M ih=>rw[List.map_cons,List.sum_cons,ih]; cases ps <;> simp[look,sz]
  rw[this]; omega
 | cons x ns ih=>
  intro ps N h;cases ps with
  | nil=>
   have: ∀M:List (List UInt8),(M.map (fun n=>sz (look (x::ns) [] n))).sum=0:=by
    intro M;induction M with
    | nil=>rfl
    | cons a M ih=>rw[List.map_cons,List.sum_cons,ih]; simp[look,sz]
   rw[this]; omega
  | cons p ps=>
   have e: (fun n=>sz (look (x::ns) (p::ps) n))=fun n=>if x=n then size p else sz (look ns ps n):=by
    funext n;rw[show look (x::ns) (p::ps) n=if x=n then some p else look ns ps n from rfl];by_cases e:x=n
    {rw[if_pos e,if_pos e]; rfl}
    {rw[if_neg e,if_neg e]}
   rw[e];have:=ZbE x (size p) (fun n=>sz (look ns ps n)) h;have:=ih ps h;simp only[sizes];omega
def wt (c:Cl):Nat:=sz c.2.1+sz c.2.2
theorem Z2C {a b:Sh} (A:Rec a) (B:Rec b): ((calls a b).map wt).sum<=sizes a.parts+sizes b.parts:=by
 have h1: ∀l:List Cl,(∀c∈l,c∈calls a b)->(l.map wt).sum=((l.map Prod.fst).map (fun n=>sz (get a n))).sum+((l.map Prod.fst).map (fun n=>sz (get b n))).sum:=by
  intro l;induction l with
  | nil=>intro _; rfl
  | cons c l ih=>
   intro h;have h2:=ih (fun c hc=>h c (by simp[hc]));obtain ⟨n,x,y⟩:=c;obtain ⟨rfl,rfl,_⟩:=(Z0l A B).1 (h (n,x,y) (by simp));simp only[List.map_cons,List.sum_cons,wt] at h2 ⊢;omega
 rw[h1 _ (fun _ h=>h)];have h2:=Z68 a.names a.parts (Z10 A B);have h3:=Z68 b.names b.parts (Z10 A B);unfold get;omega
theorem Z2D {l:List Sh} {D:Nat} (h: ∀p∈l,deep p<=D):deeps l<=D:=by
 induction l with
 | nil=>simp[deeps]
 | cons a l ih=>
  have h1:=h a (by simp);have h2:=ih (fun p hp=>h p (by simp[hp]));simp only[deeps];omega
theorem Z3u {k:Int} (hk:k=6\/k=7) {l:List Fld} (hd: (l.map Prod.fst).Nodup) (hn: ∀n∈l.map Prod.fst,Lex.isName n=true):Rec (made k l):=
 ⟨hk,rfl,by simp[made],(Z0M _).2 ⟨hn,hd⟩⟩
theorem Z1b {k:Int} {l:List Fld} (hd: (l.map Prod.fst).Nodup) {n:List UInt8} {x:Sh}:get (made k l) n=some x ↔ (n,x)∈l:=Z67 hd
end
section
open Shp Go.Proofs.YtlomianlcnmfgaaGreatDoor
theorem Z41 {l:List Fld} (h: (l.map Prod.fst).Nodup):l.Nodup:=by
 induction l with
 | nil=>exact List.nodup_nil
 | cons a l ih=>
  rw[List.map_cons,List.nodup_cons] at h;exact List.nodup_cons.2 ⟨fun hm=>h.1 (List.mem_map_of_mem hm),ih h.2⟩
theorem Z7k {l m:List Fld} (hl:l.Nodup) (hm:m.Nodup) (h: ∀x,x∈l ↔ x∈m):l.Perm m:=by
 induction l generalizing m with
 | nil=>
  cases m with
  | nil=>exact List.Perm.refl _
  | cons a m=>exact absurd ((h a).2 (by simp)) (by simp)
 | cons a l ih=>
  rw[List.nodup_cons] at hl;obtain ⟨s,t,rfl⟩:=List.append_of_mem ((h a).1 (by simp));have hp: (s++a::t).Perm (a::(s++t)):=List.perm_middle;have hn:=List.nodup_cons.1 (hp.nodup_iff.1 hm);refine List.Perm.trans (List.Perm.cons a (ih hl.2 hn.2 (fun x=> ?_))) hp.symm;constructor
  {intro hx;have:=hp.mem_iff.1 ((h x).1 (by simp[hx]));rcases List.mem_cons.1 this with rfl | h1
   {exact absurd hx hl.1}
   {exact h1}}
  {intro hx;have:=(h x).2 (hp.mem_iff.2 (by simp only[List.mem_cons]; exact Or.inr hx));rcases List.mem_cons.1 this with rfl | h1
   {exact absurd hx hn.1}
   {exact h1}}
theorem Zb2 {l m:List Fld} (h1: (l.map Prod.fst).Nodup) (h2: (m.map Prod.fst).Nodup) (h: ∀x,x∈l ↔ x∈m):sortF l=sortF m:=
 Z1V ((Z0N l).trans (Z7k (Z41 h1) (Z41 h2) h)) (Z1U l) h2
section
variable {ns : List (List UInt8)} {ps : List Sh} {f : Sh -> Sh}
include ns ps f
theorem Z2U {n:List UInt8} {x:Sh}: (n,x)∈ns.zip (ps.map f) ↔ ∃p,(n,p)∈ns.zip ps/\f p=x:=by
 induction ns generalizing ps with
 | nil=>simp
 | cons a ns ih=>
  cases ps with
  | nil=>simp
  | cons p ps=>
   rw[List.map_cons,List.zip_cons_cons,List.zip_cons_cons,List.mem_cons,ih];constructor
   {rintro (h | ⟨p',h,e⟩)
    {cases h; exact ⟨p,by simp,rfl⟩}
    {exact ⟨p',by simp[h],e⟩}}
   {rintro ⟨p',h,e⟩;rcases List.mem_cons.1 h with h | h
    {cases h; exact Or.inl (by rw[e])}
    {exact Or.inr ⟨p',h,e⟩}}
theorem Z2V (h:ns.length=ps.length): (ns.zip (ps.map f)).map Prod.fst=ns:=
 List.map_fst_zip (by rw[List.length_map,h]; exact Nat.le_refl _)
end
theorem V.anti {f:Nat}: ∀ {up:Bool} {a b:Sh},right a=true->right b=true->V f up a b->V f up b a->Shp.sorted a=Shp.sorted b:=by
  induction f with
  | zero=>intro up a b _ _ h; exact h.elim
  | succ f ih=>
    intro up a b ra rb h k;obtain ⟨hk,h1,h2,h3⟩:=h;obtain ⟨_,k1,k2,k3⟩:=k;rw[<-hk] at k1 k2 k3;by_cases h6:a.kind=6\/a.kind=7
    · have A:=Z0p (Z0b ra) h6
      have B:=Z0p (Z0b rb) (hk▸h6);have hG: ∀n,(∀p,get a n=some p-> ∃q,get b n=some q/\Shp.sorted p=Shp.sorted q)/\(∀q,get b n=some q-> ∃p,get a n=some p/\Shp.sorted p=Shp.sorted q):=by
        intro n;rcases Z1e h6 up with hw | hw
        · refine ⟨fun p hp=> ?_,fun q hq=> ?_⟩
          · obtain ⟨q,hq,v1⟩:=k1 hw n p hp
            obtain ⟨p',hp',v2⟩:=h1 hw n q hq;rw[hp] at hp'; cases hp';exact ⟨q,hq,ih (Z03 ra (Z06 hp)) (Z03 rb (Z06 hq)) v2 v1⟩
          · obtain ⟨p,hp,v2⟩:=h1 hw n q hq
            obtain ⟨q',hq',v1⟩:=k1 hw n p hp;rw[hq] at hq'; cases hq';exact ⟨p,hp,ih (Z03 ra (Z06 hp)) (Z03 rb (Z06 hq)) v2 v1⟩
        · refine ⟨fun p hp=> ?_,fun q hq=> ?_⟩
          · obtain ⟨q,hq,v1⟩:=h2 hw n p hp
            obtain ⟨p',hp',v2⟩:=k2 hw n q hq;rw[hp] at hp'; cases hp';exact ⟨q,hq,ih (Z03 ra (Z06 hp)) (Z03 rb (Z06 hq)) v1 v2⟩
          · obtain ⟨p,hp,v2⟩:=k2 hw n q hq
            obtain ⟨q',hq',v1⟩:=h2 hw n p hp;rw[hq] at hq'; cases hq';exact ⟨p,hp,ih (Z03 ra (Z06 hp)) (Z03 rb (Z06 hq)) v1 v2⟩
      have ho:a.of_=b.of_:=by rw[((Z0Q a).1 A.b).1,((Z0Q b).1 B.b).1]
      have hn:a.name=b.name:=by rw[((Z0Q a).1 A.b).2,((Z0Q b).1 B.b).2]
      have hm: ∀x,x∈a.names.zip (a.parts.map Shp.sorted) ↔ x∈b.names.zip (b.parts.map Shp.sorted):=by
        rintro ⟨n,x⟩;rw[Z2U,Z2U];constructor
        · rintro ⟨p,hp,rfl⟩
          obtain ⟨q,hq,e⟩:=(hG n).1 p (A.get_iff.2 hp);exact ⟨q,B.get_iff.1 hq,e.symm⟩
        · rintro ⟨q,hq,rfl⟩
          obtain ⟨p,hp,e⟩:=(hG n).2 q (B.get_iff.2 hq);exact ⟨p,A.get_iff.1 hp,e⟩
      have hs:=Zb2 (by rw[Z2V A.l]; exact A.nodup) (by rw[Z2V B.l]; exact B.nodup) hm;have hnil:a.names= [] ↔ b.names= []:=by
        constructor
        · intro e
          cases hb:b.names with
          | nil=>rfl
          | cons x l=>
            have hx:x∈b.names:=by rw[hb]; simp
            cases hg:get b x with
            | none=>exact absurd hx (B.get_none.1 hg)
            | some q=>
              obtain ⟨p,hp,_⟩:=(hG x).2 q hg;have:=Z0C hp;rw[e] at this; cases this
        · intro e
          cases hb:a.names with
          | nil=>rfl
          | cons x l=>
            have hx:x∈a.names:=by rw[hb]; simp
            cases hg:get a x with
            | none=>exact absurd hx (A.get_none.1 hg)
            | some q=>
              obtain ⟨p,hp,_⟩:=(hG x).1 q hg;have:=Z0C hp;rw[e] at this; cases this
      rw[Z0n a,Z0n b,hk,ho,hn,hs];by_cases e:a.names= []
      · have e':=hnil.1 e
        have p1:a.parts= []:=List.eq_nil_of_length_eq_zero (by rw[<-A.l,e]; rfl);have p2:b.parts= []:=List.eq_nil_of_length_eq_zero (by rw[<-B.l,e']; rfl);rw[if_pos e,if_pos e',p1,p2]
      · rw[if_neg e,if_neg (fun e'=>e (hnil.2 e'))]
    · obtain ⟨e1,e2,e3,e4⟩:=h3 h6
      obtain ⟨_,_,_,g4⟩:=k3 h6;have n1:=Z1Q (Z0b ra) h6;have n2:=Z1Q (Z0b rb) (hk▸h6);have hps:a.parts.map Shp.sorted=b.parts.map Shp.sorted:=by
        refine List.ext_getElem (by simp[e3]) (fun i h1 h2=> ?_);rw[List.length_map] at h1 h2;rw[List.getElem_map,List.getElem_map];have v1:=e4 i _ _ (List.getElem?_eq_getElem h1) (List.getElem?_eq_getElem h2);have v2:=g4 i _ _ (List.getElem?_eq_getElem h2) (List.getElem?_eq_getElem h1);rw[<-e3] at v2;exact ih (Z03 ra (List.getElem_mem _)) (Z03 rb (List.getElem_mem _)) v1 v2
      rw[Z0n a,Z0n b,if_pos n1,if_pos n2,hk,e1,e2,hps]
end
end Sub
namespace Go.Proofs.YtlomianlcnmfgaaGreatDoor
section
open Go.RowKit
theorem Z0r {B:Nat} {a w:World} (h:Below B a w) (n:Nat):Below B a (w.drewN n):=⟨h.os,h.tape,h.output,h.size,h.block⟩
abbrev Y9 (f:FuncId) (a:Array Value) (w:World) (v:Value):Prop:=Calls Tryz.prog f a w fun e w'=>e= .returned v/\Below w.heap.size w w'
abbrev Ya:Array Value:=#[.int .i64 0,.string ⟨#[]⟩,.string ⟨#[]⟩,.int .i64 0,.slice none 0 0,.slice none 0 0,.slice none 0 0,.slice none 0 0,.int .i64 0]
abbrev Yb:Array Value:=#[.int .i64 0,.string ⟨#[]⟩,.string ⟨#[]⟩,.slice none 0 0,.slice none 0 0]
abbrev Yc:Array Value:=#[.int .i64 0,.int .i64 0]
abbrev Yd:Array Value:=#[.int .i64 0,.string ⟨#[]⟩,.int .i64 0]
theorem Y1 {P:Prop} (h:P):Hid P:=Lib.hid h
theorem Y2 {B:Nat} {w:World}:Below B w w:=Below.refl _ _
section
variable {k n : Int} (m : Int) (h : k = n)
include k n m h
theorem Y3 (e: (n==m)=false): (k==m)=false:=by rw[h]; exact e
theorem Y4 (e: (n==m)=true): (k==m)=true:=by rw[h]; exact e
theorem Y5 (e: (n !=m)=false): (k !=m)=false:=by rw[h]; exact e
theorem Y6 (e: (n !=m)=true): (k !=m)=true:=by rw[h]; exact e
end
theorem Z11 (l:List UInt8): (⟨l.toArray⟩:ByteArray).size=l.length:=by simp[ByteArray.size]
theorem Z3g {B:Nat} {w w':World} (h:Below B w w') (hB:w.heap.size<=B) (row:Option Nat):w.grownBy w' row:=
 ⟨h.os,h.tape,h.output,h.size,fun i hi _=>h.block i (Nat.lt_of_lt_of_le hi hB)⟩
theorem Z00 {w W w':World} (h:Below w.heap.size w W) (hb:Below W.heap.size W w'):Below w.heap.size w w':=h.trans (hb.mono h.size)
theorem Z0x {w W:World} (h:Below w.heap.size w W) (o:Obj):Below w.heap.size w (W.alloc o):=h.alloc h.size o
theorem Z01 (w:World) (o:Obj):Below w.heap.size w (w.alloc o):=(Below.refl _ _).alloc (Nat.le_refl _) _
theorem flip {P:Program} {f:FuncId} {args:Array Value} {w:World} {v:Value} (h:Calls P f args w fun e w'=>e= .returned v/\w=w'):Calls P f args w fun e w'=>e= .returned v/\w'=w:=
 h.mono fun _ _ ⟨he,hw⟩=>⟨he,hw.symm⟩
theorem Z4d: ∀(x y:List UInt8),Op.bytesLess x y=decide (x < y)
 | x,[]=>by simp[Op.bytesLess]
 | [],_::_=>by simp[Op.bytesLess]
 | a::x,b::y=>by
  rw[Op.bytesLess,Z4d x y,Bool.eq_iff_iff];simp[List.cons_lt_cons_iff]
def Strs (w:World) (B:Nat) (A:Option Addr) (ss:List ByteArray):Prop:=
 ss.length=0\/ ∃b off,A=some ⟨b,off,none⟩/\b < B/\ ∀i (h:i < ss.length),w.cell? ⟨b,off+i,none⟩=some (.string (ss[i]'h))
theorem Strs.keep {w w':World} {B B':Nat} {A:Option Addr} {ss:List ByteArray} (h:Strs w B A ss) (hb:Below B' w w') (hB:B<=B'):Strs w' B A ss:=by
 rcases h with h | ⟨b,off,hA,hlt,hc⟩
 {exact Or.inl h}
 {exact Or.inr ⟨b,off,hA,hlt,fun i hi=>(hb.cell (p:=⟨b,off+i,none⟩) (Nat.lt_of_lt_of_le hlt hB)).trans (hc i hi)⟩}
theorem Strs.more {w:World} {B B':Nat} {A:Option Addr} {ss:List ByteArray} (h:Strs w B A ss) (hB:B<=B'):Strs w B' A ss:=by
 rcases h with h | ⟨b,off,hA,hlt,hc⟩
 {exact Or.inl h}
 {exact Or.inr ⟨b,off,hA,Nat.lt_of_lt_of_le hlt hB,hc⟩}
theorem Strs.next {w w':World} {A:Option Addr} {ss:List ByteArray} (h:Strs w w.heap.size A ss) (hb:Below w.heap.size w w'):Strs w' w'.heap.size A ss:=
 (h.keep hb (Nat.le_refl _)).more hb.size
theorem Z1W {w:World} {b o:Nat} {v:Value} (h:w.cell? ⟨b,o,none⟩=some v):b < w.heap.size:=by
 rcases Nat.lt_or_ge b w.heap.size with h' | h'
 {exact h'}
 {simp[World.cell?,Array.getElem?_eq_none h'] at h}
theorem Z3F {w:World} {a:Addr} {ss:List ByteArray} {len:Nat} (hc: ∀i,i < ss.length->w.cell? (a.add i)=some (.string (ss.getD i ByteArray.empty))):Strs w w.heap.size (some a) (ss.take len):=by
 by_cases h0: (ss.take len).length=0
 {exact Or.inl h0}
 {have hpos:0 < ss.length:=by rw[List.length_take] at h0; omega
  obtain ⟨b,off,spot⟩:=a;have h1:=hc 0 hpos;have hspot:spot=none:=by simpa[Addr.add] using World.cell?_spot h1
  subst hspot;refine Or.inr ⟨b,off,rfl,Z1W (o:=off) (by simpa[Addr.add] using h1),fun i hi=> ?_⟩;rw[List.length_take] at hi;have hplain: (⟨b,off,none⟩:Addr).add i=⟨b,off+i,none⟩:=by unfold Addr.add; split <;> simp_all
  rw[<-hplain,hc i (by omega),List.getElem_take];simp[List.getD,List.getElem?_eq_getElem (show i < ss.length by omega)]}
def strs (l:List (List UInt8)):List ByteArray:=l.map fun p=>⟨p.toArray⟩
end
end Go.Proofs.YtlomianlcnmfgaaGreatDoor
