/- What the proofs of ParseAround want, part 1. -/
import Derived.Test.YtkncdbaoaeeoiaaGreatDoorRows
import Derived.Lib.Hide
import Derived.Lib.Strings
import Derived.BigQuiet
import Derived.SliceStrings
import Derived.OpenShut
import Derived.Deep.AppendLies
import Derived.StillTailTactics
import Derived.Deep.Fields
import Derived.WalkLawsBesides
import Derived.Test.YtkncdbaoaeeoiaaGreatDoorL0n0
set_option linter.unusedVariables false
set_option linter.unusedSimpArgs false
set_option linter.unusedSectionVars false
set_option maxRecDepth 100000
set_option maxHeartbeats 16000000
namespace Tms
section
open Shp (Sh Z1v)
structure Tm where
 kind:Int
 of_:List UInt8
 name:List UInt8
 n:Int
 names:List (List UInt8)
 vars:List (List UInt8)
 shapes:List Sh
 parts:List Tm
 at_:Int
mutual
def size:Tm->Nat
 | ⟨_,_,_,_,_,_,_,ps,_⟩=>1+sizes ps
def sizes:List Tm->Nat
 | []=>0
 | p::ps=>size p+sizes ps
end
mutual
def deep:Tm->Nat
 | ⟨_,_,_,_,_,_,_,ps,_⟩=>deeps ps+1
def deeps:List Tm->Nat
 | []=>0
 | p::ps=>max (deep p) (deeps ps)
end
theorem size_eq (t:Tm):size t=1+sizes t.parts:=by cases t; rfl
theorem deep_eq (t:Tm):deep t=deeps t.parts+1:=by cases t; rfl
theorem size_pos (t:Tm):1<=size t:=by rw[size_eq]; omega
section
variable {l : List Tm} {p : Tm} (h : p ∈ l)
include l p h
theorem sizes_mem:size p<=sizes l:=by
 induction l with
 | nil=>cases h
 | cons a l ih=>
  rcases List.mem_cons.1 h with rfl | h
  {simp[sizes]}
  {have:=ih h; simp[sizes]; omega}
theorem deeps_mem:deep p<=deeps l:=by
 induction l with
 | nil=>cases h
 | cons a l ih=>
  rcases List.mem_cons.1 h with rfl | h
  {simp[deeps]; omega}
  {have:=ih h; simp[deeps]; omega}
end
theorem Tm.ind {P:Tm->Prop} (h: ∀t,(∀p∈t.parts,P p)->P t) (t:Tm):P t:=by
 have: ∀n t,size t<=n->P t:=by
  intro n;induction n with
  | zero=>intro t a; have:=size_pos t; omega
  | succ n ih=>
   intro t a;refine h t (fun p hp=>ih p ?_);have:=sizes_mem hp;rw[size_eq] at a;omega
 exact this _ t (Nat.le_refl _)
theorem sizes_append (l m:List Tm):sizes (l++m)=sizes l+sizes m:=by
 induction l with
 | nil=>simp[sizes]
 | cons a l ih=>simp[sizes,ih]; omega
theorem deeps_append (l m:List Tm):deeps (l++m)=max (deeps l) (deeps m):=by
 induction l with
 | nil=>simp[deeps]
 | cons a l ih=>simp[deeps,ih,Nat.max_assoc]
section
variable {l : List Tm} {i : Nat} (h : i < l.length)
include l i h
theorem sizes_next:sizes (l.take (i+1))=sizes (l.take i)+size (l[i]'h):=by rw[Z1v h,sizes_append]; simp[sizes]
theorem deeps_next:deeps (l.take (i+1))=max (deeps (l.take i)) (deep (l[i]'h)):=by rw[Z1v h,deeps_append]; simp[deeps]
end
theorem sizes_take (l:List Tm) (i:Nat):sizes (l.take i)<=sizes l:=by
 have:=sizes_append (l.take i) (l.drop i);rw[List.take_append_drop] at this;omega
theorem deeps_take (l:List Tm) (i:Nat):deeps (l.take i)<=deeps l:=by
 have:=deeps_append (l.take i) (l.drop i);rw[List.take_append_drop] at this;omega
theorem length_sizes (l:List Tm):l.length<=sizes l:=by
 induction l with
 | nil=>simp
 | cons a l ih=>have:=size_pos a; simp[sizes]; omega
theorem deep_size (t:Tm):deep t<=size t:=by
 induction t using Tm.ind with
 | h t ih=>
  rw[deep_eq,size_eq];have: ∀l:List Tm,(∀p∈l,deep p<=size p)->deeps l<=sizes l:=by
   intro l;induction l with
   | nil=>simp[deeps]
   | cons a l ihl=>
    intro h;have b:=h a (by simp);have c:=ihl (fun p hp=>h p (by simp[hp]));simp[deeps,sizes]; omega
  have:=this _ ih;omega
def names (l:List (List UInt8)) (apart:Bool):Bool:=l.all Lex.isName&&(!apart||Shp.noDup l)
mutual
def hasOpaque:Sh->Bool
 | ⟨k,_,_,_,ps⟩=>decide (k=10)||hasOpaques ps
def hasOpaques:List Sh->Bool
 | []=>false
 | p::ps=>hasOpaque p||hasOpaques ps
end
theorem Z7Z (t:Sh):hasOpaque t=(decide (t.kind=10)||hasOpaques t.parts):=by cases t; rfl
theorem Z6t (l:List Sh):hasOpaques l=l.any hasOpaque:=by
 induction l with
 | nil=>rfl
 | cons a l ih=>simp[hasOpaques,ih]
def shapesOk (l:List Sh):Bool:=l.all fun s=>decide (Shp.check s=0)&& !hasOpaque s
def plainB (b:UInt8):Bool:=decide (32<=b.toNat)||b==9||b==10
def validGo:Nat->List UInt8->Bool
 | 0,s=>s.isEmpty
 | k+1,s=>s.isEmpty||(decide ((Utf.first s).2≠0)&&validGo k (s.drop (Utf.first s).2))
def valid (s:List UInt8):Bool:=validGo s.length s
def textOk (s:List UInt8):Bool:=s.all plainB&&valid s
def lists (t:Tm) (n v s p:Nat):Bool:=decide (t.names.length=n)&&decide (t.vars.length=v)&&decide (t.shapes.length=s)&&decide (t.parts.length=p)
def fitsK (t:Tm):Bool:=
 if t.kind=1 then t.name== []&&decide (0<=t.n)&&decide (t.n<=999999999999999)&&lists t 0 0 0 0
 else if t.kind=2 then textOk t.name&&lists t 0 0 0 0
 else if t.kind=3\/t.kind=4 then t.name== []&&lists t 0 0 0 0
 else if t.kind=5 then Lex.isName t.name&&(t.of_== []||Lex.isName t.of_)&&lists t 0 0 0 0
 else if t.kind=6 then t.name== []&&lists t t.names.length 0 t.names.length 1
 else if t.kind=7 then t.name== []&&decide (1<=t.parts.length)&&lists t 0 0 0 t.parts.length
 else if t.kind=8 then t.name== []&&lists t t.names.length 0 0 t.names.length
 else if t.kind=9\/t.kind=10 then Lex.isName t.name&&lists t 0 0 0 1
 else if t.kind=11 then t.name== []&&lists t 0 0 1 t.parts.length
 else if t.kind=12 then t.name== []&&lists t 0 0 1 3
 else if t.kind=13 then t.name== []&&lists t t.names.length t.names.length (t.names.length+1) (t.names.length+1)
 else if t.kind=14 then Lex.isName t.name&&lists t 0 0 0 2
 else if t.kind=15 then t.name== []&&lists t 0 0 1 1
 else if t.kind=16\/t.kind=17 then Lex.isUpper t.name&&lists t 0 0 0 1
 else false
def fits (t:Tm):Bool:=decide (0<=t.at_)&&names t.names true&&names t.vars false&&shapesOk t.shapes&&(decide (t.kind=1)||decide (t.n=0))&&(decide (t.kind=5)||t.of_== [])&&fitsK t
mutual
def right:Tm->Bool
 | ⟨k,o,na,n,ns,vs,ss,ps,a⟩=>fits ⟨k,o,na,n,ns,vs,ss,ps,a⟩&&rights ps
def rights:List Tm->Bool
 | []=>true
 | p::ps=>right p&&rights ps
end
theorem right_eq (t:Tm):right t=(fits t&&rights t.parts):=by cases t; rfl
theorem rights_all (l:List Tm):rights l=l.all right:=by
 induction l with
 | nil=>rfl
 | cons a l ih=>simp[rights,ih]
theorem right_fits {t:Tm} (h:right t=true):fits t=true:=by rw[right_eq,Bool.and_eq_true] at h; exact h.1
theorem right_part {t p:Tm} (h:right t=true) (a:p∈t.parts):right p=true:=by
 rw[right_eq,rights_all,Bool.and_eq_true,List.all_eq_true] at h; exact h.2 p a
theorem right_on {t:Tm} (h:fits t=true) (a: ∀p∈t.parts,right p=true):right t=true:=by
 rw[right_eq,rights_all,Bool.and_eq_true,List.all_eq_true]; exact ⟨h,a⟩
def check (t:Tm):Int:=if 4096 < size t then 3 else if 40 < deep t then 91 else if right t=false then 80 else 0
theorem Z3X {t:Tm} (h:check t=0):size t<=4096/\deep t<=40/\right t=true:=by
 unfold check at h;split at h
 {cases h}
 {split at h
  {cases h}
  {split at h
   {cases h}
   {rename_i b c a
    refine ⟨by omega,by omega, ?_⟩;simpa using a}}}
theorem Z3Y {t:Tm} (b:size t<=4096) (c:deep t<=40) (a:right t=true):check t=0:=by
 unfold check;rw[if_neg (by omega),if_neg (by omega),if_neg (by rw[a]; decide)]
mutual
def eqB (places:Bool):Tm->Tm->Bool
 | ⟨k,o,na,n,ns,vs,ss,ps,a⟩,⟨k',o',na',n',ns',vs',ss',ps',a'⟩=>k==k'&&o==o'&&na==na'&&n==n'&&(!places||a==a')&&ns==ns'&&vs==vs'&&Shp.eqs ss ss'&&eqs places ps ps'
def eqs (places:Bool):List Tm->List Tm->Bool
 | [],[]=>true
 | p::ps,q::qs=>eqB places p q&&eqs places ps qs
 | [],_::_=>false
 | _::_,[]=>false
end
theorem eqB_eq (pl:Bool) (t u:Tm):eqB pl t u=(t.kind==u.kind&&t.of_==u.of_&&t.name==u.name&&t.n==u.n&&(!pl||t.at_==u.at_)&&t.names==u.names&&t.vars==u.vars&&Shp.eqs t.shapes u.shapes&&eqs pl t.parts u.parts):=by cases t; cases u; rfl
mutual
def strip:Tm->Tm
 | ⟨k,o,na,n,ns,vs,ss,ps,_⟩=>⟨k,o,na,n,ns,vs,ss,strips ps,0⟩
def strips:List Tm->List Tm
 | []=> []
 | p::ps=>strip p::strips ps
end
theorem ZaO (l:List Tm):strips l=l.map strip:=by
 induction l with
 | nil=>rfl
 | cons a l ih=>simp[strips,ih]
theorem Z13 (t:Tm):strip t=⟨t.kind,t.of_,t.name,t.n,t.names,t.vars,t.shapes,t.parts.map strip,0⟩:=by
 cases t; rw[<-ZaO]; rfl
theorem eqs_iff_of {pl:Bool} {f:Tm->Tm} {l:List Tm} (h: ∀p∈l,∀u,eqB pl p u=true ↔ f p=f u): ∀m,eqs pl l m=true ↔ l.map f=m.map f:=by
 induction l with
 | nil=>intro m; cases m <;> simp[eqs]
 | cons a l ih=>
  intro m;cases m with
  | nil=>simp[eqs]
  | cons b m=>simp[eqs,h a (by simp) b,ih (fun p hp=>h p (by simp[hp])) m]
theorem Z4w (t u:Tm):eqB false t u=true ↔ strip t=strip u:=by
 induction t using Tm.ind generalizing u with
 | h t ih=>
  rw[eqB_eq,Z13,Z13];simp[eqs_iff_of ih,and_assoc,Shp.Zan]
theorem eqB_iff (t u:Tm):eqB true t u=true ↔ t=u:=by
 induction t using Tm.ind generalizing u with
 | h t ih=>
  have g:=eqs_iff_of (f:=id) ih u.parts;rw[eqB_eq];cases t; cases u;simp only[List.map_id] at g;simp[g,and_assoc,Shp.Zan];intro _ _ _ _;exact ⟨fun ⟨a,b,c,d,e⟩=>⟨b,c,d,e,a⟩,fun ⟨b,c,d,e,a⟩=>⟨a,b,c,d,e⟩⟩
theorem eqB_refl (pl:Bool) (t:Tm):eqB pl t t=true:=by
 cases pl
 {exact (Z4w t t).2 rfl}
 {exact (eqB_iff t t).2 rfl}
def same (l:List Tm):Bool:=l.all fun t=>decide (check t=0)&&eqB false t (l.headD t)
theorem Z7j (k:Nat): ∀(s:List UInt8),s.length<=k-> ∀ {ps:List Int} {rest:List UInt8},Utf.Reads s ps rest->(validGo k s=true ↔ rest= []):=by
 induction k with
 | zero=>
  intro s i ps rest h;have l:s= []:=List.eq_nil_of_length_eq_zero (by omega);subst l;have:=(Utf.Z3d h).2;simp only[List.length_nil] at this;have j:rest= []:=List.eq_nil_of_length_eq_zero (by omega);rw[j]; simp[validGo]
 | succ k ih=>
  intro s i ps rest h;cases ps with
  | nil=>
   obtain rfl:s=rest:=by have:=h.text; simpa[Utf.Zam] using this
   cases s with
   | nil=>simp[validGo]
   | cons a r=>
    have b: (Utf.first (a::r)).2=0:=by rw[h.none]
    simp[validGo,b]
  | cons p ps=>
   have d:s=Utf.bytes p++(Utf.enc ps++rest):=by rw[h.text,Utf.Z0H,List.append_assoc]
   have b:Utf.first s=(p,Utf.width p):=by rw[d]; exact Utf.Z0D p (h.pts p (by simp)) _
   have m:=Utf.Z0O p;have f: (Utf.bytes p).length=Utf.width p:=Utf.Z0c p;have e:s.drop (Utf.width p)=Utf.enc ps++rest:=by rw[d, <-f,List.drop_left]
   have c:s.length=Utf.width p+(Utf.enc ps++rest).length:=by rw[d,List.length_append,f]
   have g:s.isEmpty=false:=by
    cases s with
    | nil=>simp at c; omega
    | cons a r=>rfl
   have:=ih (s.drop (Utf.width p)) (by rw[e]; omega) (ps:=ps) (rest:=rest) ⟨fun x hx=>h.pts x (by simp[hx]),e,h.none⟩;unfold validGo;rw[b,g];simp only[Bool.false_or,Bool.and_eq_true,decide_eq_true_eq];rw[this];constructor
   {exact fun h=>h.2}
   {exact fun h=>⟨by omega,h⟩}
theorem Z9b {s:List UInt8} {ps:List Int} {rest:List UInt8} (h:Utf.Reads s ps rest):valid s=true ↔ rest= []:=Z7j s.length s (Nat.le_refl _) h
theorem Z2N (b:UInt8):plainB b=true ↔ ¬(b.toNat < 32/\b≠9/\b≠10):=by
 unfold plainB;simp only[Bool.or_eq_true,decide_eq_true_eq,beq_iff_eq];constructor
 {rintro ((h | h) | h) ⟨d,a,c⟩
  {omega}
  {exact a h}
  {exact c h}}
 {intro h;by_cases d:32<=b.toNat
  {exact Or.inl (Or.inl d)}
  {by_cases a:b=9
   {exact Or.inl (Or.inr a)}
   {by_cases c:b=10
    {exact Or.inr c}
    {exact absurd ⟨by omega,a,c⟩ h}}}}
end
end Tms
namespace Go.Proofs.YtkncdbaoaeeoiaaGreatDoor
section
open Go.RowKit
theorem Z0b {B:Nat} {a w:World} (h:Below B a w) (n:Nat):Below B a (w.drewN n):=⟨h.os,h.tape,h.output,h.size,h.block⟩
abbrev Y9 (f:FuncId) (a:Array Value) (w:World) (v:Value):Prop:=Calls Tryz.prog f a w fun e w'=>e= .returned v/\Below w.heap.size w w'
abbrev Ya:Array Value:=#[.int .i64 0,.string ⟨#[]⟩,.string ⟨#[]⟩,.int .i64 0,.slice none 0 0,.slice none 0 0,.slice none 0 0,.slice none 0 0,.int .i64 0]
abbrev Yb:Array Value:=#[.int .i64 0,.string ⟨#[]⟩,.string ⟨#[]⟩,.slice none 0 0,.slice none 0 0]
abbrev Yc:Array Value:=#[.int .i64 0,.int .i64 0]
abbrev Yd:Array Value:=#[.int .i64 0,.string ⟨#[]⟩,.int .i64 0]
theorem Y1 {P:Prop} (h:P):Hid P:=Lib.hid h
theorem Y2 {B:Nat} {w:World}:Below B w w:=Below.refl _ _
section
variable {k n : Int} (m : Int) (h : k = n)
include k n m h
theorem Y3 (e: (n==m)=false): (k==m)=false:=by rw[h]; exact e
theorem Y4 (e: (n==m)=true): (k==m)=true:=by rw[h]; exact e
theorem Y5 (e: (n !=m)=false): (k !=m)=false:=by rw[h]; exact e
theorem Y6 (e: (n !=m)=true): (k !=m)=true:=by rw[h]; exact e
end
theorem Z1i (s:ByteArray) (p:Nat) (q:Int) (a: (p:Int)<=q) (c:q<=s.size) (W:World):
 (Instr.slice 9 (.string s) (some (.int .i64 p)) (some (.int .i64 q)) none).run Tryz.prog W= .ok (.string ⟨((s.data.toList.drop p).take (q.toNat - p)).toArray⟩) W:=by
 rw[run_slice_string (P:=Tryz.prog) W 9 s .i64 .i64 p q Tryz.underlying9 (by omega) a c];have:=ByteArray.extract_mk s.data.toList p q.toNat;rw[Int.toNat_natCast];exact congrArg (fun b=>Result.ok (Value.string b) W) this
theorem Z0Z (s:ByteArray) (p:Nat) (h:p<=s.size) (W:World):
 (Instr.slice 9 (.string s) (some (.int .i64 p)) none none).run Tryz.prog W= .ok (.string ⟨(s.data.toList.drop p).toArray⟩) W:=by
 rw[run_slice_string_from_if (P:=Tryz.prog) W 9 s .i64 p Tryz.underlying9,if_pos ⟨by omega,by omega⟩];have:=ByteArray.extract_mk s.data.toList p s.size;rw[Int.toNat_natCast];refine congrArg (fun b=>Result.ok (Value.string b) W) (this.trans ?_);rw[List.take_of_length_le (by rw[List.length_drop, <-Lib.size_eq]; omega)]
theorem Z07 (l:List UInt8): (⟨l.toArray⟩:ByteArray).size=l.length:=by simp[ByteArray.size]
theorem Zao (s:ByteArray) (p:Nat) (b:p < s.size): ∃r:ByteArray,(∀W:World,(Instr.slice 9 (.string s) (some (.int .i64 p)) none none).run Tryz.prog W= .ok (.string r) W)/\
 r.data.toList=s.data.toList.drop p/\r.size+p=s.size/\0 < r.size/\r.toList.isEmpty=false/\ ∀(i:Nat) (h:i < r.size) (a:p+i < s.size),r[i]'h=s[p+i]'a:=by
 refine ⟨⟨(s.data.toList.drop p).toArray⟩,fun W=>Z0Z s p (by omega) W,rfl, ?_, ?_, ?_, ?_⟩
 {rw[Z07,List.length_drop, <-Lib.size_eq]; omega}
 {rw[Z07,List.length_drop, <-Lib.size_eq]; omega}
 {rw[ByteArray.toList_mk,List.isEmpty_eq_false_iff];intro h;have:=congrArg List.length h;rw[List.length_drop, <-Lib.size_eq] at this;simp at this;omega}
 {intro i h a;show (s.data.toList.drop p).toArray[i]=s.data[p+i];simp}
theorem Z2e {B:Nat} {w w':World} (h:Below B w w') (a:w.heap.size<=B) (row:Option Nat):w.grownBy w' row:=
 ⟨h.os,h.tape,h.output,h.size,fun i hi _=>h.block i (Nat.lt_of_lt_of_le hi a)⟩
theorem Z34 {T e:TypeId} {B b:Nat} {p:Value} {g:List Value} {w w':World} (h:Lib.BuilderAt T e B b p g w) (i:Below w.heap.size w w'):Lib.BuilderAt T e B b p g w':=by
 have d:=h.lt;obtain ⟨j,v,c,a,f⟩:=h;exact ⟨j,v,(i.block b d).trans c,a.kept (Z2e i (Nat.le_refl _) none) (by
  rcases h:v.ownBlock with _ | x
  {exact Or.inl rfl}
  · exact Or.inr (by simp)),f⟩
theorem Z1p {T e:TypeId} {B b:Nat} {a:List Value} {w w':World} (h:Lib.IsBuilder T e B b a w) (c:Below w.heap.size w w'):Lib.IsBuilder T e B b a w':=by
 rcases h with h | h
 {exact Or.inl (Z34 h c)}
 {exact Or.inr (Z34 h c)}
theorem Z00 {w W w':World} (h:Below w.heap.size w W) (a:Below W.heap.size W w'):Below w.heap.size w w':=h.trans (a.mono h.size)
theorem Z03 {w W:World} (h:Below w.heap.size w W) (o:Obj):Below w.heap.size w (W.alloc o):=h.alloc h.size o
theorem Z01 (w:World) (o:Obj):Below w.heap.size w (w.alloc o):=(Below.refl _ _).alloc (Nat.le_refl _) _
theorem Z04 {W w:World} {b o:Nat} (a:Below W.heap.size W w) (h:b < W.heap.size):w.cell? ⟨b,o,none⟩=W.cell? ⟨b,o,none⟩/\w.frozen? ⟨b,o,none⟩=W.frozen? ⟨b,o,none⟩:=
 ⟨a.cell (p:=⟨b,o,none⟩) h,a.frozen (p:=⟨b,o,none⟩) h⟩
theorem ZeX (s:ByteArray):s=⟨s.data.toList.toArray⟩:=by
 apply ByteArray.ext;simp
theorem Z16 (s:ByteArray):s.toList=s.data.toList:=by
 conv=>lhs; rw[ZeX s]
 rw[ByteArray.toList_mk]
def nz (a b:List UInt8):Int:=if a= []/\b= [] then 0 else 1
theorem Z4x {s:ByteArray} {k:Nat} (h:k < s.size): (s.data.toList.take (k+1)).all Sem.dig=((s.data.toList.take k).all Sem.dig&&Sem.dig (s[k]'h)):=by
 rw[List.take_succ_eq_append_getElem (by rw[<-Lib.size_eq]; exact h),List.all_append];simp;rfl
def Strs (w:World) (B:Nat) (A:Option Addr) (ss:List ByteArray):Prop:=
 ss.length=0\/ ∃b off,A=some ⟨b,off,none⟩/\b < B/\ ∀i (h:i < ss.length),w.cell? ⟨b,off+i,none⟩=some (.string (ss[i]'h))
theorem Strs.keep {w w':World} {B B':Nat} {A:Option Addr} {a:List ByteArray} (h:Strs w B A a) (d:Below B' w w') (c:B<=B'):Strs w' B A a:=by
 rcases h with h | ⟨b,off,hA,hlt,e⟩
 {exact Or.inl h}
 {exact Or.inr ⟨b,off,hA,hlt,fun i hi=>(d.cell (p:=⟨b,off+i,none⟩) (Nat.lt_of_lt_of_le hlt c)).trans (e i hi)⟩}
theorem Strs.more {w:World} {B B':Nat} {A:Option Addr} {c:List ByteArray} (h:Strs w B A c) (e:B<=B'):Strs w B' A c:=by
 rcases h with h | ⟨b,off,d,a,f⟩
 {exact Or.inl h}
 {exact Or.inr ⟨b,off,d,Nat.lt_of_lt_of_le a e,f⟩}
theorem Strs.next {w w':World} {A:Option Addr} {b:List ByteArray} (h:Strs w w.heap.size A b) (a:Below w.heap.size w w'):Strs w' w'.heap.size A b:=
 (h.keep a (Nat.le_refl _)).more a.size
theorem lt_of_cell {w:World} {b o:Nat} {v:Value} (h:w.cell? ⟨b,o,none⟩=some v):b < w.heap.size:=by
 rcases Nat.lt_or_ge b w.heap.size with a | a
 {exact a}
 {simp[World.cell?,Array.getElem?_eq_none a] at h}
def strs (l:List (List UInt8)):List ByteArray:=l.map fun p=>⟨p.toArray⟩
end
end Go.Proofs.YtkncdbaoaeeoiaaGreatDoor
namespace Lex
theorem Z52 {p:UInt8->Bool}: ∀ {s:List UInt8} {n:Nat},n<=s.length->(∀j (hj:j < s.length),j < n->p (s[j]'hj)=true)->(∀(h:n < s.length),p (s[n]'h)=false)->(s.takeWhile p).length=n
 | [],n,h,_,_=>by simp at h; simp[h]
 | x::r,0,_,_,h=>by
  have:=h (by simp);simp at this;rw[List.takeWhile_cons_of_neg (by simp[this])]; rfl
 | x::r,n+1,h1,h2,h3=>by
  have a:=h2 0 (by simp) (by omega);simp at a;rw[List.takeWhile_cons_of_pos a,List.length_cons,Z52 (s:=r) (n:=n) (by simpa using h1) (fun j hj hn=>by
   have:=h2 (j+1) (by simpa using hj) (by omega);simpa using this) (fun h=>by
   have:=h3 (by simpa using h);simpa using this)]
end Lex
namespace Go.Proofs.YtkncdbaoaeeoiaaGreatDoor
open Go.RowKit
theorem Z0i (s:ByteArray) (n:Nat) (h:n < s.size) (W:World): (Instr.index 9 (.string s) (.int .i64 (n:Int))).run Tryz.prog W= .ok (.int .u8 (s[n]'h).toNat) W:=by
 rw[run_index_string (P:=Tryz.prog) _ _ _ _ _ Tryz.underlying9,dif_pos ⟨by omega,by omega⟩];simp
theorem Zap (c:UInt8): ((c.toNat:Int)==95)=(c==95):=by
 rw[Bool.eq_iff_iff,beq_iff_eq,beq_iff_eq];constructor
 {intro h; apply UInt8.toNat_inj.1; show c.toNat=95; omega}
 {rintro rfl; rfl}
end Go.Proofs.YtkncdbaoaeeoiaaGreatDoor
namespace Go.Proofs.YtkncdbaoaeeoiaaGreatDoor
section
open Go.RowKit Shp
theorem Z0p {k:IntKind} {a b:Int} (h:a=b):Ending.returned (.int k a)= .returned (.int k b):=by rw[h]
theorem Z08 {a b:Bool} (h:a=b):Ending.returned (.bool a)= .returned (.bool b):=by rw[h]
structure Ptr where
 A:Option Addr
 c:Nat
 P:Option Addr
 d:Nat
abbrev Y8 (t:Shp.Sh) (q:Ptr):Array Value:=#[.int .i64 t.kind,.string ⟨t.of_.toArray⟩,.string ⟨t.name.toArray⟩,.slice q.A t.names.length q.c,.slice q.P t.parts.length q.d]
def Sh5 (w:World) (g o:Nat) (t:Sh) (q:Ptr):Prop:=
 w.cell? ⟨g,o,none⟩=some (.int .i64 t.kind)/\w.cell? ⟨g,o+1,none⟩=some (.string ⟨t.of_.toArray⟩)/\w.cell? ⟨g,o+2,none⟩=some (.string ⟨t.name.toArray⟩)/\
 w.cell? ⟨g,o+3,none⟩=some (.slice q.A t.names.length q.c)/\w.cell? ⟨g,o+4,none⟩=some (.slice q.P t.parts.length q.d)
theorem Sh5.of {w w':World} {g o:Nat} {t:Sh} {q:Ptr} (h:Sh5 w g o t q) (a: ∀k,w'.cell? ⟨g,k,none⟩=w.cell? ⟨g,k,none⟩):Sh5 w' g o t q:=by
 obtain ⟨b,c,d,e,f⟩:=h;exact ⟨(a _).trans b,(a _).trans c,(a _).trans d,(a _).trans e,(a _).trans f⟩
theorem Sh5.keep {w w':World} {g o B:Nat} {t:Sh} {q:Ptr} (h:Sh5 w g o t q) (b:g < B) (a:Below B w w'):Sh5 w' g o t q:=
 h.of (fun k=>a.cell (p:=⟨g,k,none⟩) b)
structure Small (t:Sh) (q:Ptr):Prop where
 o:t.of_.length<=9223372036854775807
 n:t.name.length<=9223372036854775807
 ns: ∀x∈t.names,x.length<=9223372036854775807
 l:t.names.length<=9223372036854775807
 m:t.parts.length<=9223372036854775807
 c:t.names.length<=q.c
 d:t.parts.length<=q.d
 A0:q.A=none->q.c=0
 P0:q.P=none->q.d=0
inductive ShAt (w:World) (B:Nat):Ptr->Sh->Prop
 | mk (q:Ptr) (t:Sh) (g off:Nat) (qs:Nat->Ptr) (hs:Small t q) (hn:Strs w B q.A (strs t.names)) (hp:t.parts.length=0\/q.P=some ⟨g,off,none⟩/\g < B)
  (hc: ∀i (h:i < t.parts.length),Sh5 w g (off+i * 5) (t.parts[i]'h) (qs i)) (hr: ∀i (h:i < t.parts.length),ShAt w B (qs i) (t.parts[i]'h)):ShAt w B q t
theorem ShAt.small {w:World} {B:Nat} {q:Ptr} {t:Sh} (h:ShAt w B q t):Small t q:=by cases h; assumption
theorem ShAt.strs {w:World} {B:Nat} {q:Ptr} {t:Sh} (h:ShAt w B q t):Strs w B q.A (strs t.names):=by cases h; assumption
theorem ShAt.part {w:World} {B:Nat} {q:Ptr} {t:Sh} (h:ShAt w B q t):t.parts.length=0\/ ∃(g off:Nat) (qs:Nat->Ptr),q.P=some ⟨g,off,none⟩/\g < B/\(∀i (h:i < t.parts.length),Sh5 w g (off+i * 5) (t.parts[i]'h) (qs i))/\ ∀i (h:i < t.parts.length),ShAt w B (qs i) (t.parts[i]'h):=by
 cases h with
 | mk _ _ g off qs hs hn a hc hr=>
  rcases a with a | ⟨a,b⟩
  {exact Or.inl a}
  {exact Or.inr ⟨g,off,qs,a,b,hc,hr⟩}
theorem ShAt.of {w w':World} {B B':Nat} {q:Ptr} {t:Sh} (h:ShAt w B q t) (f:B<=B') (j: ∀g k,g < B->w'.cell? ⟨g,k,none⟩=w.cell? ⟨g,k,none⟩):ShAt w' B' q t:=by
 induction h with
 | mk q t g off qs hs hn hp hc' hr ih=>
  refine .mk q t g off qs hs ?_ ?_ ?_ ih
  {rcases hn with h | ⟨b,o,l,a,c⟩
   {exact Or.inl h}
   {exact Or.inr ⟨b,o,l,Nat.lt_of_lt_of_le a f,fun i e=>(j b _ a).trans (c i e)⟩}}
  {rcases hp with h | ⟨h,d⟩
   {exact Or.inl h}
   {exact Or.inr ⟨h,Nat.lt_of_lt_of_le d f⟩}}
  {intro i e;rcases hp with h | ⟨h,d⟩
   {omega}
   {exact (hc' i e).of (fun k=>j g k d)}}
theorem ShAt.keep {w w':World} {B B':Nat} {q:Ptr} {t:Sh} (h:ShAt w B q t) (b:Below B' w w') (a:B<=B'):ShAt w' B q t:=
 h.of (Nat.le_refl _) (fun g k hg=>b.cell (p:=⟨g,k,none⟩) (Nat.lt_of_lt_of_le hg a))
theorem ShAt.more {w:World} {B B':Nat} {q:Ptr} {t:Sh} (h:ShAt w B q t) (a:B<=B'):ShAt w B' q t:=h.of a (fun _ _ _=>rfl)
theorem ShAt.next {w w':World} {q:Ptr} {t:Sh} (h:ShAt w w.heap.size q t) (a:Below w.heap.size w w'):ShAt w' w'.heap.size q t:=(h.keep a (Nat.le_refl _)).more a.size
def Box5 (w:World) (g:Nat) (t:Sh) (q:Ptr):Prop:=
 g < w.heap.size/\Sh5 w g 0 t q/\w.frozen? ⟨g,0,none⟩=false/\w.frozen? ⟨g,1,none⟩=false/\w.frozen? ⟨g,2,none⟩=false/\w.frozen? ⟨g,3,none⟩=false/\w.frozen? ⟨g,4,none⟩=false
theorem Box5.keep {W W':World} {g B:Nat} {t:Sh} {q:Ptr} (h:Box5 W g t q) (b:g < B) (a:Below B W W'):Box5 W' g t q:=by
 obtain ⟨j,k,c,d,e,f,i⟩:=h;exact ⟨Nat.lt_of_lt_of_le j a.size,k.keep b a,(a.frozen (p:=⟨g,0,none⟩) b).trans c,(a.frozen (p:=⟨g,1,none⟩) b).trans d,(a.frozen (p:=⟨g,2,none⟩) b).trans e,(a.frozen (p:=⟨g,3,none⟩) b).trans f,(a.frozen (p:=⟨g,4,none⟩) b).trans i⟩
theorem Box5.next {W W':World} {g:Nat} {t:Sh} {q:Ptr} (h:Box5 W g t q) (a:Below W.heap.size W W'):Box5 W' g t q:=h.keep h.1 a
theorem Z0k (w:World) (t:Sh) (q:Ptr):Box5 (w.alloc (.cells (Y8 t q) 43)) w.heap.size t q:=
 ⟨by simp,⟨by simp[go_sem],by simp[go_sem],by simp[go_sem],by simp[go_sem],by simp[go_sem]⟩,by simp[go_sem],by simp[go_sem],by simp[go_sem],by simp[go_sem],by simp[go_sem]⟩
theorem Z0r (b off k:Nat): (⟨b,off,none⟩:Addr).add k=⟨b,off+k,none⟩:=by unfold Addr.add; split <;> simp_all
end
section
open Go.RowKit Tms
open Shp (Sh)
structure TP where
 A:Option Addr
 c:Nat
 V:Option Addr
 e:Nat
 S:Option Addr
 s:Nat
 P:Option Addr
 d:Nat
abbrev Y7 (t:Tms.Tm) (q:TP):Array Value:=#[.int .i64 t.kind,.string ⟨t.of_.toArray⟩,.string ⟨t.name.toArray⟩,.int .i64 t.n,.slice q.A t.names.length q.c,.slice q.V t.vars.length q.e,.slice q.S t.shapes.length q.s,.slice q.P t.parts.length q.d,.int .i64 t.at_]
def Tm9 (w:World) (g o:Nat) (t:Tm) (q:TP):Prop:=
 w.cell? ⟨g,o,none⟩=some (.int .i64 t.kind)/\w.cell? ⟨g,o+1,none⟩=some (.string ⟨t.of_.toArray⟩)/\w.cell? ⟨g,o+2,none⟩=some (.string ⟨t.name.toArray⟩)/\w.cell? ⟨g,o+3,none⟩=some (.int .i64 t.n)/\
 w.cell? ⟨g,o+4,none⟩=some (.slice q.A t.names.length q.c)/\w.cell? ⟨g,o+5,none⟩=some (.slice q.V t.vars.length q.e)/\w.cell? ⟨g,o+6,none⟩=some (.slice q.S t.shapes.length q.s)/\w.cell? ⟨g,o+7,none⟩=some (.slice q.P t.parts.length q.d)/\w.cell? ⟨g,o+8,none⟩=some (.int .i64 t.at_)
theorem Tm9.of {w w':World} {g o:Nat} {t:Tm} {q:TP} (h:Tm9 w g o t q) (a: ∀k,w'.cell? ⟨g,k,none⟩=w.cell? ⟨g,k,none⟩):Tm9 w' g o t q:=by
 obtain ⟨b,c,d,e,f,i,j,l,m⟩:=h;exact ⟨(a _).trans b,(a _).trans c,(a _).trans d,(a _).trans e,(a _).trans f,(a _).trans i,(a _).trans j,(a _).trans l,(a _).trans m⟩
theorem Tm9.keep {w w':World} {g o B:Nat} {t:Tm} {q:TP} (h:Tm9 w g o t q) (b:g < B) (a:Below B w w'):Tm9 w' g o t q:=h.of (fun k=>a.cell (p:=⟨g,k,none⟩) b)
structure TSmall (t:Tm) (q:TP):Prop where
 o:t.of_.length<=9223372036854775807
 n:t.name.length<=9223372036854775807
 ns: ∀x∈t.names,x.length<=9223372036854775807
 vs: ∀x∈t.vars,x.length<=9223372036854775807
 l:t.names.length<=9223372036854775807
 v:t.vars.length<=9223372036854775807
 sh:t.shapes.length<=9223372036854775807
 m:t.parts.length<=9223372036854775807
 c:t.names.length<=q.c
 e:t.vars.length<=q.e
 s:t.shapes.length<=q.s
 d:t.parts.length<=q.d
 A0:q.A=none->q.c=0
 V0:q.V=none->q.e=0
 S0:q.S=none->q.s=0
 P0:q.P=none->q.d=0
 i3: -9223372036854775808<=t.n/\t.n<=9223372036854775807
 i8: -9223372036854775808<=t.at_/\t.at_<=9223372036854775807
 i0: -9223372036854775808<=t.kind/\t.kind<=9223372036854775807
def ShsAt (w:World) (B:Nat) (S:Option Addr) (l:List Sh):Prop:=
 l.length=0\/ ∃(g off:Nat) (rs:Nat->Ptr),S=some ⟨g,off,none⟩/\g < B/\(∀i (h:i < l.length),Sh5 w g (off+i * 5) (l[i]'h) (rs i))/\ ∀i (h:i < l.length),ShAt w B (rs i) (l[i]'h)
theorem ShsAt.of {w w':World} {B B':Nat} {S:Option Addr} {l:List Sh} (h:ShsAt w B S l) (b:B<=B') (c: ∀g k,g < B->w'.cell? ⟨g,k,none⟩=w.cell? ⟨g,k,none⟩):ShsAt w' B' S l:=by
 rcases h with h | ⟨g,off,rs,d,a,e,f⟩
 {exact Or.inl h}
 {exact Or.inr ⟨g,off,rs,d,Nat.lt_of_lt_of_le a b,fun i hi=>(e i hi).of (fun k=>c g k a),fun i hi=>(f i hi).of b c⟩}
inductive TmAt (w:World) (B:Nat):TP->Tm->Prop
 | mk (q:TP) (t:Tm) (g off:Nat) (qs:Nat->TP) (hs:TSmall t q) (hn:Strs w B q.A (strs t.names)) (hv:Strs w B q.V (strs t.vars)) (hS:ShsAt w B q.S t.shapes) (hp:t.parts.length=0\/q.P=some ⟨g,off,none⟩/\g < B)
  (hc: ∀i (h:i < t.parts.length),Tm9 w g (off+i * 9) (t.parts[i]'h) (qs i)) (hr: ∀i (h:i < t.parts.length),TmAt w B (qs i) (t.parts[i]'h)):TmAt w B q t
theorem TmAt.small {w:World} {B:Nat} {q:TP} {t:Tm} (h:TmAt w B q t):TSmall t q:=by cases h; assumption
theorem TmAt.vars {w:World} {B:Nat} {q:TP} {t:Tm} (h:TmAt w B q t):Strs w B q.V (strs t.vars):=by cases h; assumption
theorem TmAt.shapes {w:World} {B:Nat} {q:TP} {t:Tm} (h:TmAt w B q t):ShsAt w B q.S t.shapes:=by cases h; assumption
theorem TmAt.strs {w:World} {B:Nat} {q:TP} {t:Tm} (h:TmAt w B q t):Strs w B q.A (strs t.names):=by cases h; assumption
theorem TmAt.part {w:World} {B:Nat} {q:TP} {t:Tm} (h:TmAt w B q t):t.parts.length=0\/ ∃(g off:Nat) (qs:Nat->TP),q.P=some ⟨g,off,none⟩/\g < B/\(∀i (h:i < t.parts.length),Tm9 w g (off+i * 9) (t.parts[i]'h) (qs i))/\ ∀i (h:i < t.parts.length),TmAt w B (qs i) (t.parts[i]'h):=by
 cases h with
 | mk _ _ g off qs hs hn hv hS a hc hr=>
  rcases a with a | ⟨a,b⟩
  {exact Or.inl a}
  {exact Or.inr ⟨g,off,qs,a,b,hc,hr⟩}
theorem Z1w {w w':World} {B B':Nat} {A:Option Addr} {l:List ByteArray} (h:Strs w B A l) (e:B<=B') (f: ∀g k,g < B->w'.cell? ⟨g,k,none⟩=w.cell? ⟨g,k,none⟩):Strs w' B' A l:=by
 rcases h with h | ⟨b,o,d,a,c⟩
 {exact Or.inl h}
 {exact Or.inr ⟨b,o,d,Nat.lt_of_lt_of_le a e,fun i hi=>(f b _ a).trans (c i hi)⟩}
theorem TmAt.of {w w':World} {B B':Nat} {q:TP} {t:Tm} (h:TmAt w B q t) (a:B<=B') (b: ∀g k,g < B->w'.cell? ⟨g,k,none⟩=w.cell? ⟨g,k,none⟩):TmAt w' B' q t:=by
 induction h with
 | mk q t g off qs hs hn hv hS hp hc' hr ih=>
  refine .mk q t g off qs hs (Z1w hn a b) (Z1w hv a b) (hS.of a b) ?_ ?_ ih
  {rcases hp with h | ⟨h,c⟩
   {exact Or.inl h}
   {exact Or.inr ⟨h,Nat.lt_of_lt_of_le c a⟩}}
  {intro i d;rcases hp with h | ⟨h,c⟩
   {omega}
   {exact (hc' i d).of (fun k=>b g k c)}}
theorem TmAt.keep {w w':World} {B B':Nat} {q:TP} {t:Tm} (h:TmAt w B q t) (b:Below B' w w') (a:B<=B'):TmAt w' B q t:=
 h.of (Nat.le_refl _) (fun g k hg=>b.cell (p:=⟨g,k,none⟩) (Nat.lt_of_lt_of_le hg a))
theorem TmAt.more {w:World} {B B':Nat} {q:TP} {t:Tm} (h:TmAt w B q t) (a:B<=B'):TmAt w B' q t:=h.of a (fun _ _ _=>rfl)
theorem TmAt.next {w w':World} {q:TP} {t:Tm} (h:TmAt w w.heap.size q t) (a:Below w.heap.size w w'):TmAt w' w'.heap.size q t:=(h.keep a (Nat.le_refl _)).more a.size
theorem ShsAt.next {w w':World} {S:Option Addr} {l:List Sh} (h:ShsAt w w.heap.size S l) (a:Below w.heap.size w w'):ShsAt w' w'.heap.size S l:=h.of a.size (fun g k hg=>a.cell (p:=⟨g,k,none⟩) hg)
def Box9 (w:World) (g:Nat) (t:Tm) (q:TP):Prop:=g < w.heap.size/\Tm9 w g 0 t q/\ ∀k,w.frozen? ⟨g,k,none⟩=false
theorem Box9.keep {W W':World} {g B:Nat} {t:Tm} {q:TP} (h:Box9 W g t q) (b:g < B) (a:Below B W W'):Box9 W' g t q:=
 ⟨Nat.lt_of_lt_of_le h.1 a.size,h.2.1.keep b a,fun k=>(a.frozen (p:=⟨g,k,none⟩) b).trans (h.2.2 k)⟩
theorem Box9.next {W W':World} {g:Nat} {t:Tm} {q:TP} (h:Box9 W g t q) (a:Below W.heap.size W W'):Box9 W' g t q:=h.keep h.1 a
theorem Z1c (w:World) (t:Tm) (q:TP):Box9 (w.alloc (.cells (Y7 t q) 26)) w.heap.size t q:=
 ⟨by simp,⟨by simp[go_sem],by simp[go_sem],by simp[go_sem],by simp[go_sem],by simp[go_sem],by simp[go_sem],by simp[go_sem],by simp[go_sem],by simp[go_sem]⟩,fun k=>by simp[go_sem]⟩
end
section
open Go.RowKit Shp
structure UpC (cb B:Nat) (w w':World):Prop where
 os:w'.os=w.os
 tape:w'.tape=w.tape
 output:w'.output=w.output
 size:w.heap.size<=w'.heap.size
 block: ∀k,k < B->k≠cb->w'.heap[k]? =w.heap[k]?
 c1:w'.cell? ⟨cb,1,none⟩=w.cell? ⟨cb,1,none⟩
 f0:w'.frozen? ⟨cb,0,none⟩=w.frozen? ⟨cb,0,none⟩
theorem UpC.refl (a B:Nat) (w:World):UpC a B w w:=⟨rfl,rfl,rfl,Nat.le_refl _,fun _ _ _=>rfl,rfl,rfl⟩
theorem UpC.trans {d B:Nat} {a b c:World} (h:UpC d B a b) (k:UpC d B b c):UpC d B a c:=
 ⟨k.os.trans h.os,k.tape.trans h.tape,k.output.trans h.output,Nat.le_trans h.size k.size,fun i hi hn=>(k.block i hi hn).trans (h.block i hi hn),k.c1.trans h.c1,k.f0.trans h.f0⟩
theorem UpC.mono {a B B':Nat} {w w':World} (h:UpC a B w w') (b:B'<=B):UpC a B' w w':=⟨h.os,h.tape,h.output,h.size,fun k hk=>h.block k (Nat.lt_of_lt_of_le hk b),h.c1,h.f0⟩
theorem UpC.below {c B:Nat} {a w w':World} (h:UpC c B a w) (b:Below B w w') (d:c < B):UpC c B a w':=
 h.trans ⟨b.os,b.tape,b.output,b.size,fun k hk _=>b.block k hk,b.cell (p:=⟨c,1,none⟩) d,b.frozen (p:=⟨c,0,none⟩) d⟩
theorem UpC.set {b B:Nat} {a w:World} (h:UpC b B a w) (v:Value):UpC b B a (w.setCell ⟨b,0,none⟩ v):=
 h.trans ⟨rfl,rfl,rfl,by simp[World.setCell],fun k hk hn=>Below.heap_setCell _ _ _ _ hn,by simp[go_sem],by simp[go_sem]⟩
theorem UpC.next {d:Nat} {a b c:World} (h:UpC d a.heap.size a b) (k:UpC d b.heap.size b c):UpC d a.heap.size a c:=h.trans (k.mono h.size)
theorem UpC.cell {a B:Nat} {w w':World} (h:UpC a B w w') {g k:Nat} (b:g < B) (c:g≠a):w'.cell? ⟨g,k,none⟩=w.cell? ⟨g,k,none⟩:=World.cell?_of_block (w:=w) (h.block g b c)
theorem UpC.toBelow {a B:Nat} {w w':World} (h:UpC a B w w') (b:B<=a):Below B w w':=⟨h.os,h.tape,h.output,h.size,fun k hk=>h.block k hk (by omega)⟩
structure Cnt (w:World) (cb p m:Nat):Prop where
 lt:cb < w.heap.size
 c0:w.cell? ⟨cb,0,none⟩=some (.int .i64 (p:Int))
 c1:m=400
 f0:w.frozen? ⟨cb,0,none⟩=false
theorem Cnt.below {w w':World} {a p m:Nat} (h:Cnt w a p m) (b:Below w.heap.size w w'):Cnt w' a p m:=
 ⟨Nat.lt_of_lt_of_le h.lt b.size,(b.cell (p:=⟨a,0,none⟩) h.lt).trans h.c0,h.c1,(b.frozen (p:=⟨a,0,none⟩) h.lt).trans h.f0⟩
theorem Cnt.set {w:World} {a p m:Nat} (h:Cnt w a p m) (n:Nat):Cnt (w.setCell ⟨a,0,none⟩ (.int .i64 (n:Int))) a n m:=
 ⟨by simpa[World.setCell] using h.lt,by simp[go_sem,h.c0],h.c1,by simp[go_sem,h.f0]⟩
theorem ShAt.upc {w w':World} {B C a:Nat} {q:Ptr} {t:Sh} (h:ShAt w B q t) (b:UpC a C w w') (c:B<=a) (d:B<=C):ShAt w' B q t:=
 h.of (Nat.le_refl _) (fun g k hg=>b.cell (by omega) (by omega))
theorem Z6S (t:Sh): ∀(q:Ptr) (B b p m:Nat) (w:World),ShAt w B q t->B<=b->Cnt w b p m->p+size t<=m->m<=1000000->
 Calls Tryz.prog 139 #[.pointer (some ⟨b,0,none⟩),.agg (Y8 t q)] w
  fun e w'=>e= .returned (.int .i64 (deep t:Int))/\UpC b w.heap.size w w'/\Cnt w' b (p+size t) m:=by
 induction t using Sh.ind with
 | h t ih=>
 intro q B b p m w K z j I hm;have HQ:=Y1 K;have HM:=Y1 K.small.m;have HP:=Y1 K.part;have X:Hid (deep t=deeps t.parts+1):=Y1 (deep_eq t);have S:Hid (size t=1+sizes t.parts):=Y1 (size_eq t);have P:=Y1 (deep_size t);have u:Hid (p+size t<=m):=Y1 I;have f:p < m:=by have:=S.out; omega
 have c8: ((p:Int)==400)=false:=by rw[beq_eq_false_iff_ne]; have:=j.c1; omega
 have c9: (p:Int)<=1000000:=by omega
 have hb0:=Z01 w (.cells (Y8 t q) 43);have HC:=Y1 j;have hB:=Z0k w t q;have HB:=Y1 hB;have N:=Y1 (j.below hb0);have HU:=Y1 ((UpC.refl b w.heap.size w).below hb0 j.lt);have T:=j.lt;obtain ⟨_,k0,k1,k2⟩:=j.below hb0;clear k1;clear hb0 j hB I K;have c0:w.heap.size≠b:=by omega
 have a4:b≠w.heap.size:=by omega
 go_enter Tryz.func139,Tryz.ntmps139
 go_wp2_with fail
 obtain ⟨W0,c⟩: ∃W0,W0=(w.setCell ⟨b,0,none⟩ (.int .i64 ((p:Int)+1))).alloc (.cells (Y8 t q) 43):=⟨_,rfl⟩;have n:W0.heap.size=w.heap.size+1:=by rw[c]; simp[World.setCell]
 have C:UpC b w.heap.size w W0:=by
  rw[c];exact ((UpC.refl b w.heap.size w).set _).below ((Z01 _ _).mono (by simp[World.setCell])) T
 have A:Cnt W0 b (p+1) m:=by
  rw[c];exact (HC.out.set (p+1)).below (Z01 _ _)
 have y:Box5 W0 w.heap.size t q:=by
  have e: (w.setCell ⟨b,0,none⟩ (.int .i64 ((p:Int)+1))).heap.size=w.heap.size:=by simp[World.setCell]
  have h5:=Z0k (w.setCell ⟨b,0,none⟩ (.int .i64 ((p:Int)+1))) t q;rw[e] at h5;rw[c]; exact h5
 have v:=Y1 C;have M:=Y1 A;have L:=Y1 y;clear C A y;rw[<-c];have Q:=Y1 n;clear c k0 k2 HU N HB n
 go_loopw [5,24] (fun dd ii wr=> ∃i:Nat,ii= .int .i64 i/\i<=t.parts.length/\dd= .int .i64 (deeps (t.parts.take i):Int)/\Hid (UpC b W0.heap.size W0 wr)/\Hid (Cnt wr b (p+1+sizes (t.parts.take i)) m)) (fun _ i _=>t.parts.length - (intOf i).toNat)
 case atStart=>exact ⟨0,rfl,Nat.zero_le _,rfl,Y1 (UpC.refl _ _ _),M⟩
 case round=>
  obtain ⟨i,rfl,hi,rfl,d,s⟩:=hrel;have b9:=HM.out;have W:=deeps_take t.parts i;have b5:=P.out;have hd2:deeps t.parts<=1000000:=by have:=X.out; have:=u.out; omega
  by_cases f:i < t.parts.length
  {rcases HP.out with h0 | ⟨g,off,qs,J,hg,j,hr⟩
   {omega}
   {have l:UpC b w.heap.size w wr:=v.out.next d.out;obtain ⟨x,r⟩: ∃x,x=t.parts[i]:=⟨_,rfl⟩;have U:g < w.heap.size:=by omega
    obtain ⟨p0,p1,p2,p3,p4⟩:=(j i f).of (w':=wr) (fun k=>l.cell U (by omega));have F:=Z01 wr (.cells (Y8 x (qs i)) 43);have D:ShAt (wr.alloc (.cells (Y8 x (qs i)) 43)) B (qs i) x:=by
     rw[r];exact ((hr i f).upc l z (by omega)).keep (Z01 wr _) (by have:=l.size; omega)
    have H:=s.out.below F;have Z:Hid (sizes (t.parts.take (i+1))=sizes (t.parts.take i)+size x):=Y1 (by rw[r]; exact sizes_next f);have Y:Hid (deeps (t.parts.take (i+1))=max (deeps (t.parts.take i)) (deep x)):=Y1 (by rw[r]; exact deeps_next f);have o:=ih t.parts[i] (List.getElem_mem _) (qs i) B b (p+1+sizes (t.parts.take i)) m (wr.alloc (.cells (Y8 x (qs i)) 43));rw[<-r] at p0 p1 p2 p3 p4 o;have b6:deep x<=1000000:=by rw[r]; exact Nat.le_trans (deeps_mem (List.getElem_mem _)) hd2
    have E:p+1+sizes (t.parts.take i)+size x<=m:=by
     have:=sizes_take t.parts (i+1);have:=Z.out;have:=u.out;have:=S.out;omega
    have IH:=o D z H E hm;have a8:=Y1 (L.out);clear r j hr D o H E hd2 l F ih;have V: (i:Int) < (t.parts.length:Int):=by omega
    obtain ⟨a,ha⟩: ∃a,a=deeps (t.parts.take i):=⟨_,rfl⟩;rw[<-ha] at Y W ⊢;clear ha;rw[J];clear J
    go_wp2_with fail
    refine IH.mono ?_;rintro e w2 ⟨rfl,hu2,G⟩;have HU2:Hid (UpC b W0.heap.size W0 w2):=Y1 ((d.out.below ((Z01 wr _).mono d.out.size) (by have:=Q.out; omega)).trans (hu2.mono (by have:=d.out.size; simp; omega)));have O:Hid (Cnt w2 b (p+1+sizes (t.parts.take (i+1))) m):=Y1 (by rw[Z.out, <-Nat.add_assoc]; exact G);clear hu2 G IH;by_cases b7: (a:Int) < (deep x:Int)
    all_goals
     go_wp2
     go_roundw
     case rel=>exact ⟨i+1,by go_num,by omega,by rw[Y.out]; go_num,HU2,O⟩
     case measure=>simp[intOf]; omega}}
  {have HF:Hid (deep t=deeps (t.parts.take i)+1):=Y1 (by rw[X.out,show i=t.parts.length from by omega,List.take_length]);have HG:Hid (p+size t=p+1+sizes (t.parts.take i)):=Y1 (by rw[S.out,show i=t.parts.length from by omega,List.take_length]; omega);have V: ¬(i:Int) < (t.parts.length:Int):=by omega
   go_wp2;go_ret;exact ⟨Z0p (by rw[HF.out]; go_num),v.out.next d.out,by rw[HG.out]; exact s.out⟩}
theorem Z9d (t:Sh): ∀(q:Ptr) (B b p m:Nat) (w:World),ShAt w B q t->B<=b->Cnt w b p m->p<=m->m < p+size t->m<=1000000->
 Calls Tryz.prog 139 #[.pointer (some ⟨b,0,none⟩),.agg (Y8 t q)] w
  fun e w'=>e= .panicked [{ v:= .iface 27 (.int .i64 3),recovered:=false }]/\UpC b w.heap.size w w':=by
 induction t using Sh.ind with
 | h t ih=>
 intro q B b p m w S A o a7 O hm;have HQ:=Y1 S;have HM:=Y1 S.small.m;have HP:=Y1 S.part;have HD:Hid (deep t=deeps t.parts+1):=Y1 (deep_eq t);have HZ:Hid (size t=1+sizes t.parts):=Y1 (size_eq t);have b9:=Y1 (deep_size t);have a1:Hid (m < p+size t):=Y1 O;have d6: (p:Int)<=1000000:=by omega
 have hb0:=Z01 w (.cells (Y8 t q) 43);have V:=Y1 o;have hB:=Z0k w t q;have HB:=Y1 hB;have X:=Y1 (o.below hb0);have HU:=Y1 ((UpC.refl b w.heap.size w).below hb0 o.lt);have N:=o.lt;obtain ⟨_,k0,k1,k2⟩:=o.below hb0;clear k1;clear hb0 o hB O S;have d5:w.heap.size≠b:=by omega
 have b5:b≠w.heap.size:=by omega
 by_cases s:p=m
 {have a6: ((p:Int)==400)=true:=by rw[beq_iff_eq]; have:=V.out.c1; omega
  have c9:=HU;clear s a7 ih;go_enter Tryz.func139,Tryz.ntmps139
  go_wp2_with fail
  exact ⟨rfl,rfl,HU.out⟩}
 have f:p < m:=by omega
 have a6: ((p:Int)==400)=false:=by rw[beq_eq_false_iff_ne]; have:=V.out.c1; omega
 clear s;go_enter Tryz.func139,Tryz.ntmps139
 go_wp2_with fail
 obtain ⟨W0,c⟩: ∃W0,W0=(w.setCell ⟨b,0,none⟩ (.int .i64 ((p:Int)+1))).alloc (.cells (Y8 t q) 43):=⟨_,rfl⟩;have u:W0.heap.size=w.heap.size+1:=by rw[c]; simp[World.setCell]
 have K:UpC b w.heap.size w W0:=by
  rw[c];exact ((UpC.refl b w.heap.size w).set _).below ((Z01 _ _).mono (by simp[World.setCell])) N
 have J:Cnt W0 b (p+1) m:=by
  rw[c];exact (V.out.set (p+1)).below (Z01 _ _)
 have I:Box5 W0 w.heap.size t q:=by
  have e: (w.setCell ⟨b,0,none⟩ (.int .i64 ((p:Int)+1))).heap.size=w.heap.size:=by simp[World.setCell]
  have h5:=Z0k (w.setCell ⟨b,0,none⟩ (.int .i64 ((p:Int)+1))) t q;rw[e] at h5;rw[c]; exact h5
 have a4:=Y1 K;have W:=Y1 J;have U:=Y1 I;clear K J I;rw[<-c];have a2:=Y1 u;clear c k0 k2 HU X HB u
 go_loopw [5,24] (fun dd ii wr=> ∃i:Nat,ii= .int .i64 i/\i<=t.parts.length/\dd= .int .i64 (deeps (t.parts.take i):Int)/\Hid (UpC b W0.heap.size W0 wr)/\p+1+sizes (t.parts.take i)<=m/\Hid (Cnt wr b (p+1+sizes (t.parts.take i)) m)) (fun _ i _=>t.parts.length - (intOf i).toNat)
 case atStart=>exact ⟨0,rfl,Nat.zero_le _,rfl,Y1 (UpC.refl _ _ _),by simp[sizes]; omega,W⟩
 case round=>
  obtain ⟨i,rfl,hi,rfl,n,r,Z⟩:=hrel;have d4:=HM.out;have a8:deeps (t.parts.take i)<=1000000:=by have:=Z99 (t.parts.take i); omega
  by_cases f:i < t.parts.length
  {rcases HP.out with h0 | ⟨g,off,qs,P,hg,o,hr⟩
   {omega}
   {have l:UpC b w.heap.size w wr:=a4.out.next n.out;obtain ⟨x,Q⟩: ∃x,x=t.parts[i]:=⟨_,rfl⟩;have a5:g < w.heap.size:=by omega
    obtain ⟨p0,p1,p2,p3,p4⟩:=(o i f).of (w':=wr) (fun k=>l.cell a5 (by omega));have L:=Z01 wr (.cells (Y8 x (qs i)) 43);have C:ShAt (wr.alloc (.cells (Y8 x (qs i)) 43)) B (qs i) x:=by
     rw[Q];exact ((hr i f).upc l A (by omega)).keep (Z01 wr _) (by have:=l.size; omega)
    have D:=Z.out.below L;have HN:Hid (sizes (t.parts.take (i+1))=sizes (t.parts.take i)+size x):=Y1 (by rw[Q]; exact sizes_next f);have HE:Hid (deeps (t.parts.take (i+1))=max (deeps (t.parts.take i)) (deep x)):=Y1 (by rw[Q]; exact deeps_next f);have G:=ih t.parts[i] (List.getElem_mem _) (qs i) B b (p+1+sizes (t.parts.take i)) m (wr.alloc (.cells (Y8 x (qs i)) 43));rw[<-Q] at p0 p1 p2 p3 p4 G;have E:=fun hbd=>Z6S x (qs i) B b (p+1+sizes (t.parts.take i)) m (wr.alloc (.cells (Y8 x (qs i)) 43)) C A D hbd hm;have F:=fun hbd=>G C A D r hbd hm;have y:=Y1 l;have b8:=Y1 (U.out);clear Q o hr C G D l L ih;have d3: (i:Int) < (t.parts.length:Int):=by omega
    obtain ⟨a,ha⟩: ∃a,a=deeps (t.parts.take i):=⟨_,rfl⟩;rw[<-ha] at HE a8 ⊢;clear ha;rw[P];clear P;by_cases d:m < p+1+sizes (t.parts.take i)+size x
    {have H:=F d;clear E F d
     go_wp2_with fail
     refine H.mono ?_;rintro e T ⟨rfl,j⟩;have z:Hid (UpC b w.heap.size w T):=Y1 ((y.out.below ((Z01 wr _).mono y.out.size) N).trans (j.mono (by have:=y.out.size; simp; omega)));clear j H;go_wp2;exact ⟨rfl,rfl,z.out⟩}
    have H:=E (by omega);have d1:deep x<=1000000:=by have:=deep_size x; omega
    have a0:Hid (p+1+sizes (t.parts.take (i+1))<=m):=Y1 (by rw[HN.out]; omega);clear E F d
    go_wp2_with fail
    refine H.mono ?_;rintro e T ⟨rfl,j,M⟩;have z:Hid (UpC b W0.heap.size W0 T):=Y1 ((n.out.below ((Z01 wr _).mono n.out.size) (by have:=a2.out; omega)).trans (j.mono (by have:=n.out.size; simp; omega)));have Y:Hid (Cnt T b (p+1+sizes (t.parts.take (i+1))) m):=Y1 (by rw[HN.out, <-Nat.add_assoc]; exact M);clear j M H;by_cases d2: (a:Int) < (deep x:Int)
    all_goals
     go_wp2
     go_roundw
     case rel=>exact ⟨i+1,by go_num,by omega,by rw[HE.out]; go_num,z,a0.out,Y⟩
     case measure=>simp[intOf]; omega}}
  {exfalso;have:=a1.out;rw[show i=t.parts.length from by omega,List.take_length] at r;rw[HZ.out] at this;omega}
end
section
open Go.RowKit Tms
open Shp (Sh)
theorem TmAt.upc {w w':World} {B C a:Nat} {q:TP} {t:Tm} (h:TmAt w B q t) (b:UpC a C w w') (c:B<=a) (d:B<=C):TmAt w' B q t:=
 h.of (Nat.le_refl _) (fun g k hg=>b.cell (by omega) (by omega))
structure Cnt8 (w:World) (cb p:Nat):Prop where
 lt:cb < w.heap.size
 c0:w.cell? ⟨cb,0,none⟩=some (.int .i64 (p:Int))
 f0:w.frozen? ⟨cb,0,none⟩=false
theorem Cnt8.below {w w':World} {a p:Nat} (h:Cnt8 w a p) (b:Below w.heap.size w w'):Cnt8 w' a p:=
 ⟨Nat.lt_of_lt_of_le h.lt b.size,(b.cell (p:=⟨a,0,none⟩) h.lt).trans h.c0,(b.frozen (p:=⟨a,0,none⟩) h.lt).trans h.f0⟩
theorem Cnt8.set {w:World} {a p:Nat} (h:Cnt8 w a p) (n:Nat):Cnt8 (w.setCell ⟨a,0,none⟩ (.int .i64 (n:Int))) a n:=
 ⟨by simpa[World.setCell] using h.lt,by simp[go_sem,h.c0],by simp[go_sem,h.f0]⟩
theorem Z81 (t:Tm): ∀(q:TP) (B a p:Nat) (w:World),TmAt w B q t->B<=a->Cnt8 w a p->p<=4096->
 Calls Tryz.prog 77 #[.pointer (some ⟨a,0,none⟩),.agg (Y7 t q)] w
  fun e w'=> ∃r:Nat,e= .returned (.int .i64 (r:Int))/\(p+size t<=4096->r=deep t)/\p+r<=min (p+size t) 4097/\UpC a w.heap.size w w'/\Cnt8 w' a (min (p+size t) 4097):=by
 induction t using Tm.ind with
 | h t ih=>
 intro q B a p w hq I A d8;have HM:=Y1 hq.small.m;have HP:=Y1 hq.part;have HD:Hid (deep t=deeps t.parts+1):=Y1 (deep_eq t);have HZ:Hid (size t=1+sizes t.parts):=Y1 (size_eq t);have d7: (p:Int)<=4096:=by omega
 have P:=A.lt;have HC:=Y1 A;obtain ⟨_,k0,k2⟩:=A.below (Z01 w (.cells (Y7 t q) 26));have d6:w.heap.size≠a:=by omega
 have b2:a≠w.heap.size:=by omega
 clear A hq;go_enter Tryz.func77,Tryz.ntmps77
 go_wp2_with fail
 obtain ⟨W0,j⟩: ∃W0,W0=(w.setCell ⟨a,0,none⟩ (.int .i64 ((p:Int)+1))).alloc (.cells (Y7 t q) 26):=⟨_,rfl⟩;have u:W0.heap.size=w.heap.size+1:=by rw[j]; simp[World.setCell]
 have K:UpC a w.heap.size w W0:=by
  rw[j];exact ((UpC.refl a w.heap.size w).set _).below ((Z01 _ _).mono (by simp[World.setCell])) P
 have J:Cnt8 W0 a (p+1):=by
  rw[j];exact (HC.out.set (p+1)).below (Z01 _ _)
 have H:Box9 W0 w.heap.size t q:=by
  have e: (w.setCell ⟨a,0,none⟩ (.int .i64 ((p:Int)+1))).heap.size=w.heap.size:=by simp[World.setCell]
  have h5:=Z1c (w.setCell ⟨a,0,none⟩ (.int .i64 ((p:Int)+1))) t q;rw[e] at h5;rw[j]; exact h5
 have G:=Y1 K;have W:=Y1 J;have V:=Y1 H;clear K J H;rw[<-j];have a1:=Y1 u;clear j k0 k2 u
 go_loopw [5,18] (fun dd ii wr=> ∃i d:Nat,ii= .int .i64 i/\i<=t.parts.length/\dd= .int .i64 (d:Int)/\(p+1+sizes (t.parts.take i)<=4096->d=deeps (t.parts.take i))/\p+1+d<=min (p+1+sizes (t.parts.take i)) 4097/\Hid (UpC a W0.heap.size W0 wr)/\Hid (Cnt8 wr a (min (p+1+sizes (t.parts.take i)) 4097))) (fun _ i _=>t.parts.length - (intOf i).toNat)
 case atStart=>exact ⟨0,0,rfl,Nat.zero_le _,rfl,fun _=>rfl,by simp[sizes]; omega,Y1 (UpC.refl _ _ _),by
  have:min (p+1+sizes (t.parts.take 0)) 4097=p+1:=by simp[sizes]; omega
  rw[this]; exact W⟩
 case round=>
  obtain ⟨i,d,rfl,hi,rfl,U,D,l,f⟩:=hrel;have d5:=HM.out;have d3: (d:Int)<=4097:=by omega
  by_cases s:i < t.parts.length
  {rcases HP.out with h0 | ⟨g,off,qs,S,hg,A,hr⟩
   {omega}
   {have b:UpC a w.heap.size w wr:=G.out.next l.out;obtain ⟨x,T⟩: ∃x,x=t.parts[i]:=⟨_,rfl⟩;have a3:g < w.heap.size:=by omega
    obtain ⟨p0,p1,p2,p3,p4,p5,p6,p7,p8⟩:=(A i s).of (w':=wr) (fun k=>b.cell a3 (by omega));have N:=Z01 wr (.cells (Y7 x ((qs i))) 26);have L:TmAt (wr.alloc (.cells (Y7 x ((qs i))) 26)) B (qs i) x:=by
     rw[T];exact ((hr i s).upc b I (by omega)).keep (Z01 wr _) (by have:=b.size; omega)
    have Q:=f.out.below N;have Y:Hid (sizes (t.parts.take (i+1))=sizes (t.parts.take i)+size x):=Y1 (by rw[T]; exact sizes_next s);have HE:Hid (deeps (t.parts.take (i+1))=max (deeps (t.parts.take i)) (deep x)):=Y1 (by rw[T]; exact deeps_next s);have e1:=size_pos x;have E:=ih t.parts[i] (List.getElem_mem _) (qs i) B a (min (p+1+sizes (t.parts.take i)) 4097) (wr.alloc (.cells (Y7 x ((qs i))) 26));rw[<-T] at p0 p1 p2 p3 p4 p5 p6 p7 p8 E;have o:=fun h=>E L I Q h;have d1:Hid (∀n,n<=i->sizes (t.parts.take n)<=sizes (t.parts.take i)):=Y1 (fun n hn=>by
     have:=sizes_take (t.parts.take i) n
     rwa [List.take_take,Nat.min_eq_left hn] at this)
    have b5:=Y1 (V.out);have e0:sizes (t.parts.take i)+size x<=sizes t.parts:=by rw[<-Y.out]; exact sizes_take _ _
    clear T A hr L E Q N ih;have a4: (i:Int) < (t.parts.length:Int):=by omega
    have X:=Y1 U;have y:=Y1 D;rw[S];clear S U D;obtain ⟨c,C⟩: ∃c,c=min (p+1+sizes (t.parts.take i)) 4097:=⟨_,rfl⟩;rw[<-C] at f o y;have m:=Y1 C;have d2:=f.out.c0;have b0:=f.out.lt;have b1:a≠wr.heap.size:=by omega
    clear C;by_cases M:4096 < c
    {have a2: (4096:Int) < (c:Int):=by omega
     have z:Hid (min (p+size t) 4097=c):=Y1 (by rw[m.out] at M ⊢; rw[HZ.out]; omega);have HR:Hid (p+(d+1)<=c):=Y1 (by have:=y.out; omega);have HU2:Hid (UpC a w.heap.size w (wr.alloc (.cells (Y7 x ((qs i))) 26))):=Y1 (b.below ((Z01 wr _).mono b.size) P);have v:=Y1 (f.out.below (Z01 wr (.cells (Y7 x ((qs i))) 26)));clear b o;go_wp2;go_ret;refine ⟨d+1,by go_num,fun h=> ?_,by rw[z.out]; exact HR.out,HU2.out,by rw[z.out]; exact v.out⟩;have:=z.out;omega}
    {have a2: ¬(4096:Int) < (c:Int):=by omega
     have IH:=o (by omega);have a6:=Y1 b;clear o b
     go_wp2_with fail
     refine IH.mono ?_;rintro e w2 ⟨r,rfl,hr1,hr2,hu2,O⟩;have HU2:Hid (UpC a W0.heap.size W0 w2):=Y1 ((l.out.below ((Z01 wr _).mono l.out.size) (by have:=a1.out; omega)).trans (hu2.mono (by have:=l.out.size; simp; omega)));have F:Hid (min (c+size x) 4097=min (p+1+sizes (t.parts.take (i+1))) 4097):=Y1 (by rw[Y.out,m.out]; omega);have v:Hid (Cnt8 w2 a (min (p+1+sizes (t.parts.take (i+1))) 4097)):=Y1 (by rw[<-F.out]; exact O);have Z:Hid (p+1+sizes (t.parts.take (i+1))<=4096->max d r=deeps (t.parts.take (i+1))):=Y1 (fun h=>by
      have h1:=Y.out;have h2:=m.out;rw[HE.out,X.out (by omega),hr1 (by omega)])
     have a0:Hid (p+1+max d r<=min (p+1+sizes (t.parts.take (i+1))) 4097):=Y1 (by
      rw[<-F.out];have:=y.out;have:=m.out;omega)
     have d9: (r:Int)<=4097:=by omega
     clear hu2 O IH hr1 hr2;by_cases d4: (d:Int) < (r:Int)
     all_goals
      go_wp2
      go_roundw
      case rel=>exact ⟨i+1,max d r,by go_num,by omega,by go_num,Z.out,a0.out,HU2,v⟩
      case measure=>simp[intOf]; omega}}}
  {have hie:i=t.parts.length:=by omega
   have z:Hid (p+1+sizes (t.parts.take i)=p+size t):=Y1 (by rw[HZ.out,hie,List.take_length]; omega);have HG:Hid (p+size t<=4096->d+1=deep t):=Y1 (fun h=>by rw[HD.out,U (by rw[z.out]; exact h),hie,List.take_length]);have HK:Hid (p+(d+1)<=min (p+size t) 4097):=Y1 (by rw[<-z.out]; omega);have a4: ¬(i:Int) < (t.parts.length:Int):=by omega
   clear hie U D;go_wp2;go_ret;exact ⟨d+1,by go_num,HG.out,HK.out,G.out.next l.out,by rw[<-z.out]; exact f.out⟩}
end
end Go.Proofs.YtkncdbaoaeeoiaaGreatDoor
namespace Tms
section
open Shp (Sh)
theorem Zcp {f:Tm->Tm} {l:List Tm} (h: ∀p∈l,size (f p)=size p):sizes (l.map f)=sizes l:=by
 induction l with
 | nil=>rfl
 | cons a l ih=>simp[sizes,h a (by simp),ih (fun p hp=>h p (by simp[hp]))]
theorem Zcq {f:Tm->Tm} {l:List Tm} (h: ∀p∈l,deep (f p)=deep p):deeps (l.map f)=deeps l:=by
 induction l with
 | nil=>rfl
 | cons a l ih=>simp[deeps,h a (by simp),ih (fun p hp=>h p (by simp[hp]))]
theorem Z3Z (t:Tm):size (strip t)=size t:=by
 induction t using Tm.ind with
 | h t ih=>rw[Z13,size_eq,size_eq t,Zcp ih]
theorem Z40 (t:Tm):deep (strip t)=deep t:=by
 induction t using Tm.ind with
 | h t ih=>rw[Z13,deep_eq,deep_eq t,Zcq ih]
theorem Zcr {t u:Tm} (h:strip t=strip u):size t=size u:=by rw[<-Z3Z t,h,Z3Z]
theorem Zcs {t u:Tm} (h:strip t=strip u):deep t=deep u:=by rw[<-Z40 t,h,Z40]
theorem Zaq {t:Tm} {ps:List Tm} {a:Int} (h:fits t=true) (d:ps.length=t.parts.length) (c:0<=a):fits ⟨t.kind,t.of_,t.name,t.n,t.names,t.vars,t.shapes,ps,a⟩=true:=by
 have b:fitsK ⟨t.kind,t.of_,t.name,t.n,t.names,t.vars,t.shapes,ps,a⟩=fitsK t:=by
  unfold fitsK lists; simp only[d]
 unfold fits at h ⊢;rw[b];simp only[Bool.and_eq_true,decide_eq_true_eq] at h ⊢;exact ⟨⟨⟨⟨⟨⟨c,h.1.1.1.1.1.2⟩,h.1.1.1.1.2⟩,h.1.1.1.2⟩,h.1.1.2⟩,h.1.2⟩,h.2⟩
def bare (t:Tm):Tm:=if check t=0 then strip t else t
end
end Tms
