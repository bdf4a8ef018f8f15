/- What the proofs of ParsePlaces want, part 1. -/
import Derived.Test.YtkncdbaoaeeoiaaGreatDoorRows
import Derived.WalkKit
import Derived.Lib.Hide
import Derived.Lib.Strings
import Derived.Lib.Builder
import Derived.BigQuiet
import Derived.Laws.Cover1
import Derived.SliceStrings
import Derived.SizedLaws
import Derived.OpenShut
import Derived.Deep.AppendLies
import Derived.StillTailTactics
import Derived.Deep.Fields
import Derived.Test.YtkncdbaoaeeoiaaGreatDoorK0n0
set_option linter.unusedVariables false
set_option linter.unusedSimpArgs false
set_option linter.unusedSectionVars false
set_option maxRecDepth 100000
set_option maxHeartbeats 16000000
namespace Tms
section
open Shp (Sh Z1v)
structure Tm where
 kind:Int
 of_:List UInt8
 name:List UInt8
 n:Int
 names:List (List UInt8)
 vars:List (List UInt8)
 shapes:List Sh
 parts:List Tm
 at_:Int
mutual
def size:Tm->Nat
 | ⟨_,_,_,_,_,_,_,ps,_⟩=>1+sizes ps
def sizes:List Tm->Nat
 | []=>0
 | p::ps=>size p+sizes ps
end
mutual
def deep:Tm->Nat
 | ⟨_,_,_,_,_,_,_,ps,_⟩=>deeps ps+1
def deeps:List Tm->Nat
 | []=>0
 | p::ps=>max (deep p) (deeps ps)
end
theorem size_eq (t:Tm):size t=1+sizes t.parts:=by cases t; rfl
theorem deep_eq (t:Tm):deep t=deeps t.parts+1:=by cases t; rfl
theorem size_pos (t:Tm):1<=size t:=by rw[size_eq]; omega
section
variable {l : List Tm} {p : Tm} (h : p ∈ l)
include l p h
theorem sizes_mem:size p<=sizes l:=by
 induction l with
 | nil=>cases h
 | cons a l ih=>
  rcases List.mem_cons.1 h with rfl | h
  {simp[sizes]}
  {have:=ih h; simp[sizes]; omega}
theorem deeps_mem:deep p<=deeps l:=by
 induction l with
 | nil=>cases h
 | cons a l ih=>
  rcases List.mem_cons.1 h with rfl | h
  {simp[deeps]; omega}
  {have:=ih h; simp[deeps]; omega}
end
theorem Tm.ind {P:Tm->Prop} (h: ∀t,(∀p∈t.parts,P p)->P t) (t:Tm):P t:=by
 have: ∀n t,size t<=n->P t:=by
  intro n;induction n with
  | zero=>intro t ht; have:=size_pos t; omega
  | succ n ih=>
   intro t ht;refine h t (fun p hp=>ih p ?_);have:=sizes_mem hp;rw[size_eq] at ht;omega
 exact this _ t (Nat.le_refl _)
theorem sizes_append (l m:List Tm):sizes (l++m)=sizes l+sizes m:=by
 induction l with
 | nil=>simp[sizes]
 | cons a l ih=>simp[sizes,ih]; omega
theorem deeps_append (l m:List Tm):deeps (l++m)=max (deeps l) (deeps m):=by
 induction l with
 | nil=>simp[deeps]
 | cons a l ih=>simp[deeps,ih,Nat.max_assoc]
section
variable {l : List Tm} {i : Nat} (h : i < l.length)
include l i h
theorem sizes_next:sizes (l.take (i+1))=sizes (l.take i)+size (l[i]'h):=by rw[Z1v h,sizes_append]; simp[sizes]
theorem deeps_next:deeps (l.take (i+1))=max (deeps (l.take i)) (deep (l[i]'h)):=by rw[Z1v h,deeps_append]; simp[deeps]
end
theorem sizes_take (l:List Tm) (i:Nat):sizes (l.take i)<=sizes l:=by
 have:=sizes_append (l.take i) (l.drop i);rw[List.take_append_drop] at this;omega
theorem deeps_take (l:List Tm) (i:Nat):deeps (l.take i)<=deeps l:=by
 have:=deeps_append (l.take i) (l.drop i);rw[List.take_append_drop] at this;omega
theorem length_sizes (l:List Tm):l.length<=sizes l:=by
 induction l with
 | nil=>simp
 | cons a l ih=>have:=size_pos a; simp[sizes]; omega
theorem deep_size (t:Tm):deep t<=size t:=by
 induction t using Tm.ind with
 | h t ih=>
  rw[deep_eq,size_eq];have: ∀l:List Tm,(∀p∈l,deep p<=size p)->deeps l<=sizes l:=by
   intro l;induction l with
   | nil=>simp[deeps]
   | cons a l ihl=>
    intro h;have h1:=h a (by simp);have h2:=ihl (fun p hp=>h p (by simp[hp]));simp[deeps,sizes]; omega
  have:=this _ ih;omega
def names (l:List (List UInt8)) (apart:Bool):Bool:=l.all Lex.isName&&(!apart||Shp.noDup l)
mutual
def hasOpaque:Sh->Bool
 | ⟨k,_,_,_,ps⟩=>decide (k=10)||hasOpaques ps
def hasOpaques:List Sh->Bool
 | []=>false
 | p::ps=>hasOpaque p||hasOpaques ps
end
theorem Z7Z (t:Sh):hasOpaque t=(decide (t.kind=10)||hasOpaques t.parts):=by cases t; rfl
theorem Z6t (l:List Sh):hasOpaques l=l.any hasOpaque:=by
 induction l with
 | nil=>rfl
 | cons a l ih=>simp[hasOpaques,ih]
def shapesOk (l:List Sh):Bool:=l.all fun s=>decide (Shp.check s=0)&& !hasOpaque s
def plainB (b:UInt8):Bool:=decide (32<=b.toNat)||b==9||b==10
def validGo:Nat->List UInt8->Bool
 | 0,s=>s.isEmpty
 | k+1,s=>s.isEmpty||(decide ((Utf.first s).2≠0)&&validGo k (s.drop (Utf.first s).2))
def valid (s:List UInt8):Bool:=validGo s.length s
def textOk (s:List UInt8):Bool:=s.all plainB&&valid s
def lists (t:Tm) (n v s p:Nat):Bool:=decide (t.names.length=n)&&decide (t.vars.length=v)&&decide (t.shapes.length=s)&&decide (t.parts.length=p)
def fitsK (t:Tm):Bool:=
 if t.kind=1 then t.name== []&&decide (0<=t.n)&&decide (t.n<=999999999999999)&&lists t 0 0 0 0
 else if t.kind=2 then textOk t.name&&lists t 0 0 0 0
 else if t.kind=3\/t.kind=4 then t.name== []&&lists t 0 0 0 0
 else if t.kind=5 then Lex.isName t.name&&(t.of_== []||Lex.isName t.of_)&&lists t 0 0 0 0
 else if t.kind=6 then t.name== []&&lists t t.names.length 0 t.names.length 1
 else if t.kind=7 then t.name== []&&decide (1<=t.parts.length)&&lists t 0 0 0 t.parts.length
 else if t.kind=8 then t.name== []&&lists t t.names.length 0 0 t.names.length
 else if t.kind=9\/t.kind=10 then Lex.isName t.name&&lists t 0 0 0 1
 else if t.kind=11 then t.name== []&&lists t 0 0 1 t.parts.length
 else if t.kind=12 then t.name== []&&lists t 0 0 1 3
 else if t.kind=13 then t.name== []&&lists t t.names.length t.names.length (t.names.length+1) (t.names.length+1)
 else if t.kind=14 then Lex.isName t.name&&lists t 0 0 0 2
 else if t.kind=15 then t.name== []&&lists t 0 0 1 1
 else if t.kind=16\/t.kind=17 then Lex.isUpper t.name&&lists t 0 0 0 1
 else false
def fits (t:Tm):Bool:=decide (0<=t.at_)&&names t.names true&&names t.vars false&&shapesOk t.shapes&&(decide (t.kind=1)||decide (t.n=0))&&(decide (t.kind=5)||t.of_== [])&&fitsK t
mutual
def right:Tm->Bool
 | ⟨k,o,na,n,ns,vs,ss,ps,a⟩=>fits ⟨k,o,na,n,ns,vs,ss,ps,a⟩&&rights ps
def rights:List Tm->Bool
 | []=>true
 | p::ps=>right p&&rights ps
end
theorem right_eq (t:Tm):right t=(fits t&&rights t.parts):=by cases t; rfl
theorem rights_all (l:List Tm):rights l=l.all right:=by
 induction l with
 | nil=>rfl
 | cons a l ih=>simp[rights,ih]
theorem right_fits {t:Tm} (h:right t=true):fits t=true:=by rw[right_eq,Bool.and_eq_true] at h; exact h.1
theorem right_part {t p:Tm} (h:right t=true) (hp:p∈t.parts):right p=true:=by
 rw[right_eq,rights_all,Bool.and_eq_true,List.all_eq_true] at h; exact h.2 p hp
def check (t:Tm):Int:=if 4096 < size t then 3 else if 40 < deep t then 91 else if right t=false then 80 else 0
mutual
def eqB (places:Bool):Tm->Tm->Bool
 | ⟨k,o,na,n,ns,vs,ss,ps,a⟩,⟨k',o',na',n',ns',vs',ss',ps',a'⟩=>k==k'&&o==o'&&na==na'&&n==n'&&(!places||a==a')&&ns==ns'&&vs==vs'&&Shp.eqs ss ss'&&eqs places ps ps'
def eqs (places:Bool):List Tm->List Tm->Bool
 | [],[]=>true
 | p::ps,q::qs=>eqB places p q&&eqs places ps qs
 | [],_::_=>false
 | _::_,[]=>false
end
mutual
def strip:Tm->Tm
 | ⟨k,o,na,n,ns,vs,ss,ps,_⟩=>⟨k,o,na,n,ns,vs,ss,strips ps,0⟩
def strips:List Tm->List Tm
 | []=> []
 | p::ps=>strip p::strips ps
end
def same (l:List Tm):Bool:=l.all fun t=>decide (check t=0)&&eqB false t (l.headD t)
theorem Z7j (k:Nat): ∀(s:List UInt8),s.length<=k-> ∀ {ps:List Int} {rest:List UInt8},Utf.Reads s ps rest->(validGo k s=true ↔ rest= []):=by
 induction k with
 | zero=>
  intro s hk ps rest h;have hs:s= []:=List.eq_nil_of_length_eq_zero (by omega);subst hs;have:=(Utf.Z3d h).2;simp only[List.length_nil] at this;have hr:rest= []:=List.eq_nil_of_length_eq_zero (by omega);rw[hr]; simp[validGo]
 | succ k ih=>
  intro s hk ps rest h;cases ps with
  | nil=>
   obtain rfl:s=rest:=by have:=h.text; simpa[Utf.Zam] using this
   cases s with
   | nil=>simp[validGo]
   | cons a r=>
    have hf: (Utf.first (a::r)).2=0:=by rw[h.none]
    simp[validGo,hf]
  | cons p ps=>
   have ht:s=Utf.bytes p++(Utf.enc ps++rest):=by rw[h.text,Utf.Z0H,List.append_assoc]
   have hf:Utf.first s=(p,Utf.width p):=by rw[ht]; exact Utf.Z0D p (h.pts p (by simp)) _
   have hw:=Utf.Z0O p;have hl: (Utf.bytes p).length=Utf.width p:=Utf.Z0c p;have hd:s.drop (Utf.width p)=Utf.enc ps++rest:=by rw[ht, <-hl,List.drop_left]
   have hsl:s.length=Utf.width p+(Utf.enc ps++rest).length:=by rw[ht,List.length_append,hl]
   have he:s.isEmpty=false:=by
    cases s with
    | nil=>simp at hsl; omega
    | cons a r=>rfl
   have:=ih (s.drop (Utf.width p)) (by rw[hd]; omega) (ps:=ps) (rest:=rest) ⟨fun x hx=>h.pts x (by simp[hx]),hd,h.none⟩;unfold validGo;rw[hf,he];simp only[Bool.false_or,Bool.and_eq_true,decide_eq_true_eq];rw[this];constructor
   {exact fun h=>h.2}
   {exact fun h=>⟨by omega,h⟩}
theorem Z9b {s:List UInt8} {ps:List Int} {rest:List UInt8} (h:Utf.Reads s ps rest):valid s=true ↔ rest= []:=Z7j s.length s (Nat.le_refl _) h
theorem Z2N (b:UInt8):plainB b=true ↔ ¬(b.toNat < 32/\b≠9/\b≠10):=by
 unfold plainB;simp only[Bool.or_eq_true,decide_eq_true_eq,beq_iff_eq];constructor
 {rintro ((h | h) | h) ⟨h1,h2,h3⟩
  {omega}
  {exact h2 h}
  {exact h3 h}}
 {intro h;by_cases h1:32<=b.toNat
  {exact Or.inl (Or.inl h1)}
  {by_cases h2:b=9
   {exact Or.inl (Or.inr h2)}
   {by_cases h3:b=10
    {exact Or.inr h3}
    {exact absurd ⟨by omega,h2,h3⟩ h}}}}
end
end Tms
namespace Go.Proofs.YtkncdbaoaeeoiaaGreatDoor
section
open Go.RowKit
theorem Z0b {B:Nat} {a w:World} (h:Below B a w) (n:Nat):Below B a (w.drewN n):=⟨h.os,h.tape,h.output,h.size,h.block⟩
abbrev Y9 (f:FuncId) (a:Array Value) (w:World) (v:Value):Prop:=Calls Tryz.prog f a w fun e w'=>e= .returned v/\Below w.heap.size w w'
abbrev Ya:Array Value:=#[.int .i64 0,.string ⟨#[]⟩,.string ⟨#[]⟩,.int .i64 0,.slice none 0 0,.slice none 0 0,.slice none 0 0,.slice none 0 0,.int .i64 0]
abbrev Yb:Array Value:=#[.int .i64 0,.string ⟨#[]⟩,.string ⟨#[]⟩,.slice none 0 0,.slice none 0 0]
abbrev Yc:Array Value:=#[.int .i64 0,.int .i64 0]
abbrev Yd:Array Value:=#[.int .i64 0,.string ⟨#[]⟩,.int .i64 0]
theorem Y1 {P:Prop} (h:P):Hid P:=Lib.hid h
theorem Y2 {B:Nat} {w:World}:Below B w w:=Below.refl _ _
section
variable {k n : Int} (m : Int) (h : k = n)
include k n m h
theorem Y3 (e: (n==m)=false): (k==m)=false:=by rw[h]; exact e
theorem Y4 (e: (n==m)=true): (k==m)=true:=by rw[h]; exact e
theorem Y5 (e: (n !=m)=false): (k !=m)=false:=by rw[h]; exact e
theorem Y6 (e: (n !=m)=true): (k !=m)=true:=by rw[h]; exact e
end
section
variable (s : ByteArray)
include s
theorem Z1i (p:Nat) (q:Int) (h1: (p:Int)<=q) (h2:q<=s.size) (W:World):
 (Instr.slice 9 (.string s) (some (.int .i64 p)) (some (.int .i64 q)) none).run Tryz.prog W= .ok (.string ⟨((s.data.toList.drop p).take (q.toNat - p)).toArray⟩) W:=by
 rw[run_slice_string (P:=Tryz.prog) W 9 s .i64 .i64 p q Tryz.underlying9 (by omega) h1 h2];have:=ByteArray.extract_mk s.data.toList p q.toNat;rw[Int.toNat_natCast];exact congrArg (fun b=>Result.ok (Value.string b) W) this
theorem Z0Z (p:Nat) (h:p<=s.size) (W:World):
 (Instr.slice 9 (.string s) (some (.int .i64 p)) none none).run Tryz.prog W= .ok (.string ⟨(s.data.toList.drop p).toArray⟩) W:=by
 rw[run_slice_string_from_if (P:=Tryz.prog) W 9 s .i64 p Tryz.underlying9,if_pos ⟨by omega,by omega⟩];have:=ByteArray.extract_mk s.data.toList p s.size;rw[Int.toNat_natCast];refine congrArg (fun b=>Result.ok (Value.string b) W) (this.trans ?_);rw[List.take_of_length_le (by rw[List.length_drop, <-Lib.size_eq]; omega)]
theorem ZdS (q:Int) (h0:0<=q) (h:q<=s.size) (W:World):
 (Instr.slice 9 (.string s) none (some (.int .i64 q)) none).run Tryz.prog W= .ok (.string ⟨(s.data.toList.take q.toNat).toArray⟩) W:=by
 rw[run_slice_string_to_if (P:=Tryz.prog) W 9 s .i64 q Tryz.underlying9,if_pos ⟨by omega,by omega⟩];have:=ByteArray.extract_mk s.data.toList 0 q.toNat;exact congrArg (fun b=>Result.ok (Value.string b) W) this
end
theorem Z07 (l:List UInt8): (⟨l.toArray⟩:ByteArray).size=l.length:=by simp[ByteArray.size]
theorem Zao (s:ByteArray) (p:Nat) (hp:p < s.size): ∃r:ByteArray,(∀W:World,(Instr.slice 9 (.string s) (some (.int .i64 p)) none none).run Tryz.prog W= .ok (.string r) W)/\
 r.data.toList=s.data.toList.drop p/\r.size+p=s.size/\0 < r.size/\r.toList.isEmpty=false/\ ∀(i:Nat) (h:i < r.size) (h':p+i < s.size),r[i]'h=s[p+i]'h':=by
 refine ⟨⟨(s.data.toList.drop p).toArray⟩,fun W=>Z0Z s p (by omega) W,rfl, ?_, ?_, ?_, ?_⟩
 {rw[Z07,List.length_drop, <-Lib.size_eq]; omega}
 {rw[Z07,List.length_drop, <-Lib.size_eq]; omega}
 {rw[ByteArray.toList_mk,List.isEmpty_eq_false_iff];intro h;have:=congrArg List.length h;rw[List.length_drop, <-Lib.size_eq] at this;simp at this;omega}
 {intro i h h';show (s.data.toList.drop p).toArray[i]=s.data[p+i];simp}
theorem Z2e {B:Nat} {w w':World} (h:Below B w w') (hB:w.heap.size<=B) (row:Option Nat):w.grownBy w' row:=
 ⟨h.os,h.tape,h.output,h.size,fun i hi _=>h.block i (Nat.lt_of_lt_of_le hi hB)⟩
theorem Z34 {T e:TypeId} {B b:Nat} {p:Value} {bs:List Value} {w w':World} (h:Lib.BuilderAt T e B b p bs w) (hb:Below w.heap.size w w'):Lib.BuilderAt T e B b p bs w':=by
 have hlt:=h.lt;obtain ⟨hB,v,hbk,hown,hne⟩:=h;exact ⟨hB,v,(hb.block b hlt).trans hbk,hown.kept (Z2e hb (Nat.le_refl _) none) (by
  rcases h:v.ownBlock with _ | x
  {exact Or.inl rfl}
  · exact Or.inr (by simp)),hne⟩
theorem Z1p {T e:TypeId} {B b:Nat} {bs:List Value} {w w':World} (h:Lib.IsBuilder T e B b bs w) (hb:Below w.heap.size w w'):Lib.IsBuilder T e B b bs w':=by
 rcases h with h | h
 {exact Or.inl (Z34 h hb)}
 {exact Or.inr (Z34 h hb)}
theorem Z00 {w W w':World} (h:Below w.heap.size w W) (hb:Below W.heap.size W w'):Below w.heap.size w w':=h.trans (hb.mono h.size)
theorem Z03 {w W:World} (h:Below w.heap.size w W) (o:Obj):Below w.heap.size w (W.alloc o):=h.alloc h.size o
theorem Z01 (w:World) (o:Obj):Below w.heap.size w (w.alloc o):=(Below.refl _ _).alloc (Nat.le_refl _) _
theorem Z04 {W w:World} {b o:Nat} (hb:Below W.heap.size W w) (h:b < W.heap.size):w.cell? ⟨b,o,none⟩=W.cell? ⟨b,o,none⟩/\w.frozen? ⟨b,o,none⟩=W.frozen? ⟨b,o,none⟩:=
 ⟨hb.cell (p:=⟨b,o,none⟩) h,hb.frozen (p:=⟨b,o,none⟩) h⟩
theorem flip {P:Program} {f:FuncId} {args:Array Value} {w:World} {v:Value} (h:Calls P f args w fun e w'=>e= .returned v/\w=w'):Calls P f args w fun e w'=>e= .returned v/\w'=w:=
 h.mono fun _ _ ⟨he,hw⟩=>⟨he,hw.symm⟩
theorem Z6Q (a b:List UInt8): (⟨a.toArray⟩:ByteArray)++⟨b.toArray⟩=⟨(a++b).toArray⟩:=by
 apply ByteArray.ext;simp[ByteArray.data_append]
theorem ZeX (s:ByteArray):s=⟨s.data.toList.toArray⟩:=by
 apply ByteArray.ext;simp
theorem Z16 (s:ByteArray):s.toList=s.data.toList:=by
 conv=>lhs; rw[ZeX s]
 rw[ByteArray.toList_mk]
theorem Z4x {s:ByteArray} {k:Nat} (h:k < s.size): (s.data.toList.take (k+1)).all Sem.dig=((s.data.toList.take k).all Sem.dig&&Sem.dig (s[k]'h)):=by
 rw[List.take_succ_eq_append_getElem (by rw[<-Lib.size_eq]; exact h),List.all_append];simp;rfl
theorem Z2u (s:ByteArray) (hs:s.size<=9223372036854775807) (w:World):
 Calls Tryz.prog 174 #[.string s] w fun e w'=>e= .returned (.bool (Sem.digits s.data.toList))/\w=w':=by
 go_enter Tryz.func174,Tryz.ntmps174
 go_wp2_with fail
 go_loop [3] (fun i=> ∃k:Nat,i= .int .i64 k/\k<=s.size/\Hid ((s.data.toList.take k).all Sem.dig=true)) (fun i=>s.size - (intOf i).toNat)
 case atStart=>exact ⟨0,rfl,Nat.zero_le _,Y1 rfl⟩
 case round=>
  obtain ⟨k,rfl,hk,HP⟩:=hrel;by_cases hlt:k < s.size
  {have hb:=(s[k]'hlt).toNat_lt;by_cases h1: (s[k]'hlt).toNat < 48
   {have HN:Hid (Sem.digits s.data.toList=false):=Y1 (by
     unfold Sem.digits;rw[Bool.and_eq_false_iff]; right;rw[List.all_eq_false];exact ⟨s[k]'hlt,by rw[show s[k]'hlt=s.data.toList[k]'(by rw[<-Lib.size_eq]; exact hlt) from rfl]; exact List.getElem_mem _,by simp[Sem.dig]; omega⟩)
    go_wp2;go_ret;exact ⟨by rw[HN.out]; rfl,rfl⟩}
   {by_cases h2:57 < (s[k]'hlt).toNat
    {have HN:Hid (Sem.digits s.data.toList=false):=Y1 (by
      unfold Sem.digits;rw[Bool.and_eq_false_iff]; right;rw[List.all_eq_false];exact ⟨s[k]'hlt,by rw[show s[k]'hlt=s.data.toList[k]'(by rw[<-Lib.size_eq]; exact hlt) from rfl]; exact List.getElem_mem _,by simp[Sem.dig]; omega⟩)
     go_wp2;go_ret;exact ⟨by rw[HN.out]; rfl,rfl⟩}
    {have HN:Hid ((s.data.toList.take (k+1)).all Sem.dig=true):=Y1 (by rw[Z4x hlt,HP.out]; simp[Sem.dig]; omega);go_wp2
     go_round
     case rel=>exact ⟨k+1,by go_num,by omega,HN⟩
     case measure=>simp[intOf]; omega}}}
  {have hall:s.data.toList.all Sem.dig=true:=by have:=HP.out; rwa [List.take_of_length_le (by rw[<-Lib.size_eq]; omega)] at this
   have HN:Hid (Sem.digits s.data.toList= !s.toList.isEmpty):=Y1 (by unfold Sem.digits; rw[hall,Bool.and_true,Z16]);clear hall;go_wp2;go_ret;exact ⟨by rw[HN.out]; rfl,rfl⟩}
def Strs (w:World) (B:Nat) (A:Option Addr) (ss:List ByteArray):Prop:=
 ss.length=0\/ ∃b off,A=some ⟨b,off,none⟩/\b < B/\ ∀i (h:i < ss.length),w.cell? ⟨b,off+i,none⟩=some (.string (ss[i]'h))
theorem Strs.keep {w w':World} {B B':Nat} {A:Option Addr} {ss:List ByteArray} (h:Strs w B A ss) (hb:Below B' w w') (hB:B<=B'):Strs w' B A ss:=by
 rcases h with h | ⟨b,off,hA,hlt,hc⟩
 {exact Or.inl h}
 {exact Or.inr ⟨b,off,hA,hlt,fun i hi=>(hb.cell (p:=⟨b,off+i,none⟩) (Nat.lt_of_lt_of_le hlt hB)).trans (hc i hi)⟩}
theorem Strs.more {w:World} {B B':Nat} {A:Option Addr} {ss:List ByteArray} (h:Strs w B A ss) (hB:B<=B'):Strs w B' A ss:=by
 rcases h with h | ⟨b,off,hA,hlt,hc⟩
 {exact Or.inl h}
 {exact Or.inr ⟨b,off,hA,Nat.lt_of_lt_of_le hlt hB,hc⟩}
theorem Strs.next {w w':World} {A:Option Addr} {ss:List ByteArray} (h:Strs w w.heap.size A ss) (hb:Below w.heap.size w w'):Strs w' w'.heap.size A ss:=
 (h.keep hb (Nat.le_refl _)).more hb.size
theorem Z9c {w:World} {B n:Nat} {v:Value} {ss:List ByteArray} (h:w.ownsRow B 9 1 v n (ss.map Value.string)): ∃A cap,v= .slice A ss.length cap/\Strs w w.heap.size A ss:=by
 have hlen:=h.1;rw[List.length_map,Nat.mul_one] at hlen;subst hlen;rcases h.2 with ⟨rfl,h0⟩ | ⟨g,cap,cur,rfl,hB,hh,_⟩
 {exact ⟨none,0,by rw[h0],Or.inl h0⟩}
 {refine ⟨_,_,rfl,Or.inr ⟨g,0,rfl, ?_,fun i hi=> ?_⟩⟩
  {exact (h.lt g rfl).2}
  {rw[Nat.zero_add,h.cellAt i (by omega)];simp[hi]}}
theorem lt_of_cell {w:World} {b o:Nat} {v:Value} (h:w.cell? ⟨b,o,none⟩=some v):b < w.heap.size:=by
 rcases Nat.lt_or_ge b w.heap.size with h' | h'
 {exact h'}
 {simp[World.cell?,Array.getElem?_eq_none h'] at h}
def strs (l:List (List UInt8)):List ByteArray:=l.map fun p=>⟨p.toArray⟩
theorem Zck (s:ByteArray) (k:Nat) (h:k < s.size) (W:World):
 (Instr.slice 9 (.string s) (some (.int .i64 k)) (some (.int .i64 (k+1))) none).run Tryz.prog W= .ok (.string ⟨[s[k]'h].toArray⟩) W:=by
 have:=Z1i s k (k+1) (by omega) (by omega) W;rw[this,show ((k:Int)+1).toNat - k=1 from by omega];have hk:k < s.data.toList.length:=by rw[<-Lib.size_eq]; exact h
 have e: (s.data.toList.drop k).take 1= [s[k]'h]:=by
  rw[List.drop_eq_getElem_cons hk]; rfl
 rw[e]
theorem ZaP (s:ByteArray) (hs:s.size<=1000000) (w:World):
 Calls Tryz.prog 147 #[.string s] w fun e w'=> ∃A cap,e= .returned (.slice A (strs (Sem.parts s.data.toList)).length cap)/\Strs w' w'.heap.size A (strs (Sem.parts s.data.toList))/\Below w.heap.size w w':=by
 obtain ⟨i0,hi,hz0,hz1,hz2⟩:=info_parts (P:=Tryz.prog) (e:=9) (z:= .string ByteArray.empty) (size:=1) (bytes:=16) (by kernel_rfl);go_enter Tryz.func147,Tryz.ntmps147
 go_wp2_with fail
 go_loopw [3,4] (fun v i wr=> ∃(k:Nat) (ps:List (List UInt8)),i= .int .i64 k/\k<=s.size/\Hid (ps=Sem.parts (s.data.toList.take k))/\ps.length<=k+1/\
  wr.ownsRow w.heap.size 9 1 v ps.length ((strs ps).map Value.string)/\Below w.heap.size w wr)
  (fun _ i _=>s.size - (intOf i).toNat)
 case atStart=>
  refine ⟨0,[[]],rfl,Nat.zero_le _,Y1 rfl,by simp, ?_,Y2.alloc (Nat.le_refl _) _⟩;exact World.ownsRow_lit (base:=w.heap.size) (e:=9) (size:=1) w #[.string ByteArray.empty] 1 (Nat.le_refl _) (by simp[maxLen]) rfl
 case round=>
  obtain ⟨k,ps,rfl,hk,HP,hpl,hown,hb⟩:=hrel;have hsz:=hb.size;by_cases hlt:k < s.size
  {have hkl:k < s.data.toList.length:=by rw[<-Lib.size_eq]; exact hlt
   by_cases hc: (s[k]'hlt).toNat=46
   {have hd: (((s[k]'hlt).toNat:Int)==46)=true:=by rw[beq_iff_eq]; omega
    have HN:Hid (ps++ [[]]=Sem.parts (s.data.toList.take (k+1))):=Y1 (by
     rw[List.take_succ_eq_append_getElem hkl,show s.data.toList[k]=46 from UInt8.toNat_inj.1 hc,Sem.Z3y,HP.out])
    clear hc
    go_wp2_with (at_builtin; refine wpList_append_own _ rfl _ _ 22 rfl w.heap.size 9 i0 (.string ByteArray.empty) 1 16 Tryz.underlying22 hi hz0 hz1 hz2 rfl (by decide) _ _ _ rfl (hown.alloc _) ⟨wr.heap.size,0,none⟩ 1 1 [.string ByteArray.empty] rfl rfl ?c1 ?c2 ?c3 ?c4 ?c5 ?_)
    case c1=>
     intro i u hu
     match i,hu with
     | 0,hu=>simp at hu; subst hu; simp[Addr.add]; rfl
    case c2=>intro u hu; simp at hu; subst hu; rfl
    case c3=>unfold maxLen; omega
    case c4=>omega
    case c5=>simp; omega
    intro v' w3 hown3 hgrow _;go_wp2
    go_roundw
    case rel=>
     refine ⟨k+1,ps++ [[]],by go_num,by omega,HN,by simp; omega, ?_,(hb.alloc hsz _).grown hgrow (by simp; omega) (fun k hk=>(hown.lt k hk).1)⟩;rw[List.length_append,strs,List.map_append,List.map_append];exact hown3
    case measure=>simp[intOf]; omega}
   {have hd: (((s[k]'hlt).toNat:Int)==46)=false:=by rw[beq_eq_false_iff_ne]; omega
    obtain ⟨qs,p,hq1,hq2⟩:=Sem.Z5Q (d:=s[k]'hlt) (fun h=>hc (by rw[h]; rfl)) (s.data.toList.take k);have HN:Hid (qs++ [p++ [s[k]'hlt]]=Sem.parts (s.data.toList.take (k+1))):=Y1 (by
     rw[List.take_succ_eq_append_getElem hkl]; exact hq2.symm)
    rw[<-HP.out] at hq1;subst hq1;have hpl2:p.length<=k:=by
     have:=Sem.Z4q (s.data.toList.take k) p (by rw[<-HP.out]; simp);rw[List.length_take] at this; omega
    have hln: (qs++ [p]).length=qs.length+1:=by simp
    have hxs: (strs (qs++ [p])).map Value.string=(strs qs).map Value.string++ [.string ⟨p.toArray⟩]:=by simp[strs]
    have hsl: ((strs qs).map Value.string).length=qs.length:=by simp[strs]
    rw[hln,hxs] at hown;rw[hln] at hpl;obtain ⟨g,cap,rfl,hg,_⟩:=hown.form (by omega);have hcell:=hown.cellAt qs.length (by omega);rw[List.getElem?_append_right (by omega),hsl,Nat.sub_self] at hcell;have hfr:=hown.frozenAt qs.length;have hst:=hown.stored qs.length (.string ⟨(p++ [s[k]'hlt]).toArray⟩);have hset: ((strs qs).map Value.string++ [Value.string ⟨p.toArray⟩]).set qs.length (.string ⟨(p++ [s[k]'hlt]).toArray⟩)=(strs (qs++ [p++ [s[k]'hlt]])).map Value.string:=by
     rw[List.set_append_right _ _ (by omega),hsl,Nat.sub_self]; simp[strs]
    rw[hset] at hst;have HST:=Y1 hst;have hpc:=Zck s k hlt;simp only[List.getElem?_cons_zero] at hcell;clear hst hset hxs hsl hln hc
    go_wp2_with fail
    have hw1:IntKind.i64.wrap ((qs.length:Nat):Int)=(qs.length:Int):=IntWalk.i64_in _ (by omega);have hw2:IntKind.i64.wrap ((k:Int)+1)=(k:Int)+1:=IntWalk.i64_in _ (by omega);have hq2: (qs.length:Int) < (qs.length:Int)+1:=by omega
    have hsz2: (⟨p.toArray⟩:ByteArray).size+(⟨#[s[k]'hlt]⟩:ByteArray).size<=9223372036854775807:=by
     rw[Z07,show (⟨#[s[k]'hlt]⟩:ByteArray).size=1 from rfl]; omega
    have hcat: ∀W:World,(Op.stringOp .add (⟨p.toArray⟩:ByteArray) ⟨#[s[k]'hlt]⟩).run Tryz.prog W= .ok (.string ⟨(p++ [s[k]'hlt]).toArray⟩) W:=fun W=>by
     rw[run_string_add_sum _ _ _ hsz2];exact congrArg (fun b=>Result.ok (Value.string b) W) (Z6Q p [s[k]'hlt])
    have hcat2: ∀W:World,(binOp .add 9 (.string ⟨p.toArray⟩) (.string ⟨#[s[k]'hlt]⟩)).run Tryz.prog W= .ok (.string ⟨(p++ [s[k]'hlt]).toArray⟩) W:=fun W=>hcat W;have hcell2: ({ heap:=wr.heap,tape:=wr.tape,drawn:=wr.drawn+1,os:=wr.os,output:=wr.output }:World).cell? ⟨g,qs.length,none⟩=some (.string ⟨p.toArray⟩):=hcell
    go_still_tail 17,(by kernel_rfl)
    change wpList _ _ _ _ _ wr.drew;clear hw1 hw2 hcat hcat2 hcell2 hq2 hsz2 hpc;go_wp2
    go_roundw
    case rel=>
     refine ⟨k+1,qs++ [p++ [s[k]'hlt]],by go_num,by omega,HN,by simp; omega, ?_,((hb.setCell (p:=⟨g,qs.length,none⟩) hg _).drew)⟩;have hl2: (qs++ [p++ [s[k]'hlt]]).length=qs.length+1:=by simp
     rw[hl2];exact HST.out.1.drew
    case measure=>simp[intOf]; omega}}
  {have HK:Hid (ps=Sem.parts s.data.toList):=Y1 (by rw[HP.out,List.take_of_length_le (by rw[<-Lib.size_eq]; omega)]);have hpl3:ps.length=(strs ps).length:=by simp[strs]
   rw[hpl3] at hown;obtain ⟨A,cap,rfl,hS⟩:=Z9c hown;have hpl4:=hpl3.symm;go_wp2;go_ret;refine ⟨A,cap, ?_, ?_,hb⟩
   {rw[<-HK.out]; rfl}
   {rw[<-HK.out]; exact hS}}
end
end Go.Proofs.YtkncdbaoaeeoiaaGreatDoor
namespace Lex
theorem Z52 {p:UInt8->Bool}: ∀ {s:List UInt8} {n:Nat},n<=s.length->(∀j (hj:j < s.length),j < n->p (s[j]'hj)=true)->(∀(h:n < s.length),p (s[n]'h)=false)->(s.takeWhile p).length=n
 | [],n,h,_,_=>by simp at h; simp[h]
 | x::r,0,_,_,h=>by
  have:=h (by simp);simp at this;rw[List.takeWhile_cons_of_neg (by simp[this])]; rfl
 | x::r,n+1,h1,h2,h3=>by
  have hx:=h2 0 (by simp) (by omega);simp at hx;rw[List.takeWhile_cons_of_pos hx,List.length_cons,Z52 (s:=r) (n:=n) (by simpa using h1) (fun j hj hn=>by
   have:=h2 (j+1) (by simpa using hj) (by omega);simpa using this) (fun h=>by
   have:=h3 (by simpa using h);simpa using this)]
def isIn (s:List UInt8) (l:List (List UInt8)):Bool:=l.contains s
theorem Z80 {p:UInt8->Bool}: ∀ {s:List UInt8},(s.takeWhile p).length=s.length ↔ s.all p=true
 | []=>by simp
 | x::r=>by
  by_cases hx:p x=true
  {rw[List.takeWhile_cons_of_pos hx,List.length_cons,List.length_cons,List.all_cons,hx,Bool.true_and, <-Z80 (s:=r)]; omega}
  {rw[List.takeWhile_cons_of_neg hx]; simp[hx]}
end Lex
namespace Go.Proofs.YtkncdbaoaeeoiaaGreatDoor
open Go.RowKit
section
variable (c : UInt8) (w : World)
include c w
theorem Z0e:
 Calls Tryz.prog 48 #[.int .u8 (c.toNat:Int)] w fun e w'=>e= .returned (.bool (Lex.small c))/\w=w':=by
 have hlt:=c.toNat_lt;have H:c.toNat<=96\/(97<=c.toNat/\c.toNat<=122)\/123<=c.toNat:=by omega
 have HB:Hid (Lex.small c=(decide (97<=c.toNat)&&decide (c.toNat<=122))):=Y1 rfl;obtain ⟨n,hn⟩: ∃n,n=c.toNat:=⟨_,rfl⟩;rw[<-hn] at H HB hlt ⊢;clear hn;rcases H with h1 | ⟨h1,h2⟩ | h1
 {have h3:decide ((97:Int)<=(n:Int))=false:=decide_eq_false (by omega);go_enter Tryz.func48,Tryz.ntmps48;go_wp2;go_ret;exact ⟨by rw[HB.out,decide_eq_false (by omega)]; rfl,rfl⟩}
 {have h3:decide ((n:Int)<=122)=true:=decide_eq_true (by omega);have h4:decide ((97:Int)<=(n:Int))=true:=decide_eq_true (by omega);go_enter Tryz.func48,Tryz.ntmps48;go_wp2;go_ret;exact ⟨by rw[HB.out,decide_eq_true h1,decide_eq_true h2]; rfl,rfl⟩}
 {have h3:decide ((n:Int)<=122)=false:=decide_eq_false (by omega);have h4:decide ((97:Int)<=(n:Int))=true:=decide_eq_true (by omega);go_enter Tryz.func48,Tryz.ntmps48;go_wp2;go_ret;exact ⟨by rw[HB.out,decide_eq_false (p:=n<=122) (by omega),Bool.and_false]; rfl,rfl⟩}
theorem Z0j:
 Calls Tryz.prog 49 #[.int .u8 (c.toNat:Int)] w fun e w'=>e= .returned (.bool (Lex.great c))/\w=w':=by
 have hlt:=c.toNat_lt;have H:c.toNat<=64\/(65<=c.toNat/\c.toNat<=90)\/91<=c.toNat:=by omega
 have HB:Hid (Lex.great c=(decide (65<=c.toNat)&&decide (c.toNat<=90))):=Y1 rfl;obtain ⟨n,hn⟩: ∃n,n=c.toNat:=⟨_,rfl⟩;rw[<-hn] at H HB hlt ⊢;clear hn;rcases H with h1 | ⟨h1,h2⟩ | h1
 {have h3:decide ((65:Int)<=(n:Int))=false:=decide_eq_false (by omega);go_enter Tryz.func49,Tryz.ntmps49;go_wp2;go_ret;exact ⟨by rw[HB.out,decide_eq_false (by omega)]; rfl,rfl⟩}
 {have h3:decide ((n:Int)<=90)=true:=decide_eq_true (by omega);have h4:decide ((65:Int)<=(n:Int))=true:=decide_eq_true (by omega);go_enter Tryz.func49,Tryz.ntmps49;go_wp2;go_ret;exact ⟨by rw[HB.out,decide_eq_true h1,decide_eq_true h2]; rfl,rfl⟩}
 {have h3:decide ((n:Int)<=90)=false:=decide_eq_false (by omega);have h4:decide ((65:Int)<=(n:Int))=true:=decide_eq_true (by omega);go_enter Tryz.func49,Tryz.ntmps49;go_wp2;go_ret;exact ⟨by rw[HB.out,decide_eq_false (p:=n<=90) (by omega),Bool.and_false]; rfl,rfl⟩}
theorem Z0x:
 Calls Tryz.prog 54 #[.int .u8 (c.toNat:Int)] w fun e w'=>e= .returned (.bool (Lex.digit c))/\w=w':=by
 have hlt:=c.toNat_lt;have H:c.toNat<=47\/(48<=c.toNat/\c.toNat<=57)\/58<=c.toNat:=by omega
 have HB:Hid (Lex.digit c=(decide (48<=c.toNat)&&decide (c.toNat<=57))):=Y1 rfl;obtain ⟨n,hn⟩: ∃n,n=c.toNat:=⟨_,rfl⟩;rw[<-hn] at H HB hlt ⊢;clear hn;rcases H with h1 | ⟨h1,h2⟩ | h1
 {have h3:decide ((48:Int)<=(n:Int))=false:=decide_eq_false (by omega);go_enter Tryz.func54,Tryz.ntmps54;go_wp2;go_ret;exact ⟨by rw[HB.out,decide_eq_false (by omega)]; rfl,rfl⟩}
 {have h3:decide ((n:Int)<=57)=true:=decide_eq_true (by omega);have h4:decide ((48:Int)<=(n:Int))=true:=decide_eq_true (by omega);go_enter Tryz.func54,Tryz.ntmps54;go_wp2;go_ret;exact ⟨by rw[HB.out,decide_eq_true h1,decide_eq_true h2]; rfl,rfl⟩}
 {have h3:decide ((n:Int)<=57)=false:=decide_eq_false (by omega);have h4:decide ((48:Int)<=(n:Int))=true:=decide_eq_true (by omega);go_enter Tryz.func54,Tryz.ntmps54;go_wp2;go_ret;exact ⟨by rw[HB.out,decide_eq_false (p:=n<=57) (by omega),Bool.and_false]; rfl,rfl⟩}
end
section
variable {s : List UInt8} {l : List (List UInt8)}
include s l
theorem ZdT {i:Nat} (hi:i < l.length) (h: (s==l[i]'hi)=true):Lex.isIn s l=true:=by
 unfold Lex.isIn;rw[List.contains_iff_mem,beq_iff_eq.1 h]; exact List.getElem_mem _
theorem ZdU (h: ∀j (hj:j < l.length),(s==l[j]'hj)=false):Lex.isIn s l=false:=by
 unfold Lex.isIn;cases hq:l.contains s with
 | false=>rfl
 | true=>
  obtain ⟨j,hj,e⟩:=List.mem_iff_getElem.1 (List.contains_iff_mem.1 hq);have:=h j hj;rw[e] at this; simp at this
end
theorem Z5U (s:List UInt8) (A:Option Addr) (cap:Nat) (l:List (List UInt8)) (w:World) (hA:Strs w w.heap.size A (strs l)) (hl:l.length<=1000000):
 Calls Tryz.prog 82 #[.string ⟨s.toArray⟩,.slice A l.length cap] w fun e w'=>e= .returned (.bool (Lex.isIn s l))/\w=w':=by
 have HA:=Y1 hA;have hsl: (strs l).length=l.length:=by simp[strs]
 clear hA;go_enter Tryz.func82,Tryz.ntmps82
 go_wp2_with fail
 go_loopw [5] (fun ii wr=> ∃i:Nat,ii= .int .i64 i/\i<=l.length/\Hid (∀j (hj:j < l.length),j < i->(s==l[j]'hj)=false)/\w=wr)
  (fun i _=>l.length - (intOf i).toNat)
 case atStart=>exact ⟨0,rfl,Nat.zero_le _,Y1 (fun j _ hj=>absurd hj (by omega)),rfl⟩
 case round=>
  obtain ⟨i,rfl,hi,HN,rfl⟩:=hrel;by_cases hlt:i < l.length
  {have hi1: (i:Int) < (l.length:Int):=by omega
   rcases HA.out with h0 | ⟨g,off,rfl,hg,hc⟩
   {omega}
   {have hcell:=hc i (by omega);have e1: (strs l)[i]'(by omega)=⟨(l[i]'hlt).toArray⟩:=by simp[strs]
    rw[e1] at hcell;obtain ⟨p,hp⟩: ∃p,p=l[i]'hlt:=⟨_,rfl⟩;rw[<-hp] at hcell;have HP:=Y1 hp;clear hc e1 hp;cases hq: (s==p)
    {have HM:Hid ((s==l[i]'hlt)=false):=Y1 (by rw[<-HP.out]; exact hq);go_wp2
     go_roundw
     case rel=>exact ⟨i+1,by go_num,by omega,Y1 (fun j hj hji=>by
      rcases Nat.lt_succ_iff_lt_or_eq.1 hji with h | rfl
      {exact HN.out j hj h}
      · exact HM.out),trivial⟩
     case measure=>simp[intOf]; omega}
    {have HM:Hid (Lex.isIn s l=true):=Y1 (ZdT hlt (by rw[<-HP.out]; exact hq));go_wp2;go_ret;exact ⟨by rw[HM.out]; rfl,rfl⟩}}}
  {have hi1: ¬(i:Int) < (l.length:Int):=by omega
   have HM:Hid (Lex.isIn s l=false):=Y1 (ZdU (fun j hj=>HN.out j hj (by omega)));go_wp2;go_ret;exact ⟨by rw[HM.out]; rfl,rfl⟩}
theorem Z6R (W:World) (l:List (List UInt8)) (g:Nat) (hg:g=W.heap.size):Strs (W.alloc (.cells ((strs l).map Value.string).toArray 9)) (W.alloc (.cells ((strs l).map Value.string).toArray 9)).heap.size (some ⟨g,0,none⟩) (strs l):=by
 subst hg;refine Or.inr ⟨W.heap.size,0,rfl,by simp,fun i hi=> ?_⟩;rw[Nat.zero_add];simp[go_sem,hi]
theorem Z26 (s:List UInt8) (w:World):
 Y9 51 #[.string ⟨s.toArray⟩] w (.bool (Lex.isWord s)):=by
 have HS:Hid (Strs (w.alloc (.cells #[.string ⟨#[109,111,100,117,108,101]⟩,.string ⟨#[105,109,112,111,114,116]⟩,.string ⟨#[112,105,110]⟩,.string ⟨#[114,97,110,103,101]⟩,.string ⟨#[116,121,112,101]⟩,.string ⟨#[111,112,97,113,117,101]⟩,.string ⟨#[108,101,116]⟩,.string ⟨#[105,110]⟩,.string ⟨#[101,120,112,111,114,116]⟩,.string ⟨#[102,117,110]⟩,.string ⟨#[105,102]⟩,.string ⟨#[116,104,101,110]⟩,.string ⟨#[101,108,115,101]⟩,.string ⟨#[99,97,115,101]⟩,.string ⟨#[111,102]⟩,.string ⟨#[97,115]⟩,.string ⟨#[110,101,119]⟩,.string ⟨#[114,97,119]⟩,.string ⟨#[116,114,117,101]⟩,.string ⟨#[102,97,108,115,101]⟩] 9)) (w.alloc (.cells #[.string ⟨#[109,111,100,117,108,101]⟩,.string ⟨#[105,109,112,111,114,116]⟩,.string ⟨#[112,105,110]⟩,.string ⟨#[114,97,110,103,101]⟩,.string ⟨#[116,121,112,101]⟩,.string ⟨#[111,112,97,113,117,101]⟩,.string ⟨#[108,101,116]⟩,.string ⟨#[105,110]⟩,.string ⟨#[101,120,112,111,114,116]⟩,.string ⟨#[102,117,110]⟩,.string ⟨#[105,102]⟩,.string ⟨#[116,104,101,110]⟩,.string ⟨#[101,108,115,101]⟩,.string ⟨#[99,97,115,101]⟩,.string ⟨#[111,102]⟩,.string ⟨#[97,115]⟩,.string ⟨#[110,101,119]⟩,.string ⟨#[114,97,119]⟩,.string ⟨#[116,114,117,101]⟩,.string ⟨#[102,97,108,115,101]⟩] 9)).heap.size (some ⟨w.heap.size,0,none⟩) (strs Lex.words)):=Y1 (Z6R w Lex.words _ rfl);have hb:=Z01 w (.cells #[.string ⟨#[109,111,100,117,108,101]⟩,.string ⟨#[105,109,112,111,114,116]⟩,.string ⟨#[112,105,110]⟩,.string ⟨#[114,97,110,103,101]⟩,.string ⟨#[116,121,112,101]⟩,.string ⟨#[111,112,97,113,117,101]⟩,.string ⟨#[108,101,116]⟩,.string ⟨#[105,110]⟩,.string ⟨#[101,120,112,111,114,116]⟩,.string ⟨#[102,117,110]⟩,.string ⟨#[105,102]⟩,.string ⟨#[116,104,101,110]⟩,.string ⟨#[101,108,115,101]⟩,.string ⟨#[99,97,115,101]⟩,.string ⟨#[111,102]⟩,.string ⟨#[97,115]⟩,.string ⟨#[110,101,119]⟩,.string ⟨#[114,97,119]⟩,.string ⟨#[116,114,117,101]⟩,.string ⟨#[102,97,108,115,101]⟩] 9)
 have ha:=fun W h=>Z5U s (some ⟨w.heap.size,0,none⟩) 20 Lex.words W h (by decide);have HI:Hid (Lex.isWord s=Lex.isIn s Lex.words):=Y1 rfl;rw[show Lex.words.length=20 from rfl] at ha;go_enter Tryz.func51,Tryz.ntmps51
 go_wp2_with fail
 refine (ha _ HS.out).mono ?_;rintro e w1 ⟨rfl,rfl⟩;go_wp2;go_ret;exact ⟨by rw[HI.out]; rfl,hb⟩
theorem Z1F (s:List UInt8) (w:World):
 Y9 58 #[.string ⟨s.toArray⟩] w (.bool (Lex.isSign s)):=by
 have HS:Hid (Strs (w.alloc (.cells #[.string ⟨#[40]⟩,.string ⟨#[41]⟩,.string ⟨#[123]⟩,.string ⟨#[125]⟩,.string ⟨#[91]⟩,.string ⟨#[93]⟩,.string ⟨#[60]⟩,.string ⟨#[62]⟩,.string ⟨#[60,61]⟩,.string ⟨#[62,61]⟩,.string ⟨#[61]⟩,.string ⟨#[94]⟩,.string ⟨#[42]⟩,.string ⟨#[44]⟩,.string ⟨#[58]⟩,.string ⟨#[46]⟩,.string ⟨#[47]⟩,.string ⟨#[64]⟩,.string ⟨#[124]⟩,.string ⟨#[45,62]⟩] 9)) (w.alloc (.cells #[.string ⟨#[40]⟩,.string ⟨#[41]⟩,.string ⟨#[123]⟩,.string ⟨#[125]⟩,.string ⟨#[91]⟩,.string ⟨#[93]⟩,.string ⟨#[60]⟩,.string ⟨#[62]⟩,.string ⟨#[60,61]⟩,.string ⟨#[62,61]⟩,.string ⟨#[61]⟩,.string ⟨#[94]⟩,.string ⟨#[42]⟩,.string ⟨#[44]⟩,.string ⟨#[58]⟩,.string ⟨#[46]⟩,.string ⟨#[47]⟩,.string ⟨#[64]⟩,.string ⟨#[124]⟩,.string ⟨#[45,62]⟩] 9)).heap.size (some ⟨w.heap.size,0,none⟩) (strs Lex.signs)):=Y1 (Z6R w Lex.signs _ rfl);have hb:=Z01 w (.cells #[.string ⟨#[40]⟩,.string ⟨#[41]⟩,.string ⟨#[123]⟩,.string ⟨#[125]⟩,.string ⟨#[91]⟩,.string ⟨#[93]⟩,.string ⟨#[60]⟩,.string ⟨#[62]⟩,.string ⟨#[60,61]⟩,.string ⟨#[62,61]⟩,.string ⟨#[61]⟩,.string ⟨#[94]⟩,.string ⟨#[42]⟩,.string ⟨#[44]⟩,.string ⟨#[58]⟩,.string ⟨#[46]⟩,.string ⟨#[47]⟩,.string ⟨#[64]⟩,.string ⟨#[124]⟩,.string ⟨#[45,62]⟩] 9);have ha:=fun W h=>Z5U s (some ⟨w.heap.size,0,none⟩) 20 Lex.signs W h (by decide);have HI:Hid (Lex.isSign s=Lex.isIn s Lex.signs):=Y1 rfl;rw[show Lex.signs.length=20 from rfl] at ha;go_enter Tryz.func58,Tryz.ntmps58
 go_wp2_with fail
 refine (ha _ HS.out).mono ?_;rintro e w1 ⟨rfl,rfl⟩;go_wp2;go_ret;exact ⟨by rw[HI.out]; rfl,hb⟩
theorem Zcl {c:UInt8}:Lex.nameB c=(Lex.small c||Lex.great c||Lex.digit c||c==95):=rfl
theorem Z0i (s:ByteArray) (n:Nat) (h:n < s.size) (W:World): (Instr.index 9 (.string s) (.int .i64 (n:Int))).run Tryz.prog W= .ok (.int .u8 (s[n]'h).toNat) W:=by
 rw[run_index_string (P:=Tryz.prog) _ _ _ _ _ Tryz.underlying9,dif_pos ⟨by omega,by omega⟩];simp
theorem Zap (c:UInt8): ((c.toNat:Int)==95)=(c==95):=by
 rw[Bool.eq_iff_iff,beq_iff_eq,beq_iff_eq];constructor
 {intro h; apply UInt8.toNat_inj.1; show c.toNat=95; omega}
 {rintro rfl; rfl}
theorem Zcm (s:ByteArray) (hs:s.size<=9223372036854775806) (w:World):
 Calls Tryz.prog 50 #[.string s] w fun e w'=>e= .returned (.int .i64 (s.data.toList.takeWhile Lex.nameB).length)/\w=w':=by
 have hsl:s.data.toList.length=s.size:=(Lib.size_eq s).symm;go_enter Tryz.func50,Tryz.ntmps50
 go_wp2_with fail
 go_loopw [3] (fun ii wr=> ∃n:Nat,ii= .int .i64 n/\n<=s.size/\Hid (∀j (hj:j < s.data.toList.length),j < n->Lex.nameB (s.data.toList[j]'hj)=true)/\w=wr)
  (fun i _=>s.size - (intOf i).toNat)
 case atStart=>exact ⟨0,rfl,Nat.zero_le _,Y1 (fun j _ hj=>absurd hj (by omega)),rfl⟩
 case round=>
  obtain ⟨n,rfl,hn,HN,rfl⟩:=hrel;by_cases hlt:n < s.size
  {have hi1: (n:Int) < (s.size:Int):=by omega
   obtain ⟨c,hc⟩: ∃c,c=s[n]'hlt:=⟨_,rfl⟩;have hcl:s.data.toList[n]'(by omega)=c:=hc.symm;have HCL:=Y1 hcl;have hidx: ∀W,(Instr.index 9 (.string s) (.int .i64 (n:Int))).run Tryz.prog W= .ok (.int .u8 c.toNat) W:=fun W=>by
    rw[hc]; exact Z0i s n hlt W
   have hcn:=c.toNat_lt;have h95:=Zap c;have HB:=Y1 (@Zcl c);clear hcl hc;have yes:Lex.nameB c=true->Hid (∀j (hj:j < s.data.toList.length),j < n+1->Lex.nameB (s.data.toList[j]'hj)=true):=fun h=>Y1 (fun j hj hji=>by
    rcases Nat.lt_succ_iff_lt_or_eq.1 hji with h' | rfl
    {exact HN.out j hj h'}
    · rw[HCL.out]; exact h)
   have no:Lex.nameB c=false->Hid ((s.data.toList.takeWhile Lex.nameB).length=n):=fun h=>Y1 (Lex.Z52 (by omega) HN.out (fun h'=>by rw[HCL.out]; exact h));cases h1:Lex.small c
   {cases h2:Lex.great c
    {cases h3:Lex.digit c
     {cases h4: (c==95)
      {rw[h4] at h95;have HM:=no (by rw[HB.out,h1,h2,h3,h4]; rfl);clear yes no
       go_wp2_with fail
       refine (Z0e c _).mono ?_;rintro e w2 ⟨rfl,rfl⟩;rw[h1]
       go_wp2_with fail
       refine (Z0j c _).mono ?_;rintro e w2 ⟨rfl,rfl⟩;rw[h2]
       go_wp2_with fail
       refine (Z0x c _).mono ?_;rintro e w2 ⟨rfl,rfl⟩;rw[h3];go_wp2;go_ret;exact ⟨by rw[HM.out]; rfl,rfl⟩}
      {rw[h4] at h95;have HM:=yes (by rw[HB.out,h1,h2,h3,h4]; rfl);clear yes no
       go_wp2_with fail
       refine (Z0e c _).mono ?_;rintro e w2 ⟨rfl,rfl⟩;rw[h1]
       go_wp2_with fail
       refine (Z0j c _).mono ?_;rintro e w2 ⟨rfl,rfl⟩;rw[h2]
       go_wp2_with fail
       refine (Z0x c _).mono ?_;rintro e w2 ⟨rfl,rfl⟩;rw[h3];go_wp2
       go_roundw
       case rel=>exact ⟨n+1,by go_num,by omega,HM,trivial⟩
       case measure=>simp[intOf]; omega}}
     {have HM:=yes (by rw[HB.out,h1,h2,h3]; rfl);clear yes no
      go_wp2_with fail
      refine (Z0e c _).mono ?_;rintro e w2 ⟨rfl,rfl⟩;rw[h1]
      go_wp2_with fail
      refine (Z0j c _).mono ?_;rintro e w2 ⟨rfl,rfl⟩;rw[h2]
      go_wp2_with fail
      refine (Z0x c _).mono ?_;rintro e w2 ⟨rfl,rfl⟩;rw[h3];go_wp2
      go_roundw
      case rel=>exact ⟨n+1,by go_num,by omega,HM,trivial⟩
      case measure=>simp[intOf]; omega}}
    {have HM:=yes (by rw[HB.out,h1,h2]; rfl);clear yes no
     go_wp2_with fail
     refine (Z0e c _).mono ?_;rintro e w2 ⟨rfl,rfl⟩;rw[h1]
     go_wp2_with fail
     refine (Z0j c _).mono ?_;rintro e w2 ⟨rfl,rfl⟩;rw[h2];go_wp2
     go_roundw
     case rel=>exact ⟨n+1,by go_num,by omega,HM,trivial⟩
     case measure=>simp[intOf]; omega}}
   {have HM:=yes (by rw[HB.out,h1]; rfl);clear yes no
    go_wp2_with fail
    refine (Z0e c _).mono ?_;rintro e w2 ⟨rfl,rfl⟩;rw[h1];go_wp2
    go_roundw
    case rel=>exact ⟨n+1,by go_num,by omega,HM,trivial⟩
    case measure=>simp[intOf]; omega}}
  {have hi1: ¬(n:Int) < (s.size:Int):=by omega
   have HM:Hid ((s.data.toList.takeWhile Lex.nameB).length=n):=Y1 (Lex.Z52 (by omega) HN.out (fun h'=>absurd h' (by omega)));go_wp2;go_ret;exact ⟨by rw[HM.out]; rfl,rfl⟩}
end Go.Proofs.YtkncdbaoaeeoiaaGreatDoor
namespace Go.Proofs.YtkncdbaoaeeoiaaGreatDoor
section
open Go.RowKit Shp
theorem Z0p {k:IntKind} {a b:Int} (h:a=b):Ending.returned (.int k a)= .returned (.int k b):=by rw[h]
theorem Z08 {a b:Bool} (h:a=b):Ending.returned (.bool a)= .returned (.bool b):=by rw[h]
structure Ptr where
 A:Option Addr
 c:Nat
 P:Option Addr
 d:Nat
abbrev Y8 (t:Shp.Sh) (q:Ptr):Array Value:=#[.int .i64 t.kind,.string ⟨t.of_.toArray⟩,.string ⟨t.name.toArray⟩,.slice q.A t.names.length q.c,.slice q.P t.parts.length q.d]
def Sh5 (w:World) (g o:Nat) (t:Sh) (q:Ptr):Prop:=
 w.cell? ⟨g,o,none⟩=some (.int .i64 t.kind)/\w.cell? ⟨g,o+1,none⟩=some (.string ⟨t.of_.toArray⟩)/\w.cell? ⟨g,o+2,none⟩=some (.string ⟨t.name.toArray⟩)/\
 w.cell? ⟨g,o+3,none⟩=some (.slice q.A t.names.length q.c)/\w.cell? ⟨g,o+4,none⟩=some (.slice q.P t.parts.length q.d)
theorem Sh5.of {w w':World} {g o:Nat} {t:Sh} {q:Ptr} (h:Sh5 w g o t q) (hc: ∀k,w'.cell? ⟨g,k,none⟩=w.cell? ⟨g,k,none⟩):Sh5 w' g o t q:=by
 obtain ⟨h0,h1,h2,h3,h4⟩:=h;exact ⟨(hc _).trans h0,(hc _).trans h1,(hc _).trans h2,(hc _).trans h3,(hc _).trans h4⟩
theorem Sh5.keep {w w':World} {g o B:Nat} {t:Sh} {q:Ptr} (h:Sh5 w g o t q) (hg:g < B) (hb:Below B w w'):Sh5 w' g o t q:=
 h.of (fun k=>hb.cell (p:=⟨g,k,none⟩) hg)
structure Small (t:Sh) (q:Ptr):Prop where
 o:t.of_.length<=9223372036854775807
 n:t.name.length<=9223372036854775807
 ns: ∀x∈t.names,x.length<=9223372036854775807
 l:t.names.length<=9223372036854775807
 m:t.parts.length<=9223372036854775807
 c:t.names.length<=q.c
 d:t.parts.length<=q.d
 A0:q.A=none->q.c=0
 P0:q.P=none->q.d=0
inductive ShAt (w:World) (B:Nat):Ptr->Sh->Prop
 | mk (q:Ptr) (t:Sh) (g off:Nat) (qs:Nat->Ptr) (hs:Small t q) (hn:Strs w B q.A (strs t.names)) (hp:t.parts.length=0\/q.P=some ⟨g,off,none⟩/\g < B)
  (hc: ∀i (h:i < t.parts.length),Sh5 w g (off+i * 5) (t.parts[i]'h) (qs i)) (hr: ∀i (h:i < t.parts.length),ShAt w B (qs i) (t.parts[i]'h)):ShAt w B q t
theorem ShAt.small {w:World} {B:Nat} {q:Ptr} {t:Sh} (h:ShAt w B q t):Small t q:=by cases h; assumption
theorem ShAt.strs {w:World} {B:Nat} {q:Ptr} {t:Sh} (h:ShAt w B q t):Strs w B q.A (strs t.names):=by cases h; assumption
theorem ShAt.part {w:World} {B:Nat} {q:Ptr} {t:Sh} (h:ShAt w B q t):t.parts.length=0\/ ∃(g off:Nat) (qs:Nat->Ptr),q.P=some ⟨g,off,none⟩/\g < B/\(∀i (h:i < t.parts.length),Sh5 w g (off+i * 5) (t.parts[i]'h) (qs i))/\ ∀i (h:i < t.parts.length),ShAt w B (qs i) (t.parts[i]'h):=by
 cases h with
 | mk _ _ g off qs hs hn hp hc hr=>
  rcases hp with hp | ⟨hp,hg⟩
  {exact Or.inl hp}
  {exact Or.inr ⟨g,off,qs,hp,hg,hc,hr⟩}
theorem ShAt.of {w w':World} {B B':Nat} {q:Ptr} {t:Sh} (h:ShAt w B q t) (hB:B<=B') (hc: ∀g k,g < B->w'.cell? ⟨g,k,none⟩=w.cell? ⟨g,k,none⟩):ShAt w' B' q t:=by
 induction h with
 | mk q t g off qs hs hn hp hc' hr ih=>
  refine .mk q t g off qs hs ?_ ?_ ?_ ih
  {rcases hn with h | ⟨b,o,hA,hlt,hcc⟩
   {exact Or.inl h}
   {exact Or.inr ⟨b,o,hA,Nat.lt_of_lt_of_le hlt hB,fun i hi=>(hc b _ hlt).trans (hcc i hi)⟩}}
  {rcases hp with h | ⟨h,hg⟩
   {exact Or.inl h}
   {exact Or.inr ⟨h,Nat.lt_of_lt_of_le hg hB⟩}}
  {intro i hi;rcases hp with h | ⟨h,hg⟩
   {omega}
   {exact (hc' i hi).of (fun k=>hc g k hg)}}
theorem ShAt.keep {w w':World} {B B':Nat} {q:Ptr} {t:Sh} (h:ShAt w B q t) (hb:Below B' w w') (hB:B<=B'):ShAt w' B q t:=
 h.of (Nat.le_refl _) (fun g k hg=>hb.cell (p:=⟨g,k,none⟩) (Nat.lt_of_lt_of_le hg hB))
theorem ShAt.more {w:World} {B B':Nat} {q:Ptr} {t:Sh} (h:ShAt w B q t) (hB:B<=B'):ShAt w B' q t:=h.of hB (fun _ _ _=>rfl)
theorem ShAt.next {w w':World} {q:Ptr} {t:Sh} (h:ShAt w w.heap.size q t) (hb:Below w.heap.size w w'):ShAt w' w'.heap.size q t:=(h.keep hb (Nat.le_refl _)).more hb.size
def Box5 (w:World) (g:Nat) (t:Sh) (q:Ptr):Prop:=
 g < w.heap.size/\Sh5 w g 0 t q/\w.frozen? ⟨g,0,none⟩=false/\w.frozen? ⟨g,1,none⟩=false/\w.frozen? ⟨g,2,none⟩=false/\w.frozen? ⟨g,3,none⟩=false/\w.frozen? ⟨g,4,none⟩=false
theorem Box5.keep {W W':World} {g B:Nat} {t:Sh} {q:Ptr} (h:Box5 W g t q) (hg:g < B) (hb:Below B W W'):Box5 W' g t q:=by
 obtain ⟨h0,h1,f0,f1,f2,f3,f4⟩:=h;exact ⟨Nat.lt_of_lt_of_le h0 hb.size,h1.keep hg hb,(hb.frozen (p:=⟨g,0,none⟩) hg).trans f0,(hb.frozen (p:=⟨g,1,none⟩) hg).trans f1,(hb.frozen (p:=⟨g,2,none⟩) hg).trans f2,(hb.frozen (p:=⟨g,3,none⟩) hg).trans f3,(hb.frozen (p:=⟨g,4,none⟩) hg).trans f4⟩
theorem Box5.next {W W':World} {g:Nat} {t:Sh} {q:Ptr} (h:Box5 W g t q) (hb:Below W.heap.size W W'):Box5 W' g t q:=h.keep h.1 hb
theorem Z0k (w:World) (t:Sh) (q:Ptr):Box5 (w.alloc (.cells (Y8 t q) 43)) w.heap.size t q:=
 ⟨by simp,⟨by simp[go_sem],by simp[go_sem],by simp[go_sem],by simp[go_sem],by simp[go_sem]⟩,by simp[go_sem],by simp[go_sem],by simp[go_sem],by simp[go_sem],by simp[go_sem]⟩
theorem Z0r (b off k:Nat): (⟨b,off,none⟩:Addr).add k=⟨b,off+k,none⟩:=by unfold Addr.add; split <;> simp_all
end
section
open Go.RowKit Tms
open Shp (Sh)
structure TP where
 A:Option Addr
 c:Nat
 V:Option Addr
 e:Nat
 S:Option Addr
 s:Nat
 P:Option Addr
 d:Nat
abbrev Y7 (t:Tms.Tm) (q:TP):Array Value:=#[.int .i64 t.kind,.string ⟨t.of_.toArray⟩,.string ⟨t.name.toArray⟩,.int .i64 t.n,.slice q.A t.names.length q.c,.slice q.V t.vars.length q.e,.slice q.S t.shapes.length q.s,.slice q.P t.parts.length q.d,.int .i64 t.at_]
def Tm9 (w:World) (g o:Nat) (t:Tm) (q:TP):Prop:=
 w.cell? ⟨g,o,none⟩=some (.int .i64 t.kind)/\w.cell? ⟨g,o+1,none⟩=some (.string ⟨t.of_.toArray⟩)/\w.cell? ⟨g,o+2,none⟩=some (.string ⟨t.name.toArray⟩)/\w.cell? ⟨g,o+3,none⟩=some (.int .i64 t.n)/\
 w.cell? ⟨g,o+4,none⟩=some (.slice q.A t.names.length q.c)/\w.cell? ⟨g,o+5,none⟩=some (.slice q.V t.vars.length q.e)/\w.cell? ⟨g,o+6,none⟩=some (.slice q.S t.shapes.length q.s)/\w.cell? ⟨g,o+7,none⟩=some (.slice q.P t.parts.length q.d)/\w.cell? ⟨g,o+8,none⟩=some (.int .i64 t.at_)
theorem Tm9.of {w w':World} {g o:Nat} {t:Tm} {q:TP} (h:Tm9 w g o t q) (hc: ∀k,w'.cell? ⟨g,k,none⟩=w.cell? ⟨g,k,none⟩):Tm9 w' g o t q:=by
 obtain ⟨h0,h1,h2,h3,h4,h5,h6,h7,h8⟩:=h;exact ⟨(hc _).trans h0,(hc _).trans h1,(hc _).trans h2,(hc _).trans h3,(hc _).trans h4,(hc _).trans h5,(hc _).trans h6,(hc _).trans h7,(hc _).trans h8⟩
theorem Tm9.keep {w w':World} {g o B:Nat} {t:Tm} {q:TP} (h:Tm9 w g o t q) (hg:g < B) (hb:Below B w w'):Tm9 w' g o t q:=h.of (fun k=>hb.cell (p:=⟨g,k,none⟩) hg)
structure TSmall (t:Tm) (q:TP):Prop where
 o:t.of_.length<=9223372036854775807
 n:t.name.length<=9223372036854775807
 ns: ∀x∈t.names,x.length<=9223372036854775807
 vs: ∀x∈t.vars,x.length<=9223372036854775807
 l:t.names.length<=9223372036854775807
 v:t.vars.length<=9223372036854775807
 sh:t.shapes.length<=9223372036854775807
 m:t.parts.length<=9223372036854775807
 c:t.names.length<=q.c
 e:t.vars.length<=q.e
 s:t.shapes.length<=q.s
 d:t.parts.length<=q.d
 A0:q.A=none->q.c=0
 V0:q.V=none->q.e=0
 S0:q.S=none->q.s=0
 P0:q.P=none->q.d=0
 i3: -9223372036854775808<=t.n/\t.n<=9223372036854775807
 i8: -9223372036854775808<=t.at_/\t.at_<=9223372036854775807
 i0: -9223372036854775808<=t.kind/\t.kind<=9223372036854775807
def ShsAt (w:World) (B:Nat) (S:Option Addr) (l:List Sh):Prop:=
 l.length=0\/ ∃(g off:Nat) (rs:Nat->Ptr),S=some ⟨g,off,none⟩/\g < B/\(∀i (h:i < l.length),Sh5 w g (off+i * 5) (l[i]'h) (rs i))/\ ∀i (h:i < l.length),ShAt w B (rs i) (l[i]'h)
theorem ShsAt.of {w w':World} {B B':Nat} {S:Option Addr} {l:List Sh} (h:ShsAt w B S l) (hB:B<=B') (hc: ∀g k,g < B->w'.cell? ⟨g,k,none⟩=w.cell? ⟨g,k,none⟩):ShsAt w' B' S l:=by
 rcases h with h | ⟨g,off,rs,h1,h2,h3,h4⟩
 {exact Or.inl h}
 {exact Or.inr ⟨g,off,rs,h1,Nat.lt_of_lt_of_le h2 hB,fun i hi=>(h3 i hi).of (fun k=>hc g k h2),fun i hi=>(h4 i hi).of hB hc⟩}
inductive TmAt (w:World) (B:Nat):TP->Tm->Prop
 | mk (q:TP) (t:Tm) (g off:Nat) (qs:Nat->TP) (hs:TSmall t q) (hn:Strs w B q.A (strs t.names)) (hv:Strs w B q.V (strs t.vars)) (hS:ShsAt w B q.S t.shapes) (hp:t.parts.length=0\/q.P=some ⟨g,off,none⟩/\g < B)
  (hc: ∀i (h:i < t.parts.length),Tm9 w g (off+i * 9) (t.parts[i]'h) (qs i)) (hr: ∀i (h:i < t.parts.length),TmAt w B (qs i) (t.parts[i]'h)):TmAt w B q t
theorem TmAt.small {w:World} {B:Nat} {q:TP} {t:Tm} (h:TmAt w B q t):TSmall t q:=by cases h; assumption
theorem TmAt.vars {w:World} {B:Nat} {q:TP} {t:Tm} (h:TmAt w B q t):Strs w B q.V (strs t.vars):=by cases h; assumption
theorem TmAt.shapes {w:World} {B:Nat} {q:TP} {t:Tm} (h:TmAt w B q t):ShsAt w B q.S t.shapes:=by cases h; assumption
theorem TmAt.strs {w:World} {B:Nat} {q:TP} {t:Tm} (h:TmAt w B q t):Strs w B q.A (strs t.names):=by cases h; assumption
theorem TmAt.part {w:World} {B:Nat} {q:TP} {t:Tm} (h:TmAt w B q t):t.parts.length=0\/ ∃(g off:Nat) (qs:Nat->TP),q.P=some ⟨g,off,none⟩/\g < B/\(∀i (h:i < t.parts.length),Tm9 w g (off+i * 9) (t.parts[i]'h) (qs i))/\ ∀i (h:i < t.parts.length),TmAt w B (qs i) (t.parts[i]'h):=by
 cases h with
 | mk _ _ g off qs hs hn hv hS hp hc hr=>
  rcases hp with hp | ⟨hp,hg⟩
  {exact Or.inl hp}
  {exact Or.inr ⟨g,off,qs,hp,hg,hc,hr⟩}
theorem Z1w {w w':World} {B B':Nat} {A:Option Addr} {l:List ByteArray} (h:Strs w B A l) (hB:B<=B') (hc: ∀g k,g < B->w'.cell? ⟨g,k,none⟩=w.cell? ⟨g,k,none⟩):Strs w' B' A l:=by
 rcases h with h | ⟨b,o,hA,hlt,hcc⟩
 {exact Or.inl h}
 {exact Or.inr ⟨b,o,hA,Nat.lt_of_lt_of_le hlt hB,fun i hi=>(hc b _ hlt).trans (hcc i hi)⟩}
theorem TmAt.of {w w':World} {B B':Nat} {q:TP} {t:Tm} (h:TmAt w B q t) (hB:B<=B') (hc: ∀g k,g < B->w'.cell? ⟨g,k,none⟩=w.cell? ⟨g,k,none⟩):TmAt w' B' q t:=by
 induction h with
 | mk q t g off qs hs hn hv hS hp hc' hr ih=>
  refine .mk q t g off qs hs (Z1w hn hB hc) (Z1w hv hB hc) (hS.of hB hc) ?_ ?_ ih
  {rcases hp with h | ⟨h,hg⟩
   {exact Or.inl h}
   {exact Or.inr ⟨h,Nat.lt_of_lt_of_le hg hB⟩}}
  {intro i hi;rcases hp with h | ⟨h,hg⟩
   {omega}
   {exact (hc' i hi).of (fun k=>hc g k hg)}}
theorem TmAt.keep {w w':World} {B B':Nat} {q:TP} {t:Tm} (h:TmAt w B q t) (hb:Below B' w w') (hB:B<=B'):TmAt w' B q t:=
 h.of (Nat.le_refl _) (fun g k hg=>hb.cell (p:=⟨g,k,none⟩) (Nat.lt_of_lt_of_le hg hB))
theorem TmAt.more {w:World} {B B':Nat} {q:TP} {t:Tm} (h:TmAt w B q t) (hB:B<=B'):TmAt w B' q t:=h.of hB (fun _ _ _=>rfl)
theorem TmAt.next {w w':World} {q:TP} {t:Tm} (h:TmAt w w.heap.size q t) (hb:Below w.heap.size w w'):TmAt w' w'.heap.size q t:=(h.keep hb (Nat.le_refl _)).more hb.size
theorem ShsAt.next {w w':World} {S:Option Addr} {l:List Sh} (h:ShsAt w w.heap.size S l) (hb:Below w.heap.size w w'):ShsAt w' w'.heap.size S l:=h.of hb.size (fun g k hg=>hb.cell (p:=⟨g,k,none⟩) hg)
def Box9 (w:World) (g:Nat) (t:Tm) (q:TP):Prop:=g < w.heap.size/\Tm9 w g 0 t q/\ ∀k,w.frozen? ⟨g,k,none⟩=false
theorem Box9.keep {W W':World} {g B:Nat} {t:Tm} {q:TP} (h:Box9 W g t q) (hg:g < B) (hb:Below B W W'):Box9 W' g t q:=
 ⟨Nat.lt_of_lt_of_le h.1 hb.size,h.2.1.keep hg hb,fun k=>(hb.frozen (p:=⟨g,k,none⟩) hg).trans (h.2.2 k)⟩
theorem Box9.next {W W':World} {g:Nat} {t:Tm} {q:TP} (h:Box9 W g t q) (hb:Below W.heap.size W W'):Box9 W' g t q:=h.keep h.1 hb
theorem Z1c (w:World) (t:Tm) (q:TP):Box9 (w.alloc (.cells (Y7 t q) 26)) w.heap.size t q:=
 ⟨by simp,⟨by simp[go_sem],by simp[go_sem],by simp[go_sem],by simp[go_sem],by simp[go_sem],by simp[go_sem],by simp[go_sem],by simp[go_sem],by simp[go_sem]⟩,fun k=>by simp[go_sem]⟩
end
end Go.Proofs.YtkncdbaoaeeoiaaGreatDoor
