/- What the proofs of ParseTypes want, part 4. -/
import Derived.Deep.RegionHeld3
import Derived.Lib.CutLaws
import Derived.Test.YtgndehppmaacaaaGreatDoorK0n3
import Derived.Test.YtgndehppmaacaaaGreatDoorK0n2
set_option linter.unusedVariables false
set_option linter.unusedSimpArgs false
set_option linter.unusedSectionVars false
set_option maxRecDepth 100000
set_option maxHeartbeats 16000000
namespace Go.Proofs.YtgndehppmaacaaaGreatDoor
open Go.RowKit Tms
open Shp (Sh)
section
variable {α : Type} {cf : α -> List Value} {m : Nat}
theorem ZbH (h: ∀x,(cf x).length=m) (l:List α): (l.flatMap cf).length=l.length * m:=by
 induction l with
 | nil=>simp
 | cons a l ih=>rw[List.flatMap_cons,List.length_append,ih,h,List.length_cons,Nat.add_mul,Nat.one_mul,Nat.add_comm]
theorem ZkH (h: ∀x,(cf x).length=m) {l:List α} {i c:Nat} (a:i < l.length) (e:c < m): (l.flatMap cf)[i * m+c]? =(cf (l[i]'a))[c]? :=by
 have b:l=l.take i++([l[i]'a]++l.drop (i+1)):=by rw[List.singleton_append,List.getElem_cons_drop,List.take_append_drop]
 have d: ((l.take i).flatMap cf).length=i * m:=by rw[ZbH h,List.length_take]; congr 1; omega
 conv=>lhs; rw[b]
 rw[List.flatMap_append,List.flatMap_append,List.getElem?_append_right (by omega),d,Nat.add_sub_cancel_left,List.getElem?_append_left (by simpa[h] using e)];simp
end
structure ES where
 t:Sh
 q:Ptr
 lo:Nat
 hi:Nat
def cS (x:ES):List Value:= [.int .i64 x.t.kind,.string ⟨x.t.of_.toArray⟩,.string ⟨x.t.name.toArray⟩,.slice x.q.A x.t.names.length x.q.c,.slice x.q.P x.t.parts.length x.q.d]
theorem Zj5 (x:ES): (cS x).length=5:=rfl
theorem Zg6 (x:ES): ∀u∈cS x,u.oneCell'=true:=by
 intro u a;simp only[cS,List.mem_cons,List.not_mem_nil,or_false] at a;rcases a with rfl | rfl | rfl | rfl | rfl <;> rfl
def ES.Is (x:ES) (W:World):Prop:=New x.lo x.hi W (fun W'=>ShAt W' W'.heap.size x.q x.t)
structure ET where
 t:Tm
 q:TP
 lo:Nat
 hi:Nat
def cT (x:ET):List Value:= [.int .i64 x.t.kind,.string ⟨x.t.of_.toArray⟩,.string ⟨x.t.name.toArray⟩,.int .i64 x.t.n,.slice x.q.A x.t.names.length x.q.c,.slice x.q.V x.t.vars.length x.q.e,.slice x.q.S x.t.shapes.length x.q.s,.slice x.q.P x.t.parts.length x.q.d,.int .i64 x.t.at_]
theorem Zfm (x:ET): (cT x).length=9:=rfl
def ET.Is (x:ET) (W:World):Prop:=New x.lo x.hi W (fun W'=>TmAt W' W'.heap.size x.q x.t)
def cN (x:List UInt8):List Value:= [.string ⟨x.toArray⟩]
theorem ZpO (x:List UInt8): (cN x).length=1:=rfl
theorem ZpP (x:List UInt8): ∀u∈cN x,u.oneCell'=true:=by
 intro u a;simp only[cN,List.mem_cons,List.not_mem_nil,or_false] at a;subst a; rfl
def Row {α:Type} (W:World) (B:Nat) (e:TypeId) (m:Nat) (cf:α->List Value) (A:Option Addr) (c:Nat) (l:List α):Prop:=W.ownsRow B e m (.slice A l.length c) l.length (l.flatMap cf)
section
variable {α : Type} {W W' : World} {B : Nat} {e : TypeId} {m : Nat} {cf : α -> List Value} {A : Option Addr} {c : Nat} {l : List α}
theorem Row.start (W:World) (B:Nat) (e:TypeId) (m:Nat) (cf:α->List Value):Row W B e m cf none 0 []:=World.ownsRow_nil _ _ _ _
section
variable (h : Row W B e m cf A c l)
include h
theorem Row.lt: ∀b,rowT A=some b->B<=b/\b < W.heap.size:=Ze3 h
theorem Row.form: (A=none/\l.length=0/\c=0)\/ ∃g,A=some ⟨g,0,none⟩/\l.length<=c:=ZgK h
theorem Row.grown {row:Option Nat} (a:W.grownBy W' row) (b:rowT A=none\/rowT A≠row):Row W' B e m cf A c l:=World.ownsRow.kept h a (by rw[ZcQ]; exact b)
theorem Row.below (a:Below W.heap.size W W'):Row W' B e m cf A c l:=
 h.grown (row:=none) ⟨a.os,a.tape,a.output,a.size,fun j hj _=>a.block j hj⟩ (by cases h:rowT A with | none=>exact Or.inl rfl | some b=>exact Or.inr nofun)
theorem Row.set (a:Addr) (b:rowT A≠some a.block) (u:Value):Row (W.setCell a u) B e m cf A c l:=Zdt h (by rw[ZcQ]; exact b) u
end
theorem Row.up {F:List Nat} (h:Row W B e m cf A c l) (p:UpT F W W') (k: ∀x∈F,rowT A≠some x):Row W' B e m cf A c l:=by
 obtain ⟨j,b⟩:=h;refine ⟨j, ?_⟩;rcases b with b | ⟨g,cap,a,i,n,d,o⟩
 {exact Or.inl b}
 {refine Or.inr ⟨g,cap,a,i,n, ?_,o⟩;have f:g < W.heap.size:=by
   rcases Nat.lt_or_ge g W.heap.size with h | h
   {exact h}
   {rw[Array.getElem?_eq_none h] at d; cases d}
  rw[p.block g f (fun hx=>k g hx ?_)]
  {exact d}
  {simp only[Value.slice.injEq] at i;rw[i.1]; rfl}}
end
end Go.Proofs.YtgndehppmaacaaaGreatDoor
namespace Go.Proofs.YtgndehppmaacaaaGreatDoor
section
open Go.RowKit
theorem Z4Q (l:List UInt8) (a:l.length<=1000000) (w:World):
 Calls Tryz.prog 66 #[.string ⟨l.toArray⟩] w fun e w'=>e= .returned (.int .i64 (l.takeWhile Lex.nameB).length)/\w=w':=
 Z9X ⟨l.toArray⟩ (by rw[Z0J]; omega) w
theorem Z8J (c:UInt8) (r:List UInt8):Lex.isName (c::r)=(decide ((c::r).length<=24)&&Lex.small c&&(c::r).all Lex.nameB&& !Lex.isWord (c::r)):=rfl
theorem Z3o (l:List UInt8) (y:l.length<=9223372036854775807) (w:World):
 Y9 68 #[.string ⟨l.toArray⟩] w (.bool (Lex.isName l)):=by
 cases l with
 | nil=>
  have f:Hid (Lex.isName []=false):=Y1 rfl;go_enter Tryz.func68,Tryz.ntmps68;go_wp2;go_ret;exact ⟨by rw[f.out]; rfl,Below.refl _ _⟩
 | cons c r=>
  have f:=Y1 (Z8J c r);have j:=Y1 (Lex.Z6e (p:=Lex.nameB) (s:=c::r));obtain ⟨l,b⟩: ∃l:List UInt8,l=c::r:=⟨_,rfl⟩;rw[<-b] at y f j ⊢;have B: (⟨l.toArray⟩:ByteArray).size=l.length:=Z0J _;have A:l.isEmpty=false:=by rw[b]; rfl
  have q: ∀W,(Instr.index 9 (.string ⟨l.toArray⟩) (.int .i64 0)).run Tryz.prog W= .ok (.int .u8 c.toNat) W:=fun W=>by rw[b]; rfl
  clear b;by_cases h:l.length<=24
  {have i:decide ((l.length:Int)<=24)=true:=decide_eq_true (by omega);cases g:Lex.small c
   {have d:Hid (Lex.isName l=false):=Y1 (by rw[f.out,g]; simp);go_enter Tryz.func68,Tryz.ntmps68
    go_wp2_with fail
    refine (Z12 c _).mono ?_;rintro e o ⟨rfl,rfl⟩;rw[g];go_wp2;go_ret;exact ⟨by rw[d.out]; rfl,Below.refl _ _⟩}
   {have u:=Y1 g;go_enter Tryz.func68,Tryz.ntmps68
    go_wp2_with fail
    refine (Z12 c _).mono ?_;rintro e o ⟨rfl,rfl⟩;rw[g];clear g
    go_wp2_with fail
    refine (Z4Q l (by omega) _).mono ?_;rintro e o ⟨rfl,rfl⟩;obtain ⟨k,t⟩: ∃k,k=(l.takeWhile Lex.nameB).length:=⟨_,rfl⟩;rw[<-t] at j ⊢;clear t;by_cases a:k=l.length
    {have n: ((k:Int)==(l.length:Int))=true:=by rw[beq_iff_eq]; omega
     have v:Hid (l.all Lex.nameB=true):=Y1 (j.out.1 a);have d:Hid (Lex.isName l= !Lex.isWord l):=Y1 (by rw[f.out,u.out,v.out,decide_eq_true h]; simp);clear a
     go_wp2_with fail
     refine (Z8H l _).mono ?_;rintro e o ⟨rfl,m⟩;go_wp2;go_ret;exact ⟨by rw[d.out]; rfl,m⟩}
    {have n: ((k:Int)==(l.length:Int))=false:=by rw[beq_eq_false_iff_ne]; omega
     have d:Hid (Lex.isName l=false):=Y1 (by
      have:l.all Lex.nameB=false:=by
       cases z:l.all Lex.nameB with
       | false=>rfl
       | true=>exact absurd (j.out.2 z) a
      rw[f.out,this]; simp)
     clear a;go_wp2;go_ret;exact ⟨by rw[d.out]; rfl,Below.refl _ _⟩}}}
  {have i:decide ((l.length:Int)<=24)=false:=decide_eq_false (by omega);have d:Hid (Lex.isName l=false):=Y1 (by rw[f.out,decide_eq_false h]; rfl);go_enter Tryz.func68,Tryz.ntmps68;go_wp2;go_ret;exact ⟨by rw[d.out]; rfl,Below.refl _ _⟩}
theorem Z7k (c:UInt8) (r:List UInt8):Lex.isUpper (c::r)=(decide ((c::r).length<=24)&&Lex.great c&&(c::r).all Lex.nameB):=rfl
theorem Z7l (l:List UInt8) (v:l.length<=9223372036854775807) (w:World):
 Y9 69 #[.string ⟨l.toArray⟩] w (.bool (Lex.isUpper l)):=by
 cases l with
 | nil=>
  have f:Hid (Lex.isUpper []=false):=Y1 rfl;go_enter Tryz.func69,Tryz.ntmps69;go_wp2;go_ret;exact ⟨by rw[f.out]; rfl,Below.refl _ _⟩
 | cons c r=>
  have f:=Y1 (Z7k c r);have j:=Y1 (Lex.Z6e (p:=Lex.nameB) (s:=c::r));obtain ⟨l,b⟩: ∃l:List UInt8,l=c::r:=⟨_,rfl⟩;rw[<-b] at v f j ⊢;have A: (⟨l.toArray⟩:ByteArray).size=l.length:=Z0J _;have z:l.isEmpty=false:=by rw[b]; rfl
  have n: ∀W,(Instr.index 9 (.string ⟨l.toArray⟩) (.int .i64 0)).run Tryz.prog W= .ok (.int .u8 c.toNat) W:=fun W=>by rw[b]; rfl
  clear b;by_cases h:l.length<=24
  {have i:decide ((l.length:Int)<=24)=true:=decide_eq_true (by omega);cases g:Lex.great c
   {have d:Hid (Lex.isUpper l=false):=Y1 (by rw[f.out,g]; simp);go_enter Tryz.func69,Tryz.ntmps69
    go_wp2_with fail
    refine (Z1c c _).mono ?_;rintro e q ⟨rfl,rfl⟩;rw[g];go_wp2;go_ret;exact ⟨by rw[d.out]; rfl,Below.refl _ _⟩}
   {have t:=Y1 g;go_enter Tryz.func69,Tryz.ntmps69
    go_wp2_with fail
    refine (Z1c c _).mono ?_;rintro e q ⟨rfl,rfl⟩;rw[g];clear g
    go_wp2_with fail
    refine (Z4Q l (by omega) _).mono ?_;rintro e q ⟨rfl,rfl⟩;obtain ⟨k,o⟩: ∃k,k=(l.takeWhile Lex.nameB).length:=⟨_,rfl⟩;rw[<-o] at j ⊢;clear o;by_cases a:k=l.length
    {have m: ((k:Int)==(l.length:Int))=true:=by rw[beq_iff_eq]; omega
     have u:Hid (l.all Lex.nameB=true):=Y1 (j.out.1 a);have d:Hid (Lex.isUpper l=true):=Y1 (by rw[f.out,t.out,u.out,decide_eq_true h]; rfl);clear a;go_wp2;go_ret;exact ⟨by rw[d.out]; rfl,Below.refl _ _⟩}
    {have m: ((k:Int)==(l.length:Int))=false:=by rw[beq_eq_false_iff_ne]; omega
     have d:Hid (Lex.isUpper l=false):=Y1 (by
      have:l.all Lex.nameB=false:=by
       cases y:l.all Lex.nameB with
       | false=>rfl
       | true=>exact absurd (j.out.2 y) a
      rw[f.out,this]; simp)
     clear a;go_wp2;go_ret;exact ⟨by rw[d.out]; rfl,Below.refl _ _⟩}}}
  {have i:decide ((l.length:Int)<=24)=false:=decide_eq_false (by omega);have d:Hid (Lex.isUpper l=false):=Y1 (by rw[f.out,decide_eq_false h]; rfl);go_enter Tryz.func69,Tryz.ntmps69;go_wp2;go_ret;exact ⟨by rw[d.out]; rfl,Below.refl _ _⟩}
section
variable {p : UInt8 -> Bool} {l : List UInt8}
include p l
theorem Zp6 {i:Nat} (a:i < l.length) (h:p (l[i]'a)=false):l.all p=false:=by
 rw[List.all_eq_false]; exact ⟨l[i],List.getElem_mem _,by rw[h]; simp⟩
theorem ZpQ (h: ∀j (a:j < l.length),p (l[j]'a)=true):l.all p=true:=by
 rw[List.all_eq_true];intro x b;obtain ⟨j,a,rfl⟩:=List.mem_iff_getElem.1 b;exact h j a
end
theorem Zp7 (c:UInt8): ((c.toNat:Int) !=48)=decide (c≠48):=by
 rw[Bool.eq_iff_iff,bne_iff_ne,decide_eq_true_eq];constructor
 {rintro h rfl; exact h rfl}
 {intro h a; refine h (UInt8.toNat_inj.1 ?_); show c.toNat=48; omega}
theorem Ze9 (l:List UInt8) (F:l.length<=1000000) (w:World):
 Calls Tryz.prog 72 #[.string ⟨l.toArray⟩] w fun e w'=>e= .returned (.bool (Lex.number l))/\w=w':=by
 have H: (⟨l.toArray⟩:ByteArray).size=l.length:=Z0J _;go_enter Tryz.func72,Tryz.ntmps72
 go_wp2_with fail
 go_loopw [3] (fun ii wr=> ∃n:Nat,ii= .int .i64 n/\n<=l.length/\Hid (∀j (hj:j < l.length),j < n->Lex.digit (l[j]'hj)=true)/\w=wr)
  (fun i _=>l.length - (intOf i).toNat)
 case atStart=>exact ⟨0,rfl,Nat.zero_le _,Y1 (fun j _ hj=>absurd hj (by omega)),rfl⟩
 case round=>
  obtain ⟨n,rfl,G,A,rfl⟩:=hrel;by_cases k:n < l.length
  {have y: (n:Int) < (l.length:Int):=by omega
   obtain ⟨c,v⟩: ∃c,c=l[n]'k:=⟨_,rfl⟩;have s: ∀W,(Instr.index 9 (.string ⟨l.toArray⟩) (.int .i64 (n:Int))).run Tryz.prog W= .ok (.int .u8 c.toNat) W:=fun W=>by
    rw[v]; exact Z4P ⟨l.toArray⟩ n (by omega) W
   have z:=Y1 v;clear v;cases d:Lex.digit c
   {have o:Hid (Lex.number l=false):=Y1 (by unfold Lex.number; rw[Zp6 k (by rw[<-z.out]; exact d)]; rfl)
    go_wp2_with fail
    refine (Z2K c _).mono ?_;rintro e E ⟨rfl,rfl⟩;rw[d];go_wp2;go_ret;exact ⟨by rw[o.out]; rfl,rfl⟩}
   {have D:Hid (Lex.digit (l[n]'k)=true):=Y1 (by rw[<-z.out]; exact d)
    go_wp2_with fail
    refine (Z2K c _).mono ?_;rintro e E ⟨rfl,rfl⟩;rw[d];go_wp2
    go_roundw
    case rel=>exact ⟨n+1,by go_num,by omega,Y1 (fun j hj hji=>by
     rcases Nat.lt_succ_iff_lt_or_eq.1 hji with h | rfl
     {exact A.out j hj h}
     · exact D.out),trivial⟩
    case measure=>simp[intOf]; omega}}
  {have y: ¬(n:Int) < (l.length:Int):=by omega
   have C:Hid (l.all Lex.digit=true):=Y1 (ZpQ (fun j hj=>A.out j hj (by omega)));have o:Hid (Lex.number l=(decide (1<=l.length)&&decide (l.length<=15)&&(decide (l.length=1)||decide (l.head? ≠some 48)))):=Y1 (by unfold Lex.number; rw[C.out,Bool.true_and]);by_cases d:1<=l.length
   {have t:decide ((1:Int)<=(l.length:Int))=true:=decide_eq_true (by omega);by_cases f:l.length<=15
    {have p:decide ((l.length:Int)<=15)=true:=decide_eq_true (by omega);by_cases b:l.length=1
     {have m: ((l.length:Int)==1)=true:=by rw[beq_iff_eq]; omega
      have a:Hid (Lex.number l=true):=Y1 (by rw[o.out,decide_eq_true d,decide_eq_true f,decide_eq_true b]; rfl);clear b;go_wp2;go_ret;exact ⟨by rw[a.out]; rfl,rfl⟩}
     {have m: ((l.length:Int)==1)=false:=by rw[beq_eq_false_iff_ne]; omega
      obtain ⟨c,r,g⟩: ∃c r,l=c::r:=by cases l with
       | nil=>simp at d
       | cons c r=>exact ⟨c,r,rfl⟩
      have s: ∀W,(Instr.index 9 (.string ⟨l.toArray⟩) (.int .i64 0)).run Tryz.prog W= .ok (.int .u8 c.toNat) W:=fun W=>by rw[g]; rfl
      have u:=Zp7 c;have a:Hid (Lex.number l=decide (c≠48)):=Y1 (by
       rw[o.out,decide_eq_true d,decide_eq_true f,decide_eq_false b,g];simp)
      obtain ⟨q,B⟩: ∃q,q=decide (c≠48):=⟨_,rfl⟩;rw[<-B] at a u;clear g B b;go_wp2;go_ret;exact ⟨by rw[a.out]; rfl,rfl⟩}}
    {have p:decide ((l.length:Int)<=15)=false:=decide_eq_false (by omega);have a:Hid (Lex.number l=false):=Y1 (by rw[o.out,decide_eq_false f]; simp);go_wp2;go_ret;exact ⟨by rw[a.out]; rfl,rfl⟩}}
   {have t:decide ((1:Int)<=(l.length:Int))=false:=decide_eq_false (by omega);have a:Hid (Lex.number l=false):=Y1 (by rw[o.out,decide_eq_false d]; rfl);go_wp2;go_ret;exact ⟨by rw[a.out]; rfl,rfl⟩}}
def Ints (w:World) (B:Nat) (A:Option Addr) (zs:List Int):Prop:=
 zs.length=0\/ ∃b off,A=some ⟨b,off,none⟩/\b < B/\ ∀i (h:i < zs.length),w.cell? ⟨b,off+i,none⟩=some (.int .i64 (zs[i]'h))
theorem Ints.keep {w w':World} {B B':Nat} {A:Option Addr} {a:List Int} (h:Ints w B A a) (d:Below B' w w') (c:B<=B'):Ints w' B A a:=by
 rcases h with h | ⟨b,off,hA,hlt,e⟩
 {exact Or.inl h}
 {exact Or.inr ⟨b,off,hA,hlt,fun i hi=>(d.cell (p:=⟨b,off+i,none⟩) (Nat.lt_of_lt_of_le hlt c)).trans (e i hi)⟩}
theorem Ints.more {w:World} {B B':Nat} {A:Option Addr} {c:List Int} (h:Ints w B A c) (e:B<=B'):Ints w B' A c:=by
 rcases h with h | ⟨b,off,d,a,f⟩
 {exact Or.inl h}
 {exact Or.inr ⟨b,off,d,Nat.lt_of_lt_of_le a e,f⟩}
theorem Ints.next {w w':World} {A:Option Addr} {b:List Int} (h:Ints w w.heap.size A b) (a:Below w.heap.size w w'):Ints w' w'.heap.size A b:=
 (h.keep a (Nat.le_refl _)).more a.size
theorem ZgM {w:World} {B n:Nat} {v:Value} {b:List Int} (h:w.ownsRow B 3 1 v n (b.map (Value.int .i64))): ∃A cap,v= .slice A b.length cap/\Ints w w.heap.size A b/\(A=none->b.length=0/\cap=0):=by
 have a:=h.1;rw[List.length_map,Nat.mul_one] at a;subst a;rcases h.2 with ⟨rfl,c⟩ | ⟨g,cap,d,rfl,e,f,_⟩
 {exact ⟨none,0,by rw[c],Or.inl c,fun _=>⟨c,rfl⟩⟩}
 {refine ⟨_,_,rfl,Or.inr ⟨g,0,rfl, ?_,fun i hi=> ?_⟩,fun h=>by cases h⟩
  {exact (h.lt g rfl).2}
  {rw[Nat.zero_add,h.cellAt i (by omega)];simp[hi]}}
theorem ZeO {w:World} {B n:Nat} {v:Value} {l:List UInt8} (h:w.ownsRow B 5 1 v n (Lib.byteCells l)):
 (convert 131 9 v).run Tryz.prog w= .ok (.string ⟨l.toArray⟩) w:=by
 have a:=h.1;rw[Lib.byteCells_length,Nat.mul_one] at a;rcases h.2 with ⟨rfl,rfl⟩ | ⟨g,cap,d,rfl,_,j,_⟩
 {have:l= []:=List.eq_nil_of_length_eq_zero a;subst this;exact run_convert_bytes_nil w 131 5 Tryz.underlying131 Tryz.underlying5 0 0 9 Tryz.underlying9}
 {have f:=run_convert_bytes_arg (P:=Tryz.prog) w 131 5 Tryz.underlying131 Tryz.underlying5 g 0 n cap (l.map fun b=>(b.toNat:Int)) (by simpa using a) (fun i hi=>by
   have hc:=h.cellAt i (by omega);rw[Nat.zero_add,hc,Lib.byteCells];have c:i < l.length:=by omega
   simp[c]) 9 Tryz.underlying9
  rw[f];have e:strOfNums (l.map fun b=>(b.toNat:Int))=⟨l.toArray⟩:=by
   unfold strOfNums;rw[List.map_map];congr 2
   conv=>rhs; rw[<-List.map_id l]
   apply List.map_congr_left;intro b _;simp
  rw[e]}
theorem ZeI (w:World) (l:List UInt8) {cs:Array Value} {n:Nat} (h:cs.toList=Lib.byteCells l) (a:n=l.length) (b:l.length<=1000):
 (convert 131 9 (.slice (some ⟨w.heap.size,0,none⟩) n n)).run Tryz.prog (w.alloc (.cells cs 5))= .ok (.string ⟨l.toArray⟩) (w.alloc (.cells cs 5)):=by
 subst a;have c:cs.size=l.length:=by rw[<-Array.length_toList,h,Lib.byteCells_length]
 have:=World.ownsRow_lit (base:=w.heap.size) (e:=5) (size:=1) w cs l.length (Nat.le_refl _) (by unfold maxLen; omega) (by omega);rw[h] at this;exact ZeO this
end
section
open Go
theorem Zi8 (a:Nat) (b:a < 9223372036854775808): (BitVec.ofInt 64 (a:Int)).toNat=a:=by
 rw[BitVec.ofInt_natCast,BitVec.toNat_ofNat]; exact Nat.mod_eq_of_lt (by omega)
theorem Zlg (a b:Nat) (c:a < 9223372036854775808) (d:b < 9223372036854775808):bits .or .i64 (a:Int) (b:Int)=((a ||| b:Nat):Int):=by
 have e:a ||| b < 2 ^ 63:=Nat.or_lt_two_pow (by omega) (by omega);show IntKind.i64.wrap ((BitVec.ofInt 64 (a:Int) ||| BitVec.ofInt 64 (b:Int)).toNat:Int)=_;rw[BitVec.toNat_or,Zi8 a c,Zi8 b d,IntKind.wrap_i64];omega
theorem Zmp (x y:Int) (c:0<=x) (e:x < 1000000000) (d:0<=y) (f:y < 64):bits .or .i64 (x * 64) y=x * 64+y:=by
 obtain ⟨a,rfl⟩:=Int.eq_ofNat_of_zero_le c;obtain ⟨b,rfl⟩:=Int.eq_ofNat_of_zero_le d;rw[show (a:Int) * 64=((a * 64:Nat):Int) from by omega,Zlg _ _ (by omega) (by omega),nat_join 6 (a * 64) b (by omega) (by omega)];omega
end
section
open Go.RowKit
theorem Zee {p:Int} (h:Utf.pt p=true):0<=p/\p<=1114111/\(p < 55296\/57343 < p):=(Utf.Z3J p).1 h
section
variable (p : Int) (w : World)
include p w
theorem Zg7:
 Calls Tryz.prog 216 #[.int .i64 p] w fun e w'=>e= .returned (.bool (Utf.pt p))/\w=w':=by
 by_cases a:0<=p
 {by_cases h1:p<=1114111
  {by_cases b:p < 55296
   {have e:Utf.pt p=true:=(Utf.Z3J p).2 ⟨a,h1,Or.inl b⟩;rw[e];clear e;go_enter Tryz.func216,Tryz.ntmps216;go_wp2;go_ret;exact ⟨rfl,rfl⟩}
   {by_cases c:57343 < p
    {have e:Utf.pt p=true:=(Utf.Z3J p).2 ⟨a,h1,Or.inr c⟩;rw[e];clear e;go_enter Tryz.func216,Tryz.ntmps216;go_wp2;go_ret;exact ⟨rfl,rfl⟩}
    {have e:Utf.pt p=false:=Bool.eq_false_iff.2 fun h=>by have:=Zee h; omega
     rw[e];clear e;go_enter Tryz.func216,Tryz.ntmps216;go_wp2;go_ret;exact ⟨rfl,rfl⟩}}}
  {have e:Utf.pt p=false:=Bool.eq_false_iff.2 fun h=>by have:=Zee h; omega
   rw[e];clear e;go_enter Tryz.func216,Tryz.ntmps216;go_wp2;go_ret;exact ⟨rfl,rfl⟩}}
 {have e:Utf.pt p=false:=Bool.eq_false_iff.2 fun h=>by have:=Zee h; omega
  rw[e];clear e;go_enter Tryz.func216,Tryz.ntmps216;go_wp2;go_ret;exact ⟨rfl,rfl⟩}
theorem Zda:
 Calls Tryz.prog 105 #[.int .i64 p] w fun e w'=>e= .returned (.bool (Utf.pt p))/\w=w':=by
 by_cases a:0<=p
 {by_cases h1:p<=1114111
  {by_cases b:p < 55296
   {have e:Utf.pt p=true:=(Utf.Z3J p).2 ⟨a,h1,Or.inl b⟩;rw[e];clear e;go_enter Tryz.func105,Tryz.ntmps105;go_wp2;go_ret;exact ⟨rfl,rfl⟩}
   {by_cases c:57343 < p
    {have e:Utf.pt p=true:=(Utf.Z3J p).2 ⟨a,h1,Or.inr c⟩;rw[e];clear e;go_enter Tryz.func105,Tryz.ntmps105;go_wp2;go_ret;exact ⟨rfl,rfl⟩}
    {have e:Utf.pt p=false:=Bool.eq_false_iff.2 fun h=>by have:=Zee h; omega
     rw[e];clear e;go_enter Tryz.func105,Tryz.ntmps105;go_wp2;go_ret;exact ⟨rfl,rfl⟩}}}
  {have e:Utf.pt p=false:=Bool.eq_false_iff.2 fun h=>by have:=Zee h; omega
   rw[e];clear e;go_enter Tryz.func105,Tryz.ntmps105;go_wp2;go_ret;exact ⟨rfl,rfl⟩}}
 {have e:Utf.pt p=false:=Bool.eq_false_iff.2 fun h=>by have:=Zee h; omega
  rw[e];clear e;go_enter Tryz.func105,Tryz.ntmps105;go_wp2;go_ret;exact ⟨rfl,rfl⟩}
theorem ZfD:
 Calls Tryz.prog 217 #[.int .i64 p] w fun e w'=>e= .returned (.int .i64 (Utf.width p:Nat))/\w=w':=by
 unfold Utf.width;by_cases a:p < 128
 {rw[if_pos a];go_enter Tryz.func217,Tryz.ntmps217;go_wp2;go_ret;exact ⟨rfl,rfl⟩}
 {rw[if_neg a];by_cases b:p < 2048
  {rw[if_pos b];go_enter Tryz.func217,Tryz.ntmps217;go_wp2;go_ret;exact ⟨rfl,rfl⟩}
  {rw[if_neg b];by_cases c:p < 65536
   {rw[if_pos c];go_enter Tryz.func217,Tryz.ntmps217;go_wp2;go_ret;exact ⟨rfl,rfl⟩}
   {rw[if_neg c];go_enter Tryz.func217,Tryz.ntmps217;go_wp2;go_ret;exact ⟨rfl,rfl⟩}}}
end
theorem Zmq (x:Int):Lib.byteCells [Utf.byte x]= [.int .u8 (x % 256)]:=by
 simp[Lib.byteCells,Utf.Z0g]
theorem Zmr (x y:Int):Lib.byteCells [Utf.byte x,Utf.byte y]= [.int .u8 (x % 256),.int .u8 (y % 256)]:=by
 simp[Lib.byteCells,Utf.Z0g]
theorem ZjZ (x y z:Int):Lib.byteCells [Utf.byte x,Utf.byte y,Utf.byte z]= [.int .u8 (x % 256),.int .u8 (y % 256),.int .u8 (z % 256)]:=by
 simp[Lib.byteCells,Utf.Z0g]
theorem Zlh (x y z u:Int):Lib.byteCells [Utf.byte x,Utf.byte y,Utf.byte z,Utf.byte u]= [.int .u8 (x % 256),.int .u8 (y % 256),.int .u8 (z % 256),.int .u8 (u % 256)]:=by
 simp[Lib.byteCells,Utf.Z0g]
theorem Zeu (p:Int) (w:World) (h:Utf.pt p=true):
 Y9 106 #[.int .i64 p] w (.string ⟨(Utf.bytes p).toArray⟩):=by
 obtain ⟨e,f,_⟩:=Zee h;clear h;unfold Utf.bytes;by_cases b:p < 128
 {rw[if_pos b];have a:=ZeI w [Utf.byte (p)] (cs:=#[.int .u8 (p)]) (n:=1) (by rw[Zmq,show (p) % 256=p from by omega]) rfl (by simp);go_enter Tryz.func106,Tryz.ntmps106;go_wp2;go_ret;exact ⟨rfl,Y2.alloc (Nat.le_refl _) _⟩}
 {rw[if_neg b];by_cases c:p < 2048
  {rw[if_pos c];have a:=ZeI w [Utf.byte (192+p / 64),Utf.byte (128+p % 64)] (cs:=#[.int .u8 (192+p / 64),.int .u8 (128+p % 64)]) (n:=2) (by rw[Zmr,show (192+p / 64) % 256=192+p / 64 from by omega,show (128+p % 64) % 256=128+p % 64 from by omega]) rfl (by simp);go_enter Tryz.func106,Tryz.ntmps106;go_wp2;go_ret;exact ⟨rfl,Y2.alloc (Nat.le_refl _) _⟩}
  {rw[if_neg c];by_cases d:p < 65536
   {rw[if_pos d];have a:=ZeI w [Utf.byte (224+p / 4096),Utf.byte (128+p / 64 % 64),Utf.byte (128+p % 64)] (cs:=#[.int .u8 (224+p / 4096),.int .u8 (128+p / 64 % 64),.int .u8 (128+p % 64)]) (n:=3) (by rw[ZjZ,show (224+p / 4096) % 256=224+p / 4096 from by omega,show (128+p / 64 % 64) % 256=128+p / 64 % 64 from by omega,show (128+p % 64) % 256=128+p % 64 from by omega]) rfl (by simp);go_enter Tryz.func106,Tryz.ntmps106;go_wp2;go_ret;exact ⟨rfl,Y2.alloc (Nat.le_refl _) _⟩}
   {rw[if_neg d];have a:=ZeI w [Utf.byte (240+p / 262144),Utf.byte (128+p / 4096 % 64),Utf.byte (128+p / 64 % 64),Utf.byte (128+p % 64)] (cs:=#[.int .u8 (240+p / 262144),.int .u8 (128+p / 4096 % 64),.int .u8 (128+p / 64 % 64),.int .u8 (128+p % 64)]) (n:=4) (by rw[Zlh,show (240+p / 262144) % 256=240+p / 262144 from by omega,show (128+p / 4096 % 64) % 256=128+p / 4096 % 64 from by omega,show (128+p / 64 % 64) % 256=128+p / 64 % 64 from by omega,show (128+p % 64) % 256=128+p % 64 from by omega]) rfl (by simp);go_enter Tryz.func106,Tryz.ntmps106;go_wp2;go_ret;exact ⟨rfl,Y2.alloc (Nat.le_refl _) _⟩}}}
def duo (x:Int×Nat):Value:= .tuple #[.int .i64 x.1,.int .i64 x.2]
theorem Zg8 (a:UInt8) (w:World):
 Calls Tryz.prog 215 #[.int .u8 a.toNat] w fun e w'=>e= .returned (duo (Utf.plead a.toNat))/\w=w':=by
 have d:=a.toNat_lt;rcases Utf.Z2J a.toNat with ⟨b,e⟩ | ⟨b,c,e⟩ | ⟨b,c,e⟩ | ⟨b,c,e⟩ | ⟨b,e⟩ <;> rw[e] <;> clear e
 {go_enter Tryz.func215,Tryz.ntmps215;go_wp2
  go_ret2
  exact ⟨rfl,rfl⟩}
 {go_enter Tryz.func215,Tryz.ntmps215;go_wp2
  go_ret2
  exact ⟨rfl,rfl⟩}
 {go_enter Tryz.func215,Tryz.ntmps215;go_wp2
  go_ret2
  exact ⟨rfl,rfl⟩}
 {go_enter Tryz.func215,Tryz.ntmps215;go_wp2
  go_ret2
  exact ⟨rfl,rfl⟩}
 {rcases b with ⟨b,c⟩ | b
  {go_enter Tryz.func215,Tryz.ntmps215;go_wp2
   go_ret2
   exact ⟨rfl,rfl⟩}
  {go_enter Tryz.func215,Tryz.ntmps215;go_wp2
   go_ret2
   exact ⟨rfl,rfl⟩}}
section
variable (s : ByteArray)
include s
theorem Zfn (h:0 < s.size): ∃r,s.data.toList=s[0]::r/\r.length+1=s.size/\ ∀(i:Nat) (f:i < r.length) (c:i+1 < s.size),r[i]=s[i+1]:=by
 have b:=Lib.size_eq s;obtain ⟨a,r,e⟩: ∃a r,s.data.toList=a::r:=by
  rcases g:s.data.toList with _ | ⟨a,r⟩
  {rw[g,List.length_nil] at b; omega}
  {exact ⟨a,r,rfl⟩}
 have d:s[0]=s.data.toList[0]'(by rw[e]; simp):=rfl;refine ⟨r, ?_,by rw[b,e]; rfl, ?_⟩
 {rw[e,d]; simp[e]}
 {intro i f c;have:s[i+1]=s.data.toList[i+1]'(by rw[<-b]; exact c):=rfl;rw[this]; simp[e]}
theorem ZfE (r:List UInt8) (e:r.length+1=s.size) (b: ∀(i:Nat) (b:i < r.length) (h':i+1 < s.size),r[i]=s[i+1]) {x v:Int} (k:Nat) (d:1<=k) (a:k < s.size)
 (c:x=Utf.val v (r.take (k - 1))):x * 64+(s[k]'a).toNat - 128=Utf.val v (r.take k):=by
 obtain ⟨j,rfl⟩: ∃j,k=j+1:=⟨k - 1,by omega⟩;rw[List.take_succ_eq_append_getElem (by omega),Utf.Zny,b j (by omega) a,c];rfl
theorem ZdD (n:Nat): (s.extract 0 n).toList=s.data.toList.take n:=by
 have:=ByteArray.extract_mk s.data.toList 0 n;have e:s.extract 0 n=⟨(s.data.toList.take n).toArray⟩:=this;rw[e,ByteArray.toList_mk]
end
theorem Zk0 (w:World):
 Y9 63 #[.string ByteArray.empty] w (duo (0,0)):=by
 go_enter Tryz.func63,Tryz.ntmps63;go_wp2
 go_ret2
 exact ⟨rfl,Below.refl _ _⟩
section
variable (s : ByteArray) (h : 0 < s.size) (hs : s.size <= 9223372036854775807) (w : World)
include s h hs w
theorem ZnS (y: (s[0]).toNat < 192) (e:Utf.lead (s[0]).toNat=(1,((s[0]).toNat:Int))):
 Y9 63 #[.string s] w (duo (Utf.first s.data.toList)):=by
 obtain ⟨r,j,m,l⟩:=Zfn s h;have z:=(s[0]).toNat_lt;have A:s.toList.isEmpty=false:=by
  rw[ByteArray.toList_mk,j]; rfl
 have c:=Y1 j;have n:=Y1 m;have v:=Y1 l;have f:=Y1 e;clear j m l e;by_cases C:s.size < 1
 {omega}
 {go_enter Tryz.func63,Tryz.ntmps63;go_wp2
  go_quiet (fail)
  go_wp2
  go_loopw [5,6] (fun p i wr=> ∃(k:Nat) (x:Int),i= .int .i64 k/\1<=k/\k<=1/\p= .int .i64 x/\Hid (x=Utf.val (((s[0]).toNat:Int)) (r.take (k - 1)))/\Below w.heap.size w wr)
   (fun _ i _=>4 - (intOf i).toNat)
  case atStart=>exact ⟨1,_,rfl,by omega,by omega,rfl,Y1 rfl,by first | exact Below.refl _ _ | exact Z0Q Y2 _⟩
  case round=>
   obtain ⟨k,x,rfl,t,B,rfl,d,a⟩:=hrel;by_cases u:k < 1
   {omega}
   {have g:k=1:=by omega
    subst g;rw[show 1 - 1=0 from rfl] at d;cases hp:Utf.pt x
    {go_wp2_with fail
     go_quiet ((go_at_call 105; exact Calls.quiet_of_same (flip (Zda _ _))))
     go_wp2
     go_ret2
     refine ⟨?_,Z0Q a _⟩;rw[c.out,Utf.first,f.out];simp only;rw[<-d.out,hp,if_neg (by simp)];rfl}
    {go_wp2_with fail
     go_region_held3 (fun w'=>Below w.heap.size w w') (first | exact a.drew | assumption | exact Z03 (by assumption) (by assumption) | exact Below.drew (by assumption))
      (first | (go_at_call 105; refine (Zda _ _).mono ?_; rintro e w' ⟨rfl,rfl⟩) | (go_at_call 106; refine (Zeu _ _ hp).mono ?_; rintro e w' ⟨rfl,q⟩))
     go_wp2
     {have b: (!Utf.bytes x==(s.extract 0 1).toList)=true:=by assumption
      rw[ZdD,c.out] at b
      go_ret2
      refine ⟨?_,by assumption⟩;rw[c.out,Utf.first,f.out];simp only;rw[<-d.out,if_neg (by rintro ⟨_,_,o⟩; rw[o] at b; simp at b)];rfl}
     {have b: (!Utf.bytes x==(s.extract 0 1).toList)=false:=by assumption
      rw[ZdD,c.out] at b
      go_ret2
      refine ⟨?_,by assumption⟩;rw[c.out,Utf.first,f.out];simp only;rw[<-d.out,if_pos ⟨by have:=n.out; omega,hp,by simpa using b⟩];rfl}}}}
theorem ZnT (D:192<=(s[0]).toNat) (E: (s[0]).toNat < 224) (e:Utf.lead (s[0]).toNat=(2,((s[0]).toNat:Int) - 192)):
 Y9 63 #[.string s] w (duo (Utf.first s.data.toList)):=by
 obtain ⟨r,n,q,o⟩:=Zfn s h;have F:=(s[0]).toNat_lt;have G:s.toList.isEmpty=false:=by
  rw[ByteArray.toList_mk,n]; rfl
 have c:=Y1 n;have j:=Y1 q;have t:=Y1 o;have g:=Y1 e;clear n q o e;by_cases I:s.size < 2
 {go_enter Tryz.func63,Tryz.ntmps63;go_wp2
  go_quiet (fail)
  go_wp2
  go_ret2
  refine ⟨?_,by first | exact Below.refl _ _ | exact Z0Q Y2 _⟩;rw[c.out,Utf.first,g.out,if_neg (by have:=j.out; simp only; omega)];rfl}
 {go_enter Tryz.func63,Tryz.ntmps63;go_wp2
  go_quiet (fail)
  go_wp2
  go_loopw [5,6] (fun p i wr=> ∃(k:Nat) (x:Int),i= .int .i64 k/\1<=k/\k<=2/\p= .int .i64 x/\Hid (x=Utf.val (((s[0]).toNat:Int) - 192) (r.take (k - 1)))/\Below w.heap.size w wr)
   (fun _ i _=>4 - (intOf i).toNat)
  case atStart=>exact ⟨1,_,rfl,by omega,by omega,rfl,Y1 rfl,by first | exact Below.refl _ _ | exact Z0Q Y2 _⟩
  case round=>
   obtain ⟨k,x,rfl,l,H,rfl,d,a⟩:=hrel;by_cases z:k < 2
   {have b:k < s.size:=by omega
    have y:=(s[k]'b).toNat_lt;have A: -100000000<=x/\x<=100000000:=by
     rw[d.out];exact Utf.ZfY (by omega) (by omega) (by rw[List.length_take]; omega)
    have HN:Hid (x * 64+(s[k]'b).toNat - 128=Utf.val (((s[0]).toNat:Int) - 192) (r.take k)):=Y1 (ZfE s r j.out t.out k l b d.out);obtain ⟨B,C⟩:=A
    go_wp2_with fail
    go_roundw
    case rel=>exact ⟨k+1,_,by go_num,by omega,by omega,rfl,HN,a⟩
    case measure=>simp[intOf]; omega}
   {have m:k=2:=by omega
    subst m;rw[show 2 - 1=1 from rfl] at d;cases hp:Utf.pt x
    {go_wp2_with fail
     go_quiet ((go_at_call 105; exact Calls.quiet_of_same (flip (Zda _ _))))
     go_wp2
     go_ret2
     refine ⟨?_,Z0Q a _⟩;rw[c.out,Utf.first,g.out];simp only;rw[<-d.out,hp,if_neg (by simp)];rfl}
    {go_wp2_with fail
     go_region_held3 (fun w'=>Below w.heap.size w w') (first | exact a.drew | assumption | exact Z03 (by assumption) (by assumption) | exact Below.drew (by assumption))
      (first | (go_at_call 105; refine (Zda _ _).mono ?_; rintro e w' ⟨rfl,rfl⟩) | (go_at_call 106; refine (Zeu _ _ hp).mono ?_; rintro e w' ⟨rfl,v⟩))
     go_wp2
     {have f: (!Utf.bytes x==(s.extract 0 2).toList)=true:=by assumption
      rw[ZdD,c.out] at f
      go_ret2
      refine ⟨?_,by assumption⟩;rw[c.out,Utf.first,g.out];simp only;rw[<-d.out,if_neg (by rintro ⟨_,_,u⟩; rw[u] at f; simp at f)];rfl}
     {have f: (!Utf.bytes x==(s.extract 0 2).toList)=false:=by assumption
      rw[ZdD,c.out] at f
      go_ret2
      refine ⟨?_,by assumption⟩;rw[c.out,Utf.first,g.out];simp only;rw[<-d.out,if_pos ⟨by have:=j.out; omega,hp,by simpa using f⟩];rfl}}}}
theorem ZnU (D:224<=(s[0]).toNat) (E: (s[0]).toNat < 240) (e:Utf.lead (s[0]).toNat=(3,((s[0]).toNat:Int) - 224)):
 Y9 63 #[.string s] w (duo (Utf.first s.data.toList)):=by
 obtain ⟨r,n,q,o⟩:=Zfn s h;have F:=(s[0]).toNat_lt;have G:s.toList.isEmpty=false:=by
  rw[ByteArray.toList_mk,n]; rfl
 have c:=Y1 n;have j:=Y1 q;have t:=Y1 o;have g:=Y1 e;clear n q o e;by_cases I:s.size < 3
 {go_enter Tryz.func63,Tryz.ntmps63;go_wp2
  go_quiet (fail)
  go_wp2
  go_ret2
  refine ⟨?_,by first | exact Below.refl _ _ | exact Z0Q Y2 _⟩;rw[c.out,Utf.first,g.out,if_neg (by have:=j.out; simp only; omega)];rfl}
 {go_enter Tryz.func63,Tryz.ntmps63;go_wp2
  go_quiet (fail)
  go_wp2
  go_loopw [5,6] (fun p i wr=> ∃(k:Nat) (x:Int),i= .int .i64 k/\1<=k/\k<=3/\p= .int .i64 x/\Hid (x=Utf.val (((s[0]).toNat:Int) - 224) (r.take (k - 1)))/\Below w.heap.size w wr)
   (fun _ i _=>4 - (intOf i).toNat)
  case atStart=>exact ⟨1,_,rfl,by omega,by omega,rfl,Y1 rfl,by first | exact Below.refl _ _ | exact Z0Q Y2 _⟩
  case round=>
   obtain ⟨k,x,rfl,l,H,rfl,d,a⟩:=hrel;by_cases z:k < 3
   {have b:k < s.size:=by omega
    have y:=(s[k]'b).toNat_lt;have A: -100000000<=x/\x<=100000000:=by
     rw[d.out];exact Utf.ZfY (by omega) (by omega) (by rw[List.length_take]; omega)
    have HN:Hid (x * 64+(s[k]'b).toNat - 128=Utf.val (((s[0]).toNat:Int) - 224) (r.take k)):=Y1 (ZfE s r j.out t.out k l b d.out);obtain ⟨B,C⟩:=A
    go_wp2_with fail
    go_roundw
    case rel=>exact ⟨k+1,_,by go_num,by omega,by omega,rfl,HN,a⟩
    case measure=>simp[intOf]; omega}
   {have m:k=3:=by omega
    subst m;rw[show 3 - 1=2 from rfl] at d;cases hp:Utf.pt x
    {go_wp2_with fail
     go_quiet ((go_at_call 105; exact Calls.quiet_of_same (flip (Zda _ _))))
     go_wp2
     go_ret2
     refine ⟨?_,Z0Q a _⟩;rw[c.out,Utf.first,g.out];simp only;rw[<-d.out,hp,if_neg (by simp)];rfl}
    {go_wp2_with fail
     go_region_held3 (fun w'=>Below w.heap.size w w') (first | exact a.drew | assumption | exact Z03 (by assumption) (by assumption) | exact Below.drew (by assumption))
      (first | (go_at_call 105; refine (Zda _ _).mono ?_; rintro e w' ⟨rfl,rfl⟩) | (go_at_call 106; refine (Zeu _ _ hp).mono ?_; rintro e w' ⟨rfl,v⟩))
     go_wp2
     {have f: (!Utf.bytes x==(s.extract 0 3).toList)=true:=by assumption
      rw[ZdD,c.out] at f
      go_ret2
      refine ⟨?_,by assumption⟩;rw[c.out,Utf.first,g.out];simp only;rw[<-d.out,if_neg (by rintro ⟨_,_,u⟩; rw[u] at f; simp at f)];rfl}
     {have f: (!Utf.bytes x==(s.extract 0 3).toList)=false:=by assumption
      rw[ZdD,c.out] at f
      go_ret2
      refine ⟨?_,by assumption⟩;rw[c.out,Utf.first,g.out];simp only;rw[<-d.out,if_pos ⟨by have:=j.out; omega,hp,by simpa using f⟩];rfl}}}}
theorem ZnV (D:240<=(s[0]).toNat) (e:Utf.lead (s[0]).toNat=(4,((s[0]).toNat:Int) - 240)):
 Y9 63 #[.string s] w (duo (Utf.first s.data.toList)):=by
 obtain ⟨r,n,q,o⟩:=Zfn s h;have E:=(s[0]).toNat_lt;have F:s.toList.isEmpty=false:=by
  rw[ByteArray.toList_mk,n]; rfl
 have c:=Y1 n;have j:=Y1 q;have t:=Y1 o;have g:=Y1 e;clear n q o e;by_cases H:s.size < 4
 {go_enter Tryz.func63,Tryz.ntmps63;go_wp2
  go_quiet (fail)
  go_wp2
  go_ret2
  refine ⟨?_,by first | exact Below.refl _ _ | exact Z0Q Y2 _⟩;rw[c.out,Utf.first,g.out,if_neg (by have:=j.out; simp only; omega)];rfl}
 {go_enter Tryz.func63,Tryz.ntmps63;go_wp2
  go_quiet (fail)
  go_wp2
  go_loopw [5,6] (fun p i wr=> ∃(k:Nat) (x:Int),i= .int .i64 k/\1<=k/\k<=4/\p= .int .i64 x/\Hid (x=Utf.val (((s[0]).toNat:Int) - 240) (r.take (k - 1)))/\Below w.heap.size w wr)
   (fun _ i _=>4 - (intOf i).toNat)
  case atStart=>exact ⟨1,_,rfl,by omega,by omega,rfl,Y1 rfl,by first | exact Below.refl _ _ | exact Z0Q Y2 _⟩
  case round=>
   obtain ⟨k,x,rfl,l,G,rfl,d,a⟩:=hrel;by_cases z:k < 4
   {have b:k < s.size:=by omega
    have y:=(s[k]'b).toNat_lt;have A: -100000000<=x/\x<=100000000:=by
     rw[d.out];exact Utf.ZfY (by omega) (by omega) (by rw[List.length_take]; omega)
    have HN:Hid (x * 64+(s[k]'b).toNat - 128=Utf.val (((s[0]).toNat:Int) - 240) (r.take k)):=Y1 (ZfE s r j.out t.out k l b d.out);obtain ⟨B,C⟩:=A
    go_wp2_with fail
    go_roundw
    case rel=>exact ⟨k+1,_,by go_num,by omega,by omega,rfl,HN,a⟩
    case measure=>simp[intOf]; omega}
   {have m:k=4:=by omega
    subst m;rw[show 4 - 1=3 from rfl] at d;cases hp:Utf.pt x
    {go_wp2_with fail
     go_quiet ((go_at_call 105; exact Calls.quiet_of_same (flip (Zda _ _))))
     go_wp2
     go_ret2
     refine ⟨?_,Z0Q a _⟩;rw[c.out,Utf.first,g.out];simp only;rw[<-d.out,hp,if_neg (by simp)];rfl}
    {go_wp2_with fail
     go_region_held3 (fun w'=>Below w.heap.size w w') (first | exact a.drew | assumption | exact Z03 (by assumption) (by assumption) | exact Below.drew (by assumption))
      (first | (go_at_call 105; refine (Zda _ _).mono ?_; rintro e w' ⟨rfl,rfl⟩) | (go_at_call 106; refine (Zeu _ _ hp).mono ?_; rintro e w' ⟨rfl,v⟩))
     go_wp2
     {have f: (!Utf.bytes x==(s.extract 0 4).toList)=true:=by assumption
      rw[ZdD,c.out] at f
      go_ret2
      refine ⟨?_,by assumption⟩;rw[c.out,Utf.first,g.out];simp only;rw[<-d.out,if_neg (by rintro ⟨_,_,u⟩; rw[u] at f; simp at f)];rfl}
     {have f: (!Utf.bytes x==(s.extract 0 4).toList)=false:=by assumption
      rw[ZdD,c.out] at f
      go_ret2
      refine ⟨?_,by assumption⟩;rw[c.out,Utf.first,g.out];simp only;rw[<-d.out,if_pos ⟨by have:=j.out; omega,hp,by simpa using f⟩];rfl}}}}
end
theorem ZdS (s:ByteArray) (c:s.size<=9223372036854775807) (w:World):
 Y9 63 #[.string s] w (duo (Utf.first s.data.toList)):=by
 by_cases h:0 < s.size
 {rcases Utf.Z4K (s[0]).toNat with ⟨b,e⟩ | ⟨b,d,e⟩ | ⟨b,d,e⟩ | ⟨b,e⟩
  {exact ZnS s h c w b e}
  {exact ZnT s h c w b d e}
  {exact ZnU s h c w b d e}
  {exact ZnV s h c w b e}}
 {obtain rfl:s=ByteArray.empty:=by
   rcases s with ⟨⟨l⟩⟩
   match l with
   | []=>rfl
   | a::r=>exact absurd (show 0 < (a::r).length from Nat.succ_pos _) h
  exact Zk0 w}
def passedR:Except Nat Nat->Value
 | .ok n=> .tuple #[.int .i64 n,.agg #[.int .i64 0,.int .i64 0]]
 | .error j=> .tuple #[.int .i64 0,.agg #[.int .i64 30,.int .i64 j]]
def Box2 (W:World) (g:Nat) (a b:Int):Prop:=g < W.heap.size/\W.cell? ⟨g,0,none⟩=some (.int .i64 a)/\W.cell? ⟨g,1,none⟩=some (.int .i64 b)/\W.frozen? ⟨g,0,none⟩=false/\W.frozen? ⟨g,1,none⟩=false
theorem Box2.keep {W W':World} {g B:Nat} {a b:Int} (h:Box2 W g a b) (d:g < B) (c:Below B W W'):Box2 W' g a b:=
 ⟨Nat.lt_of_lt_of_le h.1 c.size,(c.cell (p:=⟨g,0,none⟩) d).trans h.2.1,(c.cell (p:=⟨g,1,none⟩) d).trans h.2.2.1,(c.frozen (p:=⟨g,0,none⟩) d).trans h.2.2.2.1,(c.frozen (p:=⟨g,1,none⟩) d).trans h.2.2.2.2⟩
theorem ZcG (w:World) (a b:Int):Box2 (w.alloc (.cells #[.int .i64 a,.int .i64 b] 31)) w.heap.size a b:=
 ⟨by simp,by simp[go_sem],by simp[go_sem],by simp[go_sem],by simp[go_sem]⟩
theorem ZcR (c:UInt8) (k:Nat) (b:k < 256): ((c.toNat:Int)==(k:Int))=(c==UInt8.ofNat k):=by
 have a: (UInt8.ofNat k).toNat=k:=by simp; omega
 rw[Bool.eq_iff_iff,beq_iff_eq,beq_iff_eq];constructor
 {intro h; apply UInt8.toNat_inj.1; rw[a]; omega}
 {intro h; rw[h,a]}
theorem Zk1 (l:List UInt8) (hl:l.length<=1000000) (w:World):
 Y9 36 #[.string ⟨l.toArray⟩] w (passedR (Lex.passed l)):=by
 have hz: (⟨l.toArray⟩:ByteArray).size=l.length:=Z0J _;have hb0:=Z01 w (.cells Yc 31);have M:=Y1 (ZcG w 0 0);have f:=Y1 hb0;clear hb0;go_enter Tryz.func36,Tryz.ntmps36
 go_wp2_with fail
 generalize hW:w.alloc (.cells Yc 31)=W0 at M f ⊢;clear hW
 go_loopw [4] (fun ii wr=> ∃n:Nat,ii= .int .i64 n/\n<=l.length/\Hid (∀j (hj:j < l.length),j < n->Lex.blank (l[j]'hj)=true)/\W0=wr)
  (fun i _=>l.length - (intOf i).toNat)
 case atStart=>exact ⟨0,rfl,Nat.zero_le _,Y1 (fun j _ hj=>absurd hj (by omega)),rfl⟩
 case round=>
  obtain ⟨n,rfl,hn,HN,rfl⟩:=hrel;have after: (∀h:n < l.length,Lex.blank (l[n]'h)=false)->Hid ((l.takeWhile Lex.blank).length=n):=fun h=>Y1 (Lex.Z8F hn HN.out h);by_cases L:n < l.length
  {have V: (n:Int) < (l.length:Int):=by omega
   obtain ⟨c,hc⟩: ∃c,c=l[n]'L:=⟨_,rfl⟩;have F: ∀W,(Instr.index 9 (.string ⟨l.toArray⟩) (.int .i64 (n:Int))).run Tryz.prog W= .ok (.int .u8 c.toNat) W:=fun W=>by
    rw[hc]; exact Z4P ⟨l.toArray⟩ n (by omega) W
   have HC:=Y1 hc;clear hc;have more:Lex.blank c=true->Hid (∀j (hj:j < l.length),j < n+1->Lex.blank (l[j]'hj)=true):=fun h=>Y1 (fun j hj hji=>by
    rcases Nat.lt_succ_iff_lt_or_eq.1 hji with h' | rfl
    {exact HN.out j hj h'}
    · rw[<-HC.out]; exact h)
   have k9: ((c.toNat:Int)==9)=(c==9):=ZcR c 9 (by decide);have a0: ((c.toNat:Int)==10)=(c==10):=ZcR c 10 (by decide);have a1: ((c.toNat:Int)==13)=(c==13):=ZcR c 13 (by decide);have a2: ((c.toNat:Int)==32)=(c==32):=ZcR c 32 (by decide);have b:Lex.blank c=(c==9||c==10||c==13||c==32):=rfl;cases H: (c==9)
   {rw[H] at k9 b;cases a: (c==10)
    {rw[a] at a0 b;cases q: (c==13)
     {rw[q] at a1 b;cases z: (c==32)
      {rw[z] at a2 b;have HT:=after (fun h=>by rw[<-HC.out]; exact b);have b9:Hid (c≠10):=Y1 (beq_eq_false_iff_ne.1 a);clear after more b H a q z
       -- what stands behind the blanks
       by_cases h2:n+1 < l.length
       {obtain ⟨d,hd⟩: ∃d,d=l[n+1]'h2:=⟨_,rfl⟩;have K: ∀W,(Instr.index 9 (.string ⟨l.toArray⟩) (.int .i64 ((n:Int)+1))).run Tryz.prog W= .ok (.int .u8 d.toNat) W:=fun W=>by
         rw[hd]; exact Z4P ⟨l.toArray⟩ (n+1) (by omega) W
        have HD:=Y1 hd;have P: ¬((l.length:Int)<=(n:Int)+1):=by omega
        have T:l.drop n=c::d::l.drop (n+2):=by
         rw[List.drop_eq_getElem_cons L, <-HC.out,List.drop_eq_getElem_cons h2, <-HD.out]
        have HR:Hid (Lex.hasRemark (l.drop n)=(c==45&&d==45)):=Y1 (by rw[T,Lex.ZfV]);have HP:Hid (Lex.passed l=if Lex.hasRemark (l.drop n) then Lex.up n (Lex.remarkOf (l.drop n)) else .ok n):=Y1 (by unfold Lex.passed; rw[HT.out]);have C: ((c.toNat:Int)==45)=(c==45):=ZcR c 45 (by decide);have A: ((d.toNat:Int)==45)=(d==45):=ZcR d 45 (by decide);clear hd T;cases e45: (c==45)
        {rw[e45] at C;have a3: ((c.toNat:Int) !=45)=true:=by rw[bne,C]; rfl
         have t:Hid (Lex.passed l= .ok n):=Y1 (by rw[HP.out,HR.out,e45]; rfl);obtain ⟨_,x0,x1,f0,N⟩:=M.out;clear e45;go_wp2;refine bodyPost_ret (v:= .tuple #[.int .i64 n,.agg #[.int .i64 0,.int .i64 0]]) (by simp[results,Tryz.results36,go_sem,x0,x1]) rfl ?_;exact ⟨by rw[t.out]; rfl,(f.out.setCell (p:=⟨w.heap.size,0,none⟩) (Nat.le_refl _) _).setCell (p:=⟨w.heap.size,1,none⟩) (Nat.le_refl _) _⟩}
        {rw[e45] at C;have a3: ((c.toNat:Int) !=45)=false:=by rw[bne,C]; rfl
         cases g: (d==45)
         {rw[g] at A;have Z: ((d.toNat:Int) !=45)=true:=by rw[bne,A]; rfl
          have t:Hid (Lex.passed l= .ok n):=Y1 (by rw[HP.out,HR.out,e45,g]; rfl);obtain ⟨_,x0,x1,f0,N⟩:=M.out;clear e45 g;go_wp2;refine bodyPost_ret (v:= .tuple #[.int .i64 n,.agg #[.int .i64 0,.int .i64 0]]) (by simp[results,Tryz.results36,go_sem,x0,x1]) rfl ?_;exact ⟨by rw[t.out]; rfl,(f.out.setCell (p:=⟨w.heap.size,0,none⟩) (Nat.le_refl _) _).setCell (p:=⟨w.heap.size,1,none⟩) (Nat.le_refl _) _⟩}
         {rw[g] at A;have Z: ((d.toNat:Int) !=45)=false:=by rw[bne,A]; rfl
          have t:Hid (Lex.passed l=Lex.up n (Lex.remarkOf (l.drop n))):=Y1 (by rw[HP.out,HR.out,e45,g]; rfl);clear e45 g
          go_wp2_with fail
          go_loopw [4] (fun ii wr=> ∃m:Nat,ii= .int .i64 m/\m<=l.length/\Hid (Lex.passed l=Lex.up m (Lex.remarkOf (l.drop m)))/\Hid (Box2 wr w.heap.size 0 0)/\Below w.heap.size w wr)
           (fun i _=>l.length - (intOf i).toNat)
          case atStart=>exact ⟨n,rfl,hn,t,M,f.out⟩
          case round=>
           obtain ⟨m,rfl,hm,u,y,J⟩:=hrel;clear F K V;by_cases X:m < l.length
           {have b2: (m:Int) < (l.length:Int):=by omega
            obtain ⟨x,hx⟩: ∃x,x=l[m]'X:=⟨_,rfl⟩;have F: ∀W,(Instr.index 9 (.string ⟨l.toArray⟩) (.int .i64 (m:Int))).run Tryz.prog W= .ok (.int .u8 x.toNat) W:=fun W=>by
             rw[hx]; exact Z4P ⟨l.toArray⟩ m (by omega) W
            have S:l.drop m=x::l.drop (m+1):=by rw[List.drop_eq_getElem_cons X, <-hx]
            have o:=Y1 S;have D: ((x.toNat:Int)==10)=(x==10):=ZcR x 10 (by decide);clear hx S;cases a: (x==10)
            {rw[a] at D;have a4: ((x.toNat:Int) !=10)=true:=by rw[bne,D]; rfl
             have G:x≠10:=beq_eq_false_iff_ne.1 a;have c9: ∀W,(Instr.slice 9 (.string ⟨l.toArray⟩) (some (.int .i64 (m:Int))) none none).run Tryz.prog W= .ok (.string ⟨(l.drop m).toArray⟩) W:=fun W=>Z8E (W:=W) ⟨l.toArray⟩ m (by omega);have E:=Y1 G;clear a G
             go_wp2_with fail
             refine (ZdS ⟨(l.drop m).toArray⟩ (by rw[Z0J,List.length_drop]; omega) _).mono ?_;rintro e w5 ⟨rfl,I⟩;have Q: (⟨(l.drop m).toArray⟩:ByteArray).data.toList=l.drop m:=rfl;rw[Q];have O:=Y1 (Z03 J I);have HX5:=Y1 (y.out.keep (B:=wr.heap.size) y.out.1 I);rcases Y:Utf.first (l.drop m) with ⟨p,k⟩;have U:duo (p,k)= .tuple #[.int .i64 p,.int .i64 k]:=rfl;rw[U];clear Q I U;by_cases s:k=0
             {have HE:Hid (Lex.passed l= .error m):=Y1 (by
               rw[u.out,o.out,Lex.ZiY E.out (by rw[<-o.out,Y]; exact s)];simp[Lex.up])
              have b1: ((k:Int)==0)=true:=by rw[beq_iff_eq]; omega
              obtain ⟨_,x0,x1,f0,N⟩:=HX5.out;clear Y s;go_wp2;refine bodyPost_ret (v:= .tuple #[.int .i64 0,.agg #[.int .i64 30,.int .i64 m]]) (by simp[results,Tryz.results36,go_sem,x0,x1]) rfl ?_;exact ⟨by rw[HE.out]; rfl,(O.out.setCell (p:=⟨w.heap.size,0,none⟩) (Nat.le_refl _) _).setCell (p:=⟨w.heap.size,1,none⟩) (Nat.le_refl _) _⟩}
             {have b1: ((k:Int)==0)=false:=by rw[beq_eq_false_iff_ne]; omega
              have hkl:m+k<=l.length:=by
               have:=(Utf.Z0O Y s).2.2.2;rw[List.length_drop] at this; omega
              have HE:Hid (Lex.passed l=Lex.up (m+k) (Lex.remarkOf (l.drop (m+k)))):=Y1 (by
               have h1:=Lex.Zit (c:=x) (r:=l.drop (m+1)) E.out (by rw[<-o.out]; exact Y) s;rw[<-o.out,List.drop_drop] at h1;rw[u.out,h1,Lex.Zqb])
              have c8:1<=k:=by omega
              clear Y s;go_wp2
              go_roundw
              case rel=>exact ⟨m+k,by go_num,hkl,HE,HX5,O.out⟩
              case measure=>simp[intOf]; omega}}
            {rw[a] at D;have a4: ((x.toNat:Int) !=10)=false:=by rw[bne,D]; rfl
             have HE:Hid (Lex.passed l= .ok m):=Y1 (by
              rw[u.out,o.out,beq_iff_eq.1 a,Lex.Zis]; simp[Lex.up])
             obtain ⟨_,x0,x1,f0,N⟩:=y.out;clear a;go_wp2;refine bodyPost_ret (v:= .tuple #[.int .i64 m,.agg #[.int .i64 0,.int .i64 0]]) (by simp[results,Tryz.results36,go_sem,x0,x1]) rfl ?_;exact ⟨by rw[HE.out]; rfl,(J.setCell (p:=⟨w.heap.size,0,none⟩) (Nat.le_refl _) _).setCell (p:=⟨w.heap.size,1,none⟩) (Nat.le_refl _) _⟩}}
           {have b2: ¬(m:Int) < (l.length:Int):=by omega
            have HE:Hid (Lex.passed l= .ok m):=Y1 (by
             rw[u.out,List.drop_eq_nil_of_le (by omega),Lex.ZiX]; simp[Lex.up])
            obtain ⟨_,x0,x1,f0,N⟩:=y.out;go_wp2;refine bodyPost_ret (v:= .tuple #[.int .i64 m,.agg #[.int .i64 0,.int .i64 0]]) (by simp[results,Tryz.results36,go_sem,x0,x1]) rfl ?_;exact ⟨by rw[HE.out]; rfl,(J.setCell (p:=⟨w.heap.size,0,none⟩) (Nat.le_refl _) _).setCell (p:=⟨w.heap.size,1,none⟩) (Nat.le_refl _) _⟩}}}}
       {have P: (l.length:Int)<=(n:Int)+1:=by omega
        have t:Hid (Lex.passed l= .ok n):=Y1 (by
         unfold Lex.passed; rw[HT.out,Lex.Zf0 (by rw[List.length_drop]; omega)]; rfl)
        obtain ⟨_,x0,x1,f0,N⟩:=M.out;go_wp2;refine bodyPost_ret (v:= .tuple #[.int .i64 n,.agg #[.int .i64 0,.int .i64 0]]) (by simp[results,Tryz.results36,go_sem,x0,x1]) rfl ?_;exact ⟨by rw[t.out]; rfl,(f.out.setCell (p:=⟨w.heap.size,0,none⟩) (Nat.le_refl _) _).setCell (p:=⟨w.heap.size,1,none⟩) (Nat.le_refl _) _⟩}}
      {rw[z] at a2 b;have HM:=more b;clear after more b H a q z;go_wp2
       go_roundw
       case rel=>exact ⟨n+1,by go_num,by omega,HM,trivial⟩
       case measure=>simp[intOf]; omega}}
     {rw[q] at a1 b;have HM:=more (by rw[b]; rfl);clear after more b H a q;go_wp2
      go_roundw
      case rel=>exact ⟨n+1,by go_num,by omega,HM,trivial⟩
      case measure=>simp[intOf]; omega}}
    {rw[a] at a0 b;have HM:=more (by rw[b]; rfl);clear after more b H a;go_wp2
     go_roundw
     case rel=>exact ⟨n+1,by go_num,by omega,HM,trivial⟩
     case measure=>simp[intOf]; omega}}
   {rw[H] at k9 b;have HM:=more (by rw[b]; rfl);clear after more b H;go_wp2
    go_roundw
    case rel=>exact ⟨n+1,by go_num,by omega,HM,trivial⟩
    case measure=>simp[intOf]; omega}}
  {have V: ¬(n:Int) < (l.length:Int):=by omega
   have P: (l.length:Int)<=(n:Int)+1:=by omega
   have HT:=after (fun h=>absurd h L);have t:Hid (Lex.passed l= .ok n):=Y1 (by
    unfold Lex.passed; rw[HT.out,Lex.Zf0 (by rw[List.length_drop]; omega)]; rfl)
   obtain ⟨_,x0,x1,f0,N⟩:=M.out;clear after;go_wp2;refine bodyPost_ret (v:= .tuple #[.int .i64 n,.agg #[.int .i64 0,.int .i64 0]]) (by simp[results,Tryz.results36,go_sem,x0,x1]) rfl ?_;exact ⟨by rw[t.out]; rfl,(f.out.setCell (p:=⟨w.heap.size,0,none⟩) (Nat.le_refl _) _).setCell (p:=⟨w.heap.size,1,none⟩) (Nat.le_refl _) _⟩}
theorem Z0I {P:Program} (w:World) {b:Array Oper} {rest:List Oper} {o:Oper} {a:Act} {Q:Exit->Act->World->Prop} (d:Region.wanted o (yielded b a.tmps)=true) (s x:Operand) (t:TypeId)
 (ho:o.op= .call { callee:= .builtin .append,args:=#[s,x],argTypes:=#[t,t] })
 (base:Nat) (e:TypeId) (i:TypeInfo) (z:Value) (size bytes:Nat) (ht:P.underlying t=some (.slice e)) (hi:P.info? e=some i) (hz:i.zero=some z)
 (hsize:i.size=size) (hby:i.bytes=bytes) (hzs:z.cells.size=size) (hsz:0 < size)
 (v:Value) (n:Nat) (xs:List Value) (hs:a.eval s=v) (hown:w.ownsRow base e size v n xs)
 (A:Option Addr) (m c:Nat) (news:List Value) (hx:a.eval x= .slice A m c) (hA:A=none->m=0/\c=0) (hl:news.length=m * size)
 (hnews: ∀ad,A=some ad-> ∀j u,news[j]? =some u->w.cell? (ad.add j)=some u) (h1: ∀u∈news,u.oneCell'=true)
 (h63:n+m<=maxLen) (hbytes: (n+m) * bytes<=140737488355328) (hbase:base<=w.heap.size)
 (h: ∀v' w',w'.ownsRow base e size v' (n+m) (xs++news)->Below base w w'->wpList P b Q rest (a.put o.dst v') w'):wpList P b Q (o::rest) a w:=by
 refine wpList_step fun K hK=> ?_;rw[if_pos d]
 match A,hA,hnews,hx with
 | some ad,_,hnews,hx=>
  exact wp_append_own w s x t ho base e i z size bytes ht hi hz hsize hby hzs hsz v n xs hs hown ad m c news hx hl (hnews ad rfl) h1 h63 hbytes hbase
   fun v' w' h2 h3 _=>hK _ _ (h v' w' h2 (Y2.grown h3 hbase (fun k hk=>(hown.lt k hk).1)))
 | none,hA,_,hx=>
  obtain ⟨rfl,rfl⟩:=hA rfl;obtain rfl:news= []:=List.eq_nil_of_length_eq_zero (by rw[hl,Nat.zero_mul]);have f:=run_append_owned_none (P:=P) (w:=w) base t o.type e i size ht hi v n xs hown;unfold Oper.wp execOp;simp only[ho,resolve,invoke,builtin,Sem.run_bind,Sem.run_pure,Result.andThen_ok,List.map_toArray,List.map_cons,List.map_nil,hs,hx,f];exact hK _ _ (h v w (by rw[List.append_nil]; exact hown) Y2)
end
end Go.Proofs.YtgndehppmaacaaaGreatDoor
namespace Prs
open Go.Proofs.YtgndehppmaacaaaGreatDoor (Tk)
theorem look_in {l:List Tk} {i:Nat} (h:i < l.length):look l i=l[i]:=by unfold look; rw[List.getElem?_eq_getElem h]
theorem look_out {l:List Tk} {i:Nat} (h: ¬i < l.length) (a:0 < l.length):look l i=⟨⟨0,[]⟩,(l[l.length - 1]'(by omega)).at_⟩:=by
 unfold look;rw[List.getElem?_eq_none (by omega),List.getLast?_eq_getElem?,List.getElem?_eq_getElem (by omega)]
theorem look_nil {l:List Tk} (i:Nat) (h:l.length=0):look l i=⟨⟨0,[]⟩,0⟩:=by
 unfold look;rw[List.getElem?_eq_none (by omega),List.getLast?_eq_getElem?,List.getElem?_eq_none (by omega)]
end Prs
namespace Go.Proofs.YtgndehppmaacaaaGreatDoor
open Go.RowKit Prs
theorem ZcY (A:Option Addr) (c:Nat) (l:List Tk) (i:Nat) (r:l.length<=1000000) (q:i<=2000000) (w:World) (h:Tks w w.heap.size A l):
 Y9 34 #[.slice A l.length c,.int .i64 (i:Int)] w (.agg #[.int .i64 (Prs.look l i).t.kind,.string ⟨(Prs.look l i).t.text.toArray⟩,.int .i64 (Prs.look l i).at_]):=by
 have k:=Y1 (Z01 w (.cells Yd 46));by_cases a:i < l.length
 {have e: (i:Int) < (l.length:Int):=by omega
  rcases h with h | ⟨g,off,rfl,o,d⟩
  {omega}
  {obtain ⟨x,b⟩: ∃x,x=l[i]'a:=⟨_,rfl⟩;obtain ⟨f,c1,c2⟩:=d i a;rw[look_in a, <-b];rw[<-b] at f c1 c2;clear d b;go_enter Tryz.func34,Tryz.ntmps34;go_wp2;refine bodyPost_ret (v:= .agg #[.int .i64 x.t.kind,.string ⟨x.t.text.toArray⟩,.int .i64 x.at_]) (by simp[results,Tryz.results34,go_sem]) rfl ?_;exact ⟨rfl,by first | exact k.out | exact Z01 _ _⟩}}
 {have e: ¬(i:Int) < (l.length:Int):=by omega
  by_cases j:l.length=0
  {have n: ((l.length:Int)==0)=true:=by rw[j]; rfl
   rw[look_nil i j];clear j;go_enter Tryz.func34,Tryz.ntmps34;go_wp2;refine bodyPost_ret (v:= .agg #[.int .i64 0,.string ⟨#[]⟩,.int .i64 0]) (by simp[results,Tryz.results34,go_sem]) rfl ?_;exact ⟨rfl,by first | exact k.out | exact Z01 _ _⟩}
  {have n: ((l.length:Int)==0)=false:=by rw[beq_eq_false_iff_ne]; omega
   rcases h with h | ⟨g,off,rfl,o,d⟩
   {omega}
   {obtain ⟨x,b⟩: ∃x,x=l[l.length - 1]'(by omega):=⟨_,rfl⟩;obtain ⟨f,c1,c2⟩:=d (l.length - 1) (by omega);rw[look_out a (by omega), <-b];rw[<-b] at f c1 c2;obtain ⟨m,s⟩: ∃m,m+1=l.length:=⟨l.length - 1,by omega⟩;rw[show l.length - 1=m from by omega] at f c1 c2;have p: (l.length:Int) - 1=(m:Int):=by omega
    clear d b j;go_enter Tryz.func34,Tryz.ntmps34;go_wp2;refine bodyPost_ret (v:= .agg #[.int .i64 0,.string ⟨#[]⟩,.int .i64 x.at_]) (by simp[results,Tryz.results34,go_sem]) rfl ?_;exact ⟨rfl,by first | exact k.out | exact Z01 _ _⟩}}}
theorem Box2.next {W W':World} {g:Nat} {a b:Int} (h:Box2 W g a b) (c:Below W.heap.size W W'):Box2 W' g a b:=h.keep h.1 c
theorem Tks.on {w w':World} {A:Option Addr} {l:List Tk} (h:Tks w w.heap.size A l) (a:Below w.heap.size w w'):Tks w' w'.heap.size A l:=(h.keep a (Nat.le_refl _)).more a.size
theorem ZcI {B:Nat} {a W:World} (h:Below B a W) {b:Nat} (c:B<=b) (x y:Value):Below B a ((W.setCell ⟨b,0,none⟩ x).setCell ⟨b,1,none⟩ y):=(h.setCell (p:=⟨b,0,none⟩) c _).setCell (p:=⟨b,1,none⟩) c _
theorem ZdX (a:Int) (s:ByteArray) (b:Int) (W:World): (Instr.field 46 (.agg #[.int .i64 a,.string s,.int .i64 b]) 2).run Tryz.prog W= .ok (.int .i64 b) W:=by
 simp[go_sem,Instr.field,asAgg]
section
variable (A : Option Addr) (c : Nat) (l : List Tk) (i : Nat)
include A c l i
theorem ZfF (p:l.length<=1000000) (o:i<=2000000) (w:World) (h:Tks w w.heap.size A l):
 Y9 38 #[.slice A l.length c,.int .i64 (i:Int)] w (.agg #[.int .i64 (no l i).1,.int .i64 (no l i).2]):=by
 have hb0:=Z01 w (.cells Yc 31);have j:=Y1 (ZcG w 0 0);have b:=Y1 (ZcY A c l i p o _ (h.on hb0));have d:=Y1 hb0;have g:Hid (no l i=(90,(Prs.look l i).at_)):=Y1 rfl;clear h hb0;obtain ⟨x,m⟩: ∃x,x=Prs.look l i:=⟨_,rfl⟩;rw[<-m] at b g;rw[g.out];clear m g;go_enter Tryz.func38,Tryz.ntmps38
 go_wp2_with fail
 generalize w.alloc (.cells Yc 31)=W0 at j b d ⊢;refine b.out.mono ?_;rintro e r ⟨rfl,a⟩;have f:=Y1 (Z03 d.out a);have k:=j.out.next a;obtain ⟨q,x0,x1,s,t⟩:=k;clear a b j d;have n:=ZdX x.t.kind ⟨x.t.text.toArray⟩ x.at_;go_wp2;refine bodyPost_ret (v:= .agg #[.int .i64 90,.int .i64 x.at_]) (by simp[results,Tryz.results38,go_sem,x0,x1,q]) rfl ?_;exact ⟨rfl,ZcI f.out (Nat.le_refl _) _ _⟩
theorem ZcM (s:List UInt8) (q:l.length<=1000000) (p:i<=2000000) (w:World) (h:Tks w w.heap.size A l):
 Y9 56 #[.slice A l.length c,.int .i64 (i:Int),.string ⟨s.toArray⟩] w (.bool (Prs.sign l i s)):=by
 have d:=Y1 (ZcY A c l i q p w h);have j:Hid (Prs.sign l i s=((Prs.look l i).t.text==s&&(decide ((Prs.look l i).t.kind=6)||decide ((Prs.look l i).t.kind=5)))):=Y1 rfl;clear h;obtain ⟨x,m⟩: ∃x,x=Prs.look l i:=⟨_,rfl⟩;rw[<-m] at d j;rw[j.out];clear m j;cases r: (x.t.text==s)
 {go_enter Tryz.func56,Tryz.ntmps56
  go_wp2_with fail
  refine d.out.mono ?_;rintro e n ⟨rfl,a⟩;have b:=Y1 (Z0h a (.cells #[.int .i64 x.t.kind,.string ⟨x.t.text.toArray⟩,.int .i64 x.at_] 46));clear a d;go_wp2;go_ret;exact ⟨rfl,b.out⟩}
 {by_cases f:x.t.kind=6
  {have o: (x.t.kind==6)=true:=by simpa using f
   have g:decide (x.t.kind=6)=true:=decide_eq_true f;rw[g];clear f g;go_enter Tryz.func56,Tryz.ntmps56
   go_wp2_with fail
   refine d.out.mono ?_;rintro e n ⟨rfl,a⟩;have b:=Y1 (Z0h a (.cells #[.int .i64 x.t.kind,.string ⟨x.t.text.toArray⟩,.int .i64 x.at_] 46));clear a d;go_wp2;go_ret;exact ⟨rfl,b.out⟩}
  {have o: (x.t.kind==6)=false:=by simpa using f
   have g:decide (x.t.kind=6)=false:=decide_eq_false f;have k: (x.t.kind==5)=decide (x.t.kind=5):=rfl;rw[g,Bool.false_or,Bool.true_and, <-k];clear f g k;generalize hk: (x.t.kind==5)=k5;go_enter Tryz.func56,Tryz.ntmps56
   go_wp2_with fail
   refine d.out.mono ?_;rintro e n ⟨rfl,a⟩;have b:=Y1 (Z0h a (.cells #[.int .i64 x.t.kind,.string ⟨x.t.text.toArray⟩,.int .i64 x.at_] 46));clear a d;go_wp2;go_ret;exact ⟨rfl,b.out⟩}}
end
end Go.Proofs.YtgndehppmaacaaaGreatDoor
namespace Go.Proofs.YtgndehppmaacaaaGreatDoor
section
open Go.RowKit
def placeG {α:Type} (p:α->Bool) (l:List α):Int:=match l.findIdx? p with
 | some i=>(i:Int)
 | none=> -1
section
variable {α : Type}
include α
theorem ZeD {p:α->Bool} {l:List α} {i:Nat} (a:i < l.length) (h:p (l[i]'a)=true) (b: ∀j (hj:j < l.length),j < i->p (l[j]'hj)=false):placeG p l=(i:Int):=by
 have:l.findIdx? p=some i:=List.findIdx?_eq_some_iff_getElem.2 ⟨a,h,fun j hj=>by rw[b j (by omega) hj]; simp⟩;unfold placeG; rw[this]
theorem ZdT {p:α->Bool} {l:List α} (b: ∀j (a:j < l.length),p (l[j]'a)=false):placeG p l= -1:=by
 have:l.findIdx? p=none:=List.findIdx?_eq_none_iff.2 (fun x hx=>by
  obtain ⟨j,a,rfl⟩:=List.getElem_of_mem hx;exact b j a)
 unfold placeG; rw[this]
theorem Zea (p:α->Bool) (l:List α):decide (0<=placeG p l)=l.any p:=by
 unfold placeG;cases h:l.findIdx? p with
 | some i=>
  obtain ⟨a,b,_⟩:=List.findIdx?_eq_some_iff_getElem.1 h;show decide ((0:Int)<=(i:Int))=_;rw[decide_eq_true (by omega)];exact (List.any_eq_true.2 ⟨_,List.getElem_mem a,b⟩).symm
 | none=>
  have:=List.findIdx?_eq_none_iff.1 h;show false=_;symm;rw[List.any_eq_false];intro x c; rw[this x c]; simp
theorem Zf1 (p:α->Bool) (l:List α): -1<=placeG p l:=by
 unfold placeG;cases l.findIdx? p with
 | some i=>show (-1:Int)<=(i:Int); omega
 | none=>show (-1:Int)<= -1; omega
theorem ZhH (p:α->Bool) (l:List α):l.any (fun x=> !p x)= !l.all p:=by
 induction l with
 | nil=>rfl
 | cons a l ih=>simp[ih]
end
end
section
open Go.RowKit Tms
open Shp (Sh)
open Pso (St)
open Prs (sign)
theorem Row.names {W:World} {B:Nat} {A:Option Addr} {c:Nat} {l:List (List UInt8)} (h:Row W B 9 1 cN A c l):l.length=0\/ ∃g,A=some ⟨g,0,none⟩/\B<=g/\g < W.heap.size/\ ∀i (hi:i < l.length),W.cell? ⟨g,i,none⟩=some (.string ⟨(l[i]'hi).toArray⟩):=by
 rcases h.form with ⟨_,a,_⟩ | ⟨g,rfl,_⟩
 {exact Or.inl a}
 {refine Or.inr ⟨g,rfl,(h.lt g rfl).1,(h.lt g rfl).2,fun i hi=> ?_⟩;rw[World.ownsRow.cellAt h i (by omega)];have:=ZkH ZpO hi (show 0 < 1 by omega);rw[Nat.mul_one,Nat.add_zero] at this;rw[this]; rfl}
theorem Zk2 (B:Nat) (A:Option Addr) (c:Nat) (l:List (List UInt8)) (s:List UInt8) (w:World) (z:l.length<=1000000) (h:Row w B 9 1 cN A c l):
 Y9 122 #[.slice A l.length c,.string ⟨s.toArray⟩] w (.int .i64 (placeG (fun x=>s==x) l)):=by
 have t:=Y1 h.names;clear h;go_enter Tryz.func122,Tryz.ntmps122
 go_wp2_with fail
 go_loopw [8] (fun ii wr=> ∃i:Nat,ii= .int .i64 i/\i<=l.length/\Hid (∀j (h:j < l.length),j < i->(s==(l[j]'h))=false)/\Below w.heap.size w wr) (fun i _=>l.length - (intOf i).toNat)
 case atStart=>exact ⟨0,rfl,Nat.zero_le _,Y1 (fun j _ hj=>absurd hj (by omega)),Below.refl _ _⟩
 case round=>
  obtain ⟨i,rfl,y,e,b⟩:=hrel;by_cases a:i < l.length
  {rcases t.out with v | ⟨g,rfl,_,q,o⟩
   {omega}
   {obtain ⟨x,m⟩: ∃x,x=l[i]'a:=⟨_,rfl⟩;have p0:=(b.cell (p:=⟨g,i,none⟩) q).trans (o i a);have u:g < wr.heap.size:=Nat.lt_of_lt_of_le q b.size;rw[<-m] at p0;have n:=Y1 m;clear m o;have k: (i:Int) < (l.length:Int):=by omega
    cases d: (s==x) with
    | true=>
     have f:Hid (placeG (fun x=>s==x) l=(i:Int)):=Y1 (ZeD a (by show (s==_)=true; rw[<-n.out]; exact d) (fun j hj hji=>e.out j hj hji));go_wp2;go_ret;exact ⟨Z17 f.out.symm,b⟩
    | false=>
     have r:=Y1 d;go_wp2
     go_roundw
     case rel=>exact ⟨i+1,by go_num,by omega,Y1 (fun j hj hji=>by
      rcases Nat.lt_succ_iff_lt_or_eq.1 hji with h | rfl
      {exact e.out j hj h}
      · rw[<-n.out]; exact r.out),b⟩
     case measure=>simp[intOf]; omega}}
  {have k: ¬(i:Int) < (l.length:Int):=by omega
   have f:Hid (placeG (fun x=>s==x) l= -1):=Y1 (ZdT (fun j hj=>e.out j hj (by omega)));go_wp2;go_ret;exact ⟨Z17 f.out.symm,b⟩}
theorem Zj6 (l:List (List UInt8)) (s:List UInt8):l.any (fun x=>s==x)=l.contains s:=by
 induction l with
 | nil=>rfl
 | cons a l ih=>rw[List.any_cons,List.contains_cons,ih]
theorem Zfo (B:Nat) (A:Option Addr) (c:Nat) (l:List (List UInt8)) (s:List UInt8) (w:World) (f:l.length<=1000000) (h:Row w B 9 1 cN A c l):
 Y9 87 #[.slice A l.length c,.string ⟨s.toArray⟩] w (.bool (l.contains s)):=by
 have b:=Y1 ((Zea (fun x=>s==x) l).trans (Zj6 l s));have a:=Zk2 B A c l s w f h;generalize placeG (fun x=>s==x) l=k at b a;clear h;go_enter Tryz.func87,Tryz.ntmps87
 go_wp2_with fail
 refine a.mono ?_;rintro e w' ⟨rfl,d⟩;go_wp2;go_ret;exact ⟨Z0p b.out,d⟩
theorem Zf9: (Tryz.prog.info? 9).map (fun i=>(i.zero,i.size,i.bytes))=some (some (.string ByteArray.empty),1,16):=by kernel_rfl
theorem ZcW {P:Program} {e:TypeId} {z:Value} {size bytes:Nat} (h: (P.info? e).map (fun i=>(i.zero,i.size,i.bytes))=some (some z,size,bytes)): ∃i,P.info? e=some i/\i.zero=some z/\i.size=size/\i.bytes=bytes:=by
 cases a:P.info? e with
 | none=>rw[a] at h; cases h
 | some i=>
  rw[a] at h;simp only[Option.map_some,Option.some.injEq,Prod.mk.injEq] at h;exact ⟨i,rfl,h.1,h.2.1,h.2.2⟩
theorem ZgY (W:World) (s:List UInt8):Row (W.alloc (.cells #[.string ⟨s.toArray⟩] 9)) W.heap.size 9 1 cN (some ⟨W.heap.size,0,none⟩) 1 [s]:=by
 have:=World.ownsRow_lit (base:=W.heap.size) (e:=9) (size:=1) W #[.string ⟨s.toArray⟩] 1 (Nat.le_refl _) (by decide) rfl;exact this
theorem Zg9 {B:Nat} {a W:World} (h:Below B a W) {b:Nat} (c:B<=b) (x y z:Value):Below B a (((W.setCell ⟨b,0,none⟩ x).setCell ⟨b,1,none⟩ y).setCell ⟨b,2,none⟩ z):=
 ((h.setCell (p:=⟨b,0,none⟩) c _).setCell (p:=⟨b,1,none⟩) c _).setCell (p:=⟨b,2,none⟩) c _
theorem Zdu (bp:Nat) (A:Option Addr) (c:Nat) (l:List Tk) (σ:St) (G:l.length<=1000000) (z:σ.1<=l.length) (w:World) (h:PAt w bp A c l σ):
 Y9 28 #[.pointer (some ⟨bp,0,none⟩)] w (.agg #[.int .i64 (Prs.look l σ.1).t.kind,.string ⟨(Prs.look l σ.1).t.text.toArray⟩,.int .i64 (Prs.look l σ.1).at_]):=by
 obtain ⟨i,e,a⟩:=σ;simp only at z ⊢;obtain ⟨B,C,c1,c2,c3,p,s,t,_⟩:=h;simp only at c1;have E:=p 0;have F:=p 1;clear c2 c3 p t;have o:=Y1 (Z01 w (.cells Yd 46));by_cases b:i < l.length
 {have j: (i:Int) < (l.length:Int):=by omega
  rcases s with h | ⟨g,off,rfl,y,f⟩
  {omega}
  {obtain ⟨x,d⟩: ∃x,x=l[i]'b:=⟨_,rfl⟩;obtain ⟨k,t1,n⟩:=f i b;rw[Prs.look_in b, <-d];rw[<-d] at k t1 n;have r:g < w.heap.size:=by omega
   clear f d;go_enter Tryz.func28,Tryz.ntmps28
   go_wp2_with fail
   go_quiet (fail)
   go_wp2_with fail
   go_region
   go_wp2;refine bodyPost_ret (v:= .agg #[.int .i64 x.t.kind,.string ⟨x.t.text.toArray⟩,.int .i64 x.at_]) (by simp[results,Tryz.results28,go_sem]) rfl ?_;exact ⟨rfl,Zg9 (Z0Q o.out _) (Nat.le_refl _) _ _ _⟩}}
 {have j: ¬(i:Int) < (l.length:Int):=by omega
  by_cases q:l.length=0
  {have u: ¬(0:Int) < (l.length:Int):=by omega
   rw[Prs.look_nil i q];clear q;go_enter Tryz.func28,Tryz.ntmps28
   go_wp2_with fail
   go_quiet (fail)
   go_wp2;refine bodyPost_ret (v:= .agg #[.int .i64 0,.string ⟨#[]⟩,.int .i64 0]) (by simp[results,Tryz.results28,go_sem]) rfl ?_;exact ⟨rfl,Z0h (Zg9 (Z0Q o.out _) (Nat.le_refl _) _ _ _) _⟩}
  {have u: (0:Int) < (l.length:Int):=by omega
   rcases s with h | ⟨g,off,rfl,y,f⟩
   {omega}
   {obtain ⟨x,d⟩: ∃x,x=l[l.length - 1]'(by omega):=⟨_,rfl⟩;obtain ⟨k,t1,n⟩:=f (l.length - 1) (by omega);rw[Prs.look_out b (by omega), <-d];rw[<-d] at k t1 n;obtain ⟨m,H⟩: ∃m,m+1=l.length:=⟨l.length - 1,by omega⟩;rw[show l.length - 1=m from by omega] at k t1 n;have D: (l.length:Int) - 1=(m:Int):=by omega
    have r:g < w.heap.size:=by omega
    clear f d q;go_enter Tryz.func28,Tryz.ntmps28
    go_wp2_with fail
    go_quiet (fail)
    go_wp2;refine bodyPost_ret (v:= .agg #[.int .i64 0,.string ⟨#[]⟩,.int .i64 x.at_]) (by simp[results,Tryz.results28,go_sem]) rfl ?_;exact ⟨rfl,Z0h (Zg9 (Z0Q o.out _) (Nat.le_refl _) _ _ _) _⟩}}}
section
variable (a : Int) (s : ByteArray) (b : Int) (W : World)
include a s b W
theorem ZkI: (Instr.field 46 (.agg #[.int .i64 a,.string s,.int .i64 b]) 0).run Tryz.prog W= .ok (.int .i64 a) W:=by
 simp[go_sem,Instr.field,asAgg]
theorem Zp9: (Instr.field 46 (.agg #[.int .i64 a,.string s,.int .i64 b]) 1).run Tryz.prog W= .ok (.string s) W:=by
 simp[go_sem,Instr.field,asAgg]
end
def signs (l:List Tk) (i:Nat) (ws:List (List UInt8)):Bool:=(decide ((Prs.look l i).t.kind=6)||decide ((Prs.look l i).t.kind=5))&&ws.contains (Prs.look l i).t.text
theorem Zga (l:List Tk) (i:Nat) (s:List UInt8):signs l i [s]=sign l i s:=by
 unfold signs sign;rw[Bool.and_comm,List.contains_cons,List.contains_nil,Bool.or_false]
section
variable (bp : Nat) (A : Option Addr) (c : Nat) (l : List Tk) (σ : St)
include bp A c l σ
theorem Zgb (B:Nat) (p:Option Addr) (r:Nat) (g:List (List UInt8)) (G:l.length<=1000000) (F:σ.1<=l.length) (t:g.length<=1000000) (w:World) (h:PAt w bp A c l σ) (y:Row w B 9 1 cN p r g):
 Y9 45 #[.pointer (some ⟨bp,0,none⟩),.slice p g.length r] w (.bool (signs l σ.1 g)):=by
 have j:=Y1 (Zdu bp A c l σ G F w h);have s:Hid (signs l σ.1 g=((decide ((Prs.look l σ.1).t.kind=6)||decide ((Prs.look l σ.1).t.kind=5))&&g.contains (Prs.look l σ.1).t.text)):=Y1 rfl;have u:=Y1 y;have q:=Y1 (fun (w:World) (h:Row w B 9 1 cN p r g)=>Zfo B p r g (Prs.look l σ.1).t.text w t h);clear h y;obtain ⟨x,z⟩: ∃x,x=Prs.look l σ.1:=⟨_,rfl⟩;rw[<-z] at j s q;rw[s.out];obtain ⟨b,v⟩: ∃b,b=g.contains x.t.text:=⟨_,rfl⟩;rw[<-v] at q ⊢;clear z s v;by_cases m:x.t.kind=6
 {have E: (x.t.kind==6)=true:=by simpa using m
  have o:decide (x.t.kind=6)=true:=decide_eq_true m;rw[o,Bool.true_or,Bool.true_and];clear m o;go_enter Tryz.func45,Tryz.ntmps45
  go_wp2_with fail
  refine j.out.mono ?_;rintro e C ⟨rfl,d⟩;have a:=Y1 (Z0h d (.cells #[.int .i64 x.t.kind,.string ⟨x.t.text.toArray⟩,.int .i64 x.at_] 46));clear d j
  go_wp2_with fail
  refine (q.out _ (u.out.below a.out)).mono ?_;rintro e H ⟨rfl,f⟩;have i:=Y1 (Z03 a.out f);clear f a;go_wp2;go_ret;exact ⟨rfl,i.out⟩}
 {have E: (x.t.kind==6)=false:=by simpa using m
  have o:decide (x.t.kind=6)=false:=decide_eq_false m;rw[o,Bool.false_or];clear m o;by_cases k:x.t.kind=5
  {have D: (x.t.kind==5)=true:=by simpa using k
   have n:decide (x.t.kind=5)=true:=decide_eq_true k;rw[n,Bool.true_and];clear k n;go_enter Tryz.func45,Tryz.ntmps45
   go_wp2_with fail
   refine j.out.mono ?_;rintro e C ⟨rfl,d⟩;have a:=Y1 (Z0h d (.cells #[.int .i64 x.t.kind,.string ⟨x.t.text.toArray⟩,.int .i64 x.at_] 46));clear d j
   go_wp2_with fail
   refine (q.out _ (u.out.below a.out)).mono ?_;rintro e H ⟨rfl,f⟩;have i:=Y1 (Z03 a.out f);clear f a;go_wp2;go_ret;exact ⟨rfl,i.out⟩}
  {have D: (x.t.kind==5)=false:=by simpa using k
   have n:decide (x.t.kind=5)=false:=decide_eq_false k;rw[n,Bool.false_and];clear k n;go_enter Tryz.func45,Tryz.ntmps45
   go_wp2_with fail
   refine j.out.mono ?_;rintro e C ⟨rfl,d⟩;have a:=Y1 (Z0h d (.cells #[.int .i64 x.t.kind,.string ⟨x.t.text.toArray⟩,.int .i64 x.at_] 46));clear d j;go_wp2;go_ret;exact ⟨rfl,a.out⟩}}
theorem Zli (s:List UInt8) (g:l.length<=1000000) (f:σ.1<=l.length) (w:World) (h:PAt w bp A c l σ) {b:Nat} (a:b=w.heap.size:=by first | rfl | simp | omega):
 Calls Tryz.prog 45 #[.pointer (some ⟨bp,0,none⟩),.slice (some ⟨b,0,none⟩) 1 1] (w.alloc (.cells #[.string ⟨s.toArray⟩] 9)) fun e w'=>e= .returned (.bool (Prs.sign l σ.1 s))/\Below w.heap.size w w':=by
 subst a;have d:=Zgb bp A c l σ w.heap.size (some ⟨w.heap.size,0,none⟩) 1 [s] g f (by simp) _ (h.alloc (.cells #[.string ⟨s.toArray⟩] 9)) (ZgY w s);rw[Zga] at d;refine d.mono ?_;rintro e w' ⟨rfl,a⟩;exact ⟨rfl,Z03 (Z01 w _) a⟩
theorem Zms (B:Nat) (k:Option Addr) (n:Nat) (g:List (List UInt8)) (s:l.length<=1000000) (p:σ.1<=l.length) (o:g.length<=1000000) (w:World) (h:PAt w bp A c l σ) (q:Row w B 9 1 cN k n g):
 Calls Tryz.prog 43 #[.pointer (some ⟨bp,0,none⟩),.slice k g.length n] w fun e w'=>e= .returned (.bool (signs l σ.1 g))/\PAt w' bp A c l (if signs l σ.1 g=true then (σ.1+1,σ.2) else σ)/\UpT [bp] w w':=by
 obtain ⟨i,f⟩:=σ;simp only at p ⊢;have j:=Y1 (Zgb bp A c l (i,f) B k n g s p o w h q);have m:=Y1 h;clear h q;cases r:signs l i g
 {simp only[r] at j;go_enter Tryz.func43,Tryz.ntmps43
  go_wp2_with fail
  refine j.out.mono ?_;rintro e u ⟨rfl,a⟩;have b:=Y1 a;clear a j;go_wp2;go_ret;exact ⟨rfl,m.out.below b.out,ZcF b.out⟩}
 {simp only[r] at j;go_enter Tryz.func43,Tryz.ntmps43
  go_wp2_with fail
  refine j.out.mono ?_;rintro e u ⟨rfl,a⟩;have b:=Y1 a;have d:=Y1 (m.out.below a);have t:=d.out.lt;have c1:=d.out.c1;simp only at c1;have v:=d.out.fz 1;clear a j m;go_wp2;go_ret;exact ⟨rfl,d.out.turn1 _,(ZcF b.out).set _ (Or.inr (by simp)) _⟩}
theorem ZeJ (s:List UInt8) (f:l.length<=1000000) (d:σ.1<=l.length) (w:World) (h:PAt w bp A c l σ) {b:Nat} (hb:b=w.heap.size:=by first | rfl | simp | omega):
 Calls Tryz.prog 43 #[.pointer (some ⟨bp,0,none⟩),.slice (some ⟨b,0,none⟩) 1 1] (w.alloc (.cells #[.string ⟨s.toArray⟩] 9)) fun e w'=>e= .returned (.bool (Prs.sign l σ.1 s))/\PAt w' bp A c l (if Prs.sign l σ.1 s=true then (σ.1+1,σ.2) else σ)/\UpT [bp] w w':=by
 subst hb;have a:=Zms bp A c l σ w.heap.size (some ⟨w.heap.size,0,none⟩) 1 [s] f d (by simp) _ (h.alloc (.cells #[.string ⟨s.toArray⟩] 9)) (ZgY w s);rw[Zga] at a;refine a.mono ?_;rintro e w' ⟨rfl,g,i⟩;exact ⟨rfl,g,(ZcF (F:= [bp]) (Z01 w _)).trans i⟩
theorem Zf2 (k a:Int) (s:l.length<=1000000) (w:World) (h:PAt w bp A c l σ):
 Calls Tryz.prog 31 #[.pointer (some ⟨bp,0,none⟩),.int .i64 k,.int .i64 a] w fun e w'=>e= .returned (.tuple #[])/\PAt w' bp A c l (Pso.fail l σ k a)/\UpT [bp] w w':=by
 obtain ⟨i,f,b⟩:=σ;have j:=Y1 h;have g:Hid (Pso.fail l (i,(f,b)) k a=(l.length,if f=0 then (k,a) else (f,b))):=Y1 rfl;rw[g.out];have n:=h.lt;have o:=h.c0;have c1:=h.c1;have c2:=h.c2;have c3:=h.c3;have p:=h.fz 1;have q:=h.fz 2;have r:=h.fz 3;simp only at c1 c2 c3;clear h g;by_cases d:f=0
 {subst d;rw[if_pos rfl];have m: ((0:Int)==0)=true:=rfl;go_enter Tryz.func31,Tryz.ntmps31;go_wp2
  go_end0
  exact ⟨rfl,(j.out.turn23 k a).turn1 l.length,(((UpT.refl _ _).set _ (Or.inr (by simp)) _).set _ (Or.inr (by simp)) _).set _ (Or.inr (by simp)) _⟩}
 {rw[if_neg d];have m: (f==0)=false:=by simpa using d
  go_enter Tryz.func31,Tryz.ntmps31;go_wp2
  go_end0
  exact ⟨rfl,j.out.turn1 l.length,(UpT.refl _ _).set _ (Or.inr (by simp)) _⟩}
theorem Zev (m:l.length<=1000000) (q:σ.1<=l.length) (w:World) (h:PAt w bp A c l σ):
 Calls Tryz.prog 120 #[.pointer (some ⟨bp,0,none⟩)] w fun e w'=>e= .returned (.tuple #[])/\PAt w' bp A c l (Pso.misfit l σ)/\UpT [bp] w w':=by
 have k:Hid (Pso.misfit l σ=Pso.fail l σ 90 (Prs.look l σ.1).at_):=Y1 rfl;rw[k.out];have g:=Y1 (Zdu bp A c l σ m q w h);obtain ⟨x,n⟩: ∃x,x=Prs.look l σ.1:=⟨_,rfl⟩;rw[<-n] at g ⊢;have o:=Y1 h;have p:=ZdX x.t.kind ⟨x.t.text.toArray⟩ x.at_;clear h k n;go_enter Tryz.func120,Tryz.ntmps120
 go_wp2_with fail
 refine g.out.mono ?_;rintro e r ⟨rfl,b⟩;have a:=Y1 b;clear b g
 go_wp2_with fail
 refine (Zf2 bp A c l σ 90 x.at_ m r (o.out.below a.out)).mono ?_;rintro e s ⟨rfl,d,f⟩;have i:=Y1 d;have j:=Y1 f;clear d f;go_wp2
 go_end0
 exact ⟨rfl,i.out,(ZcF a.out).trans j.out⟩
end
end
end Go.Proofs.YtgndehppmaacaaaGreatDoor
namespace Sem
section
def cut (c:UInt8):List UInt8->List UInt8×List UInt8×Bool
 | []=>([],[],false)
 | d::r=>if d=c then ([],r,true) else (d::(cut c r).1,(cut c r).2.1,(cut c r).2.2)
theorem Zj7 {c:UInt8}: ∀ {l:List UInt8},(∀d∈l,d≠c)->cut c l=(l,[],false)
 | [],_=>rfl
 | d::r,h=>by rw[cut,if_neg (h d (by simp)),Zj7 (fun e he=>h e (by simp[he]))]
theorem Zhb {c:UInt8}: ∀ {p:List UInt8} (q:List UInt8),(∀d∈p,d≠c)->cut c (p++c::q)=(p,q,true)
 | [],q,_=>by rw[List.nil_append,cut,if_pos rfl]
 | d::r,q,h=>by rw[List.cons_append,cut,if_neg (h d (by simp)),Zhb q (fun e he=>h e (by simp[he]))]
theorem Zmt (l:List UInt8):parts l=if (cut 46 l).2.2=true then (cut 46 l).1::parts (cut 46 l).2.1 else [l]:=by
 induction l with
 | nil=>rfl
 | cons d r ih=>
  by_cases h:d=46
  {subst h; rw[Z14,cut,if_pos rfl]; rfl}
  {rw[cut,if_neg h];simp only;rcases a:parts r with _ | ⟨p,ps⟩
   {exact absurd a (Z1T r)}
   {rw[Z0P h a];rw[a] at ih;by_cases b: (cut 46 r).2.2=true
    {rw[if_pos b] at ih ⊢;simp only[List.cons.injEq] at ih;rw[ih.1,ih.2]}
    {rw[if_neg b] at ih ⊢;simp only[List.cons.injEq] at ih;rw[ih.1,ih.2]}}}
theorem ZhI (c:UInt8): ∀l:List UInt8,(cut c l).1.length<=l.length/\(cut c l).2.1.length<=l.length/\((cut c l).2.2=true->(cut c l).2.1.length < l.length)
 | []=>by simp[cut]
 | d::r=>by
  obtain ⟨b,e,a⟩:=ZhI c r;rw[cut];split
  {simp}
  {simp only[List.length_cons];exact ⟨by omega,by omega,fun h=>by have:=a h; omega⟩}
end
end Sem
namespace Go.Proofs.YtgndehppmaacaaaGreatDoor
section
open Go.RowKit
theorem ZhJ (c:UInt8): ∀l:List UInt8,Lib.cut l [c]=Sem.cut c l
 | []=>by simp[Lib.cut,Lib.index,Sem.cut]
 | d::r=>by
  have a:=ZhJ c r;have i:=Lib.indexByte_ge r c;unfold Lib.cut at a ⊢;rw[Lib.index_one] at a ⊢;rw[Sem.cut];unfold Lib.indexByte;by_cases h:d=c
  {subst h;simp}
  {have g: (d==c)=false:=by simpa using h
   rw[g,if_neg h];simp only[Bool.false_eq_true,if_false];by_cases b:Lib.indexByte r c= -1
   {rw[b] at a ⊢;simp at a ⊢;rw[<-a];simp}
   {have f: (Lib.indexByte r c== -1)=false:=by simpa using b
    rw[f];simp only[Bool.false_eq_true,if_false];rw[if_pos (by omega)] at a;rw[if_pos (by omega), <-a];have e: (Lib.indexByte r c+1).toNat=(Lib.indexByte r c).toNat+1:=by omega
    rw[e];simp}}
def cutR (c:UInt8) (l:List UInt8):Value:= .tuple #[.string ⟨(Sem.cut c l).1.toArray⟩,.string ⟨(Sem.cut c l).2.1.toArray⟩,.bool (Sem.cut c l).2.2]
section
variable (s : ByteArray) (c : UInt8) (hs : s.size <= 4611686018427387904) (w : World)
include s c hs w
theorem Zj8:
 Y9 185 #[.string s,.string ⟨#[c]⟩] w (cutR c s.data.toList):=by
 have j: (⟨#[c]⟩:ByteArray).size=1:=rfl;have h: ∀w,Calls Tryz.prog 202 #[.string s,.string ⟨#[c]⟩] w fun e w'=>e= .returned (.int .i64 (Lib.indexB s ⟨#[c]⟩))/\w'=w:=fun w=>by
  have:=Any.stringslite_Index_one Tryz.lays219 s c w;rw[<-Lib.index_one] at this;exact this
 have k:=ZhJ c s.data.toList;have d:Hid (cutR c s.data.toList= .tuple #[.string ⟨(Lib.cut s.data.toList (⟨#[c]⟩:ByteArray).data.toList).1.toArray⟩,.string ⟨(Lib.cut s.data.toList (⟨#[c]⟩:ByteArray).data.toList).2.1.toArray⟩,.bool (Lib.cut s.data.toList (⟨#[c]⟩:ByteArray).data.toList).2.2]):=Y1 (by
  show _=Value.tuple #[.string ⟨(Lib.cut s.data.toList [c]).1.toArray⟩,.string ⟨(Lib.cut s.data.toList [c]).2.1.toArray⟩,.bool (Lib.cut s.data.toList [c]).2.2];rw[k]; rfl)
 clear k;rcases Lib.indexB_cases s ⟨#[c]⟩ with a | ⟨i,a,b⟩
 {obtain ⟨f,e2,g⟩:=Lib.cutB_miss s ⟨#[c]⟩ a;rw[f,e2,g] at d;rw[a] at h;clear a f e2 g;go_enter Tryz.func185,Tryz.ntmps185
  go_wp2_with (go_at_call 202; refine (h _).mono ?_; rintro e w' ⟨rfl,rfl⟩)
  go_ret3
  exact ⟨by rw[d.out]; rfl,Below.refl _ _⟩}
 {obtain ⟨f,e2,g⟩:=Lib.cutB_hit s ⟨#[c]⟩ i a;rw[f,e2,g] at d;rw[a] at h;rw[j] at b d;clear a f e2 g;have c1: (0:Int)<= ↑i:=by omega
  have c2: (↑i:Int)<= ↑s.size:=by omega
  have c3: (0:Int)<= ↑i+1:=by omega
  have c4: (↑i+1:Int)<= ↑s.size:=by omega
  have l:IntKind.i64.wrap ((i:Int)+1)=(i:Int)+1:=IntWalk.i64_in _ (by omega);have mixed:Tryz.prog.follows .mixedOrders=true:=by kernel_rfl
  go_enter Tryz.func185,Tryz.ntmps185
  go_wp2_with (go_at_call 202; refine (h _).mono ?_; rintro e w' ⟨rfl,rfl⟩)
  go_region
  go_wp2
  go_ret3
  exact ⟨by rw[d.out]; rfl,Z0Q Y2 _⟩}
theorem Zj9:
 Y9 157 #[.string s,.string ⟨#[c]⟩] w (cutR c s.data.toList):=by
 have a:=Zj8 s c hs;unfold cutR at a ⊢;go_enter Tryz.func157,Tryz.ntmps157
 go_wp2_with (go_at_call 185; refine (a _).mono ?_; rintro e w' ⟨rfl,b⟩)
 go_ret3
 exact ⟨rfl,by assumption⟩
end
end
end Go.Proofs.YtgndehppmaacaaaGreatDoor
