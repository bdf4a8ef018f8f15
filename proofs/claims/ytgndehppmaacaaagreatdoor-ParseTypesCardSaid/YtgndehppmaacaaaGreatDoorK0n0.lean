/- What the proofs of ParseTypes want, part 0. -/
import Derived.Test.YtgndehppmaacaaaGreatDoorRows
import Derived.WalkKit
import Derived.Lib.Hide
import Derived.Lib.Strings
import Derived.Lib.Builder
import Derived.BigQuiet
import Derived.Laws.Cover1
import Derived.SliceStrings
import Derived.SizedLaws
import Derived.OpenShut
import Derived.Deep.AppendLies
import Derived.StillTailTactics
set_option linter.unusedVariables false
set_option linter.unusedSimpArgs false
set_option linter.unusedSectionVars false
set_option maxRecDepth 100000
set_option maxHeartbeats 16000000
namespace Utf
section
def pt (p:Int):Bool:=decide (0<=p)&&decide (p<=1114111)&&(decide (p < 55296)||decide (57343 < p))
theorem Z3J (p:Int):pt p=true ↔ 0<=p/\p<=1114111/\(p < 55296\/57343 < p):=by
 simp only[pt,Bool.and_eq_true,Bool.or_eq_true,decide_eq_true_eq];exact ⟨fun ⟨⟨a,b⟩,c⟩=>⟨a,b,c⟩,fun ⟨a,b,c⟩=>⟨⟨a,b⟩,c⟩⟩
def byte (x:Int):UInt8:=UInt8.ofNat (x % 256).toNat
theorem Z0g (x:Int): ((byte x).toNat:Int)=x % 256:=by
 have a: (UInt8.ofNat (x % 256).toNat).toNat=(x % 256).toNat % 256:=by simp
 unfold byte;rw[a];omega
theorem Z1b {x:Int} {b:UInt8} (h:x=b.toNat):byte x=b:=by
 apply UInt8.toNat_inj.1;have a:=Z0g x;have c:=b.toNat_lt;omega
def bytes (p:Int):List UInt8:=
 if p < 128 then [byte p]
 else if p < 2048 then [byte (192+p / 64),byte (128+p % 64)]
 else if p < 65536 then [byte (224+p / 4096),byte (128+p / 64 % 64),byte (128+p % 64)]
 else [byte (240+p / 262144),byte (128+p / 4096 % 64),byte (128+p / 64 % 64),byte (128+p % 64)]
def width (p:Int):Nat:=if p < 128 then 1 else if p < 2048 then 2 else if p < 65536 then 3 else 4
theorem Z0n (p:Int): (bytes p).length=width p:=by
 unfold bytes width; repeat (split <;> try rfl)
theorem Z1B (p:Int):1<=width p/\width p<=4:=by
 unfold width; repeat (split <;> try omega)
def lead (a:Nat):Nat×Int:=
 if 240<=a then (4,(a:Int) - 240) else if 224<=a then (3,(a:Int) - 224) else if 192<=a then (2,(a:Int) - 192) else (1,a)
theorem Zba (a:Nat):1<=(lead a).1/\(lead a).1<=4:=by
 unfold lead; repeat (split <;> try (simp))
def val (p:Int):List UInt8->Int
 | []=>p
 | b::r=>val (p * 64+b.toNat - 128) r
theorem Zny (p:Int) (l:List UInt8) (b:UInt8):val p (l++ [b])=val p l * 64+b.toNat - 128:=by
 induction l generalizing p with
 | nil=>rfl
 | cons a r ih=>exact ih _
theorem ZfY {p:Int} {l:List UInt8} (d:0<=p) (e:p<=255) (a:l.length<=2): -100000000<=val p l/\val p l<=100000000:=by
 match l,a with
 | [],_=>simp only[val]; omega
 | [b],_=>have:=b.toNat_lt; simp only[val]; omega
 | [b,c],_=>have:=b.toNat_lt; have:=c.toNat_lt; simp only[val]; omega
theorem Z4K (a:Nat): (a < 192/\lead a=(1,(a:Int)))\/(192<=a/\a < 224/\lead a=(2,(a:Int) - 192))\/(224<=a/\a < 240/\lead a=(3,(a:Int) - 224))\/(240<=a/\lead a=(4,(a:Int) - 240)):=by
 unfold lead;by_cases b:240<=a
 {exact Or.inr (Or.inr (Or.inr ⟨b,by rw[if_pos b]⟩))}
 {by_cases c:224<=a
  {exact Or.inr (Or.inr (Or.inl ⟨c,by omega,by rw[if_neg b,if_pos c]⟩))}
  {by_cases d:192<=a
   {exact Or.inr (Or.inl ⟨d,by omega,by rw[if_neg b,if_neg c,if_pos d]⟩)}
   {exact Or.inl ⟨by omega,by rw[if_neg b,if_neg c,if_neg d]⟩}}}
def first:List UInt8->Int×Nat
 | []=>(0,0)
 | a::r=>
  if (lead a.toNat).1<=r.length+1/\pt (val (lead a.toNat).2 (r.take ((lead a.toNat).1 - 1)))=true/\
   bytes (val (lead a.toNat).2 (r.take ((lead a.toNat).1 - 1)))=(a::r).take (lead a.toNat).1
  then (val (lead a.toNat).2 (r.take ((lead a.toNat).1 - 1)),(lead a.toNat).1) else (0,0)
section
variable (p : Int) (h : pt p = true)
include p h
theorem Z3K: ∃a r,bytes p=a::r/\(lead a.toNat).1=r.length+1/\val (lead a.toNat).2 r=p:=by
 rw[Z3J] at h;obtain ⟨e,f,_⟩:=h;unfold bytes;split
 {refine ⟨_,_,rfl, ?_⟩;have b:=Z0g p;have: (lead (byte p).toNat)=(1,((byte p).toNat:Int)):=by
   unfold lead; rw[if_neg (by omega),if_neg (by omega),if_neg (by omega)]
  rw[this];exact ⟨rfl,by simp only[val]; omega⟩}
 {split
  {refine ⟨_,_,rfl, ?_⟩;have b:=Z0g (192+p / 64);have c:=Z0g (128+p % 64);have: (lead (byte (192+p / 64)).toNat)=(2,((byte (192+p / 64)).toNat:Int) - 192):=by
    unfold lead; rw[if_neg (by omega),if_neg (by omega),if_pos (by omega)]
   rw[this];exact ⟨rfl,by simp only[val]; omega⟩}
  {split
   {refine ⟨_,_,rfl, ?_⟩;have b:=Z0g (224+p / 4096);have c:=Z0g (128+p / 64 % 64);have d:=Z0g (128+p % 64);have: (lead (byte (224+p / 4096)).toNat)=(3,((byte (224+p / 4096)).toNat:Int) - 224):=by
     unfold lead; rw[if_neg (by omega),if_pos (by omega)]
    rw[this];exact ⟨rfl,by simp only[val]; omega⟩}
   {refine ⟨_,_,rfl, ?_⟩;have b:=Z0g (240+p / 262144);have c:=Z0g (128+p / 4096 % 64);have d:=Z0g (128+p / 64 % 64);have g:=Z0g (128+p % 64);have: (lead (byte (240+p / 262144)).toNat)=(4,((byte (240+p / 262144)).toNat:Int) - 240):=by
     unfold lead; rw[if_pos (by omega)]
    rw[this];exact ⟨rfl,by simp only[val]; omega⟩}}}
theorem Z0V: ∃a r,bytes p=a::r/\(a.toNat < 128\/194<=a.toNat)/\a.toNat<=244/\ ∀b∈r,128<=b.toNat/\b.toNat < 192:=by
 rw[Z3J] at h;obtain ⟨d,e,_⟩:=h;have j:=Z0g p;have f:=Z0g (192+p / 64);have g:=Z0g (224+p / 4096);have i:=Z0g (240+p / 262144);have c:=Z0g (128+p % 64);have k:=Z0g (128+p / 64 % 64);have l:=Z0g (128+p / 4096 % 64);unfold bytes;split
 {exact ⟨_,_,rfl,by omega,by omega,by simp⟩}
 {split
  {exact ⟨_,_,rfl,by omega,by omega,by intro b c; simp at c; subst c; omega⟩}
  {split
   {exact ⟨_,_,rfl,by omega,by omega,by intro b c; simp at c; rcases c with rfl | rfl <;> omega⟩}
   {exact ⟨_,_,rfl,by omega,by omega,by intro b c; simp at c; rcases c with rfl | rfl | rfl <;> omega⟩}}}
theorem Z0N (l:List UInt8):first (bytes p++l)=(p,width p):=by
 obtain ⟨a,r,c,b,g⟩:=Z3K p h;have d:=Z0n p;rw[c] at d ⊢;rw[List.cons_append,first];have f: (r++l).take ((lead a.toNat).1 - 1)=r:=by rw[b,Nat.add_sub_cancel,List.take_left]
 have e:bytes p=(a::(r++l)).take (lead a.toNat).1:=by
  rw[c,b, <-List.cons_append,show r.length+1=(a::r).length from rfl,List.take_left]
 rw[f,g,if_pos ⟨by rw[b,List.length_append]; omega,h,e⟩,b, <-d];rfl
end
section
variable {l : List UInt8}
include l
theorem Z0O {p:Int} {n:Nat} (h:first l=(p,n)) (i:n≠0):pt p=true/\n=width p/\l=bytes p++l.drop n/\n<=l.length:=by
 match l,h with
 | [],h=>simp[first] at h; omega
 | a::r,h=>
  rw[first] at h;split at h
  {rename_i f
   obtain ⟨c,h2,b⟩:=f;simp only[Prod.mk.injEq] at h;obtain ⟨g,d⟩:=h;rw[g] at h2 b;have e:=Z0n p;rw[b,List.length_take,d] at e;rw[d] at c b;refine ⟨h2,by rw[<-e,List.length_cons]; omega, ?_,by rw[List.length_cons]; exact c⟩;rw[b,List.take_append_drop]}
  {simp at h; omega}
theorem Z1K (h: (first l).2=0):first l=(0,0):=by
 match l,h with
 | [],_=>rfl
 | a::r,h=>
  rw[first] at h ⊢;split at h
  {have:=Zba a.toNat; simp at h; omega}
  {rename_i b; rw[if_neg b]}
theorem Zbb (h: ∀p m,pt p=true->l≠bytes p++m):first l=(0,0):=by
 rcases a:first l with ⟨p,n⟩
 by_cases b:n=0
 {have:=Z1K (l:=l) (by rw[a]; exact b);rw[<-a,this]}
 {obtain ⟨c,_,h2,_⟩:=Z0O a b;exact absurd h2 (h p _ c)}
end
def plead (a:Nat):Int×Nat:=
 if a < 128 then ((a:Int),1) else if a < 192 then (0,0) else if a < 224 then ((a:Int) - 192,2) else if a < 240 then ((a:Int) - 224,3)
 else if a < 248 then ((a:Int) - 240,4) else (0,0)
theorem Z2J (a:Nat): (a < 128/\plead a=((a:Int),1))\/(192<=a/\a < 224/\plead a=((a:Int) - 192,2))\/(224<=a/\a < 240/\plead a=((a:Int) - 224,3))\/
 (240<=a/\a < 248/\plead a=((a:Int) - 240,4))\/((128<=a/\a < 192\/248<=a)/\plead a=(0,0)):=by
 unfold plead;by_cases b:a < 128
 {exact Or.inl ⟨b,by rw[if_pos b]⟩}
 {by_cases c:a < 192
  {exact Or.inr (Or.inr (Or.inr (Or.inr ⟨Or.inl ⟨by omega,c⟩,by rw[if_neg b,if_pos c]⟩)))}
  {by_cases d:a < 224
   {exact Or.inr (Or.inl ⟨by omega,d,by rw[if_neg b,if_neg c,if_pos d]⟩)}
   {by_cases e:a < 240
    {exact Or.inr (Or.inr (Or.inl ⟨by omega,e,by rw[if_neg b,if_neg c,if_neg d,if_pos e]⟩))}
    {by_cases f:a < 248
     {exact Or.inr (Or.inr (Or.inr (Or.inl ⟨by omega,f,by rw[if_neg b,if_neg c,if_neg d,if_neg e,if_pos f]⟩)))}
     {exact Or.inr (Or.inr (Or.inr (Or.inr ⟨Or.inr (by omega),by rw[if_neg b,if_neg c,if_neg d,if_neg e,if_neg f]⟩)))}}}}}
theorem Z3h {a:Nat} (h: (plead a).2≠0):lead a=((plead a).2,(plead a).1):=by
 rcases Z2J a with ⟨b,e⟩ | ⟨b,c,e⟩ | ⟨b,c,e⟩ | ⟨b,c,e⟩ | ⟨b,e⟩ <;> rw[e] at h ⊢ <;> unfold lead
 {rw[if_neg (by omega),if_neg (by omega),if_neg (by omega)]}
 {rw[if_neg (by omega),if_neg (by omega),if_pos (by omega)]}
 {rw[if_neg (by omega),if_pos (by omega)]}
 {rw[if_pos (by omega)]}
 {exact absurd rfl h}
section
variable {a : UInt8} {r : List UInt8}
include a r
theorem ZiR (h: (plead a.toNat).2=0):first (a::r)=(0,0):=by
 refine Zbb fun p m hp he=> ?_;obtain ⟨b,t,f,c,d,_⟩:=Z0V p hp;rw[f,List.cons_append] at he;simp only[List.cons.injEq] at he;obtain ⟨rfl,_⟩:=he;rcases Z2J a.toNat with ⟨c,e⟩ | ⟨c,d,e⟩ | ⟨c,d,e⟩ | ⟨c,d,e⟩ | ⟨c,e⟩ <;> rw[e] at h <;> first | omega | simp at h
theorem ZjO (h: (plead a.toNat).2≠0) (b:r.length+1 < (plead a.toNat).2):first (a::r)=(0,0):=by
 rw[first,Z3h h,if_neg (by omega)]
theorem Zl0 {i:Nat} (h: (plead a.toNat).2≠0) (l:i+1 < (plead a.toNat).2) (m:i < r.length) (k:r[i].toNat < 128\/192<=r[i].toNat):first (a::r)=(0,0):=by
 rw[first,Z3h h,if_neg];rintro ⟨f,e,c⟩;simp only at f e c;obtain ⟨b,t,d,_,_,j⟩:=Z0V _ e;rw[d] at c;obtain ⟨n,g⟩: ∃n,(plead a.toNat).2=n+1:=⟨(plead a.toNat).2 - 1,by omega⟩;rw[g,List.take_succ_cons] at c;simp only[List.cons.injEq] at c;obtain ⟨_,rfl⟩:=c;have:r[i]∈r.take n:=by
  rw[List.mem_take_iff_getElem];exact ⟨i,by omega,rfl⟩
 have:=j _ this;omega
theorem Z6a (h: (plead a.toNat).2=r.length+1) (g: ∀b∈r,128<=b.toNat/\b.toNat < 192) (f:width (val (plead a.toNat).1 r)=r.length+1):
 bytes (val (plead a.toNat).1 r)=a::r:=by
 have m:=a.toNat_lt;rcases Z2J a.toNat with ⟨i,e⟩ | ⟨i,j,e⟩ | ⟨i,j,e⟩ | ⟨i,j,e⟩ | ⟨i,e⟩ <;> rw[e] at h f ⊢
 {obtain rfl:r= []:=List.eq_nil_of_length_eq_zero (by simpa using h.symm);simp only[val];unfold bytes;rw[if_pos (by omega),Z1b rfl]}
 {match r,h with
  | [b],_=>
   have k:=g b (by simp);simp only[val] at f ⊢;generalize hp: ((a.toNat:Int) - 192) * 64+b.toNat - 128=p at f ⊢;unfold width at f;simp only[List.length_cons,List.length_nil] at f;split at f
   {omega}
   {split at f
    {unfold bytes;rw[if_neg (by omega),if_pos (by omega),Z1b (b:=a) (by omega),Z1b (b:=b) (by omega)]}
    {split at f <;> omega}}}
 {match r,h with
  | [b,c],_=>
   have k:=g b (by simp);have l:=g c (by simp);simp only[val] at f ⊢;generalize hp: (((a.toNat:Int) - 224) * 64+b.toNat - 128) * 64+c.toNat - 128=p at f ⊢;unfold width at f;simp only[List.length_cons,List.length_nil] at f;split at f
   {omega}
   {split at f
    {omega}
    {split at f
     {unfold bytes;rw[if_neg (by omega),if_neg (by omega),if_pos (by omega),Z1b (b:=a) (by omega),Z1b (b:=b) (by omega),Z1b (b:=c) (by omega)]}
     {omega}}}}
 {match r,h with
  | [b,c,d],_=>
   have k:=g b (by simp);have l:=g c (by simp);have n:=g d (by simp);simp only[val] at f ⊢;generalize hp: ((((a.toNat:Int) - 240) * 64+b.toNat - 128) * 64+c.toNat - 128) * 64+d.toNat - 128=p at f ⊢;unfold width at f;simp only[List.length_cons,List.length_nil] at f;split at f
   {omega}
   {split at f
    {omega}
    {split at f
     {omega}
     {unfold bytes;rw[if_neg (by omega),if_neg (by omega),if_neg (by omega),Z1b (b:=a) (by omega),Z1b (b:=b) (by omega),Z1b (b:=c) (by omega),Z1b (b:=d) (by omega)]}}}}
 {simp at h}
theorem Zm8 (h: (plead a.toNat).2≠0) (g: (plead a.toNat).2<=r.length+1) (i: ∀b∈r.take ((plead a.toNat).2 - 1),128<=b.toNat/\b.toNat < 192):
 first (a::r)=if pt (val (plead a.toNat).1 (r.take ((plead a.toNat).2 - 1)))=true/\width (val (plead a.toNat).1 (r.take ((plead a.toNat).2 - 1)))=(plead a.toNat).2
  then (val (plead a.toNat).1 (r.take ((plead a.toNat).2 - 1)),(plead a.toNat).2) else (0,0):=by
 rw[first,Z3h h];simp only;obtain ⟨n,f⟩: ∃n,(plead a.toNat).2=n+1:=⟨(plead a.toNat).2 - 1,by omega⟩;rw[f,Nat.add_sub_cancel] at i ⊢;rw[f] at g;have c: (r.take n).length=n:=by rw[List.length_take]; omega
 by_cases d:pt (val (plead a.toNat).1 (r.take n))=true/\width (val (plead a.toNat).1 (r.take n))=n+1
 {have e:bytes (val (plead a.toNat).1 (r.take n))=(a::r).take (n+1):=by
   rw[List.take_succ_cons];exact Z6a (by rw[f,c]) i (by rw[c]; exact d.2)
  rw[if_pos d,if_pos ⟨g,d.1,e⟩]}
 {rw[if_neg d,if_neg];rintro ⟨_,j,e⟩;refine d ⟨j, ?_⟩;rw[<-Z0n,e,List.take_succ_cons,List.length_cons,c]}
end
def enc (ps:List Int):List UInt8:=ps.flatMap bytes
theorem ZkF:enc []= []:=rfl
theorem Z0T (p:Int) (ps:List Int):enc (p::ps)=bytes p++enc ps:=by simp[enc]
theorem Z3i (a b:List Int):enc (a++b)=enc a++enc b:=by simp[enc]
theorem Zbc (a:List Int) (p:Int):enc (a++ [p])=enc a++bytes p:=by simp[enc]
theorem Zi0 (ps:List Int):ps.length<=(enc ps).length:=by
 induction ps with
 | nil=>simp
 | cons p r ih=>rw[Z0T,List.length_append,Z0n,List.length_cons]; have:=Z1B p; omega
structure Reads (l:List UInt8) (ps:List Int) (rest:List UInt8):Prop where
 pts: ∀p∈ps,pt p=true
 text:l=enc ps++rest
 none:first rest=(0,0)
theorem Z9J (n:Nat): ∀l:List UInt8,l.length<=n-> ∃ps rest,Reads l ps rest:=by
 induction n with
 | zero=>
  intro l f;obtain rfl:l= []:=List.eq_nil_of_length_eq_zero (by omega);exact ⟨[],[],by simp,rfl,rfl⟩
 | succ n ih=>
  intro l f;rcases b:first l with ⟨p,k⟩
  by_cases c:k=0
  {exact ⟨[],l,by simp,rfl,Z1K (by rw[b]; exact c)⟩}
  {obtain ⟨d,j,e,m⟩:=Z0O b c;obtain ⟨ps,rest,h,i,g⟩:=ih (l.drop k) (by rw[List.length_drop]; omega);refine ⟨p::ps,rest, ?_, ?_,g⟩
   {intro q a;rcases List.mem_cons.1 a with rfl | a
    {exact d}
    {exact h q a}}
   {rw[Z0T,List.append_assoc, <-i]; exact e}}
theorem reads (l:List UInt8): ∃ps rest,Reads l ps rest:=Z9J l.length l (Nat.le_refl _)
section
variable {l : List UInt8} {ps : List Int} {rest : List UInt8} (h : Reads l ps rest)
include l ps rest h
theorem ZiS (k:Nat) (b:k < ps.length):
 first (l.drop (enc (ps.take k)).length)=(ps[k],width ps[k])/\enc (ps.take (k+1))=enc (ps.take k)++bytes ps[k]/\(enc (ps.take k)).length+width ps[k]<=l.length:=by
 have e:ps.take (k+1)=ps.take k++ [ps[k]]:=List.take_succ_eq_append_getElem b;have a:enc (ps.take (k+1))=enc (ps.take k)++bytes ps[k]:=by rw[e,Zbc]
 have c:l=enc (ps.take k)++(bytes ps[k]++(enc (ps.drop (k+1))++rest)):=by
  rw[h.text, <-List.append_assoc, <-a, <-List.append_assoc, <-Z3i,List.take_append_drop]
 refine ⟨?_,a, ?_⟩
 {have d:l.drop (enc (ps.take k)).length=bytes ps[k]++(enc (ps.drop (k+1))++rest):=by
   conv=>lhs; rw[c]
   rw[List.drop_left]
  rw[d];exact Z0N _ (h.pts _ (List.getElem_mem b)) _}
 {have:=congrArg List.length c;simp only[List.length_append,Z0n] at this ⊢;omega}
theorem Ze2:first (l.drop (enc ps).length)=(0,0)/\l.length=(enc ps).length+rest.length:=by
 refine ⟨?_,by rw[h.text,List.length_append]⟩;have a:l.drop (enc ps).length=rest:=by
  conv=>lhs; rw[h.text]
  rw[List.drop_left]
 rw[a];exact h.none
end
end
end Utf
namespace Sem
section
def dig (c:UInt8):Bool:=decide (48<=c.toNat)&&decide (c.toNat<=57)
def okc (c:UInt8):Bool:=(decide (97<=c.toNat)&&decide (c.toNat<=122))||(decide (65<=c.toNat)&&decide (c.toNat<=90))||decide (c.toNat=45)||dig c
def digits (l:List UInt8):Bool:= !l.isEmpty&&l.all dig
def part (l:List UInt8):Bool:= !l.isEmpty&&l.all okc&&(!digits l||l== [48]||l.head? !=some 48)
def parts:List UInt8->List (List UInt8)
 | []=> [[]]
 | c::r=>if c=46 then []::parts r else match parts r with
  | []=> [[c]]
  | p::ps=>(c::p)::ps
theorem Z1T (l:List UInt8):parts l≠ []:=by
 cases l with
 | nil=>simp[parts]
 | cons c r=>rw[parts]; split; simp; split <;> simp
theorem Z0P {c:UInt8} {r p:List UInt8} {ps:List (List UInt8)} (h:c≠46) (a:parts r=p::ps):parts (c::r)=(c::p)::ps:=by
 rw[parts,if_neg h,a]
theorem Z14 (r:List UInt8):parts (46::r)= []::parts r:=by rw[parts,if_pos rfl]
theorem Z5l: ∀l:List UInt8,parts (l++ [46])=parts l++ [[]]
 | []=>rfl
 | c::r=>by
  have b:=Z5l r;by_cases h:c=46
  {subst h; rw[List.cons_append,Z14,b,Z14,List.cons_append]}
  {rw[List.cons_append];rcases a:parts r with _ | ⟨p,ps⟩
   {exact absurd a (Z1T r)}
   {rw[a,List.cons_append] at b;rw[Z0P h b,Z0P h a,List.cons_append]}}
theorem Z8y {d:UInt8} (e:d≠46): ∀(l:List UInt8),∃ps p,parts l=ps++ [p]/\parts (l++ [d])=ps++ [p++ [d]]
 | []=>⟨[],[],rfl,by rw[List.nil_append,parts,if_neg e]; rfl⟩
 | c::r=>by
  obtain ⟨ps,p,a,b⟩:=Z8y e r;by_cases h:c=46
  {subst h;exact ⟨[]::ps,p,by rw[Z14,a]; rfl,by rw[List.cons_append,Z14,b]; rfl⟩}
  {match ps,a,b with
   | [],a,b=>exact ⟨[],c::p,by rw[Z0P h a]; rfl,by rw[List.cons_append,Z0P h b]; rfl⟩
   | q::qs,a,b=>exact ⟨(c::q)::qs,p,by rw[Z0P h a]; rfl,by rw[List.cons_append,Z0P h b]; rfl⟩}
def join:List (List UInt8)->List UInt8
 | []=> []
 | [p]=>p
 | p::q::ps=>p++46::join (q::ps)
theorem Z9L: ∀(l:List UInt8),∀p∈parts l,p.length<=l.length
 | [],p,a=>by simp[parts] at a; subst a; simp
 | d::r,p,a=>by
  have b:=Z9L r;by_cases h:d=46
  {subst h;rw[Z14] at a;rcases List.mem_cons.1 a with rfl | a
   {simp}
   {have:=b p a; rw[List.length_cons]; omega}}
  {rcases c:parts r with _ | ⟨q,e⟩
   {exact absurd c (Z1T r)}
   {rw[Z0P h c] at a;rw[c] at b;rcases List.mem_cons.1 a with rfl | a
    {have:=b q (by simp); rw[List.length_cons,List.length_cons]; omega}
    {have:=b p (by simp[a]); rw[List.length_cons]; omega}}}
theorem Z7d: ∀l:List UInt8,(parts l).length<=l.length+1
 | []=>by simp[parts]
 | d::r=>by
  have b:=Z7d r;by_cases h:d=46
  {subst h; rw[Z14]; simp; omega}
  {rcases a:parts r with _ | ⟨q,c⟩
   {exact absurd a (Z1T r)}
   {rw[Z0P h a]; rw[a] at b; simp at b ⊢; omega}}
structure Ver where
 maj:Int
 min:Int
 pat:Int
 pre:List UInt8
deriving DecidableEq
def numOk (n:Int):Bool:=decide (0<=n)&&decide (n<=999999)
def preOk (p:List UInt8):Bool:=p.isEmpty||(parts p).all part
def may (v:Ver):Bool:=numOk v.maj&&numOk v.min&&numOk v.pat&&decide (v.pre.length<=24)&&preOk v.pre
theorem Z9M (n:Int):numOk n=true ↔ 0<=n/\n<=999999:=by simp[numOk]
theorem Z33 (v:Ver):may v=true ↔ (0<=v.maj/\v.maj<=999999)/\(0<=v.min/\v.min<=999999)/\(0<=v.pat/\v.pat<=999999)/\v.pre.length<=24/\preOk v.pre=true:=by
 simp only[may,Bool.and_eq_true,Z9M,decide_eq_true_eq];exact ⟨fun ⟨⟨⟨⟨a,b⟩,c⟩,d⟩,e⟩=>⟨a,b,c,d,e⟩,fun ⟨a,b,c,d,e⟩=>⟨⟨⟨⟨a,b⟩,c⟩,d⟩,e⟩⟩
def dec (n:Nat):List UInt8:=if h:n < 10 then [UInt8.ofNat (48+n)] else dec (n / 10)++ [UInt8.ofNat (48+n % 10)]
termination_by n
theorem Z27 {n:Nat} (h:n < 10):dec n= [UInt8.ofNat (48+n)]:=by rw[dec,dif_pos h]
theorem Z34 {n:Nat} (h: ¬n < 10):dec n=dec (n / 10)++ [UInt8.ofNat (48+n % 10)]:=by rw[dec,dif_neg h]
def ahead (n:Nat):List UInt8:=if n < 10 then [] else dec (n / 10)
theorem ZiT (n:Nat):dec n=ahead n++ [UInt8.ofNat (48+n % 10)]:=by
 unfold ahead;by_cases h:n < 10
 {rw[Z27 h,if_pos h,Nat.mod_eq_of_lt h]; rfl}
 {rw[Z34 h,if_neg h]}
theorem Z48: ∀n:Nat,∀c∈dec n,48<=c.toNat/\c.toNat<=57:=by
 intro n;induction n using Nat.strongRecOn with
 | ind n ih=>
  intro c a;by_cases h:n < 10
  {rw[Z27 h] at a;simp at a;subst a;simp; omega}
  {rw[Z34 h,List.mem_append] at a;rcases a with a | a
   {exact ih _ (by omega) c a}
   {simp at a;subst a;simp; omega}}
theorem Z4L (n:Nat):dec n≠ []:=by
 by_cases h:n < 10
 {rw[Z27 h]; simp}
 {rw[Z34 h]; simp}
theorem Z49: ∀(k n:Nat),n < 10 ^ k->1<=k->(dec n).length<=k
 | 0,_,_,h=>absurd h (by omega)
 | k+1,n,hn,_=>by
  by_cases h:n < 10
  {rw[Z27 h]; simp}
  {rw[Z34 h,List.length_append];have b:1<=k:=by
    rcases Nat.eq_zero_or_pos k with rfl | a
    {omega}
    {exact a}
   have:=Z49 k (n / 10) (by rw[Nat.pow_succ] at hn; omega) b;simp; omega}
def text (v:Ver):List UInt8:=dec v.maj.toNat++46::(dec v.min.toNat++46::(dec v.pat.toNat++if v.pre= [] then [] else 45::v.pre))
theorem text_len {v:Ver} (h:may v=true): (text v).length<=45:=by
 rw[Z33] at h;have a:=Z49 6 v.maj.toNat (by have: (10:Nat) ^ 6=1000000:=rfl; omega) (by omega);have b:=Z49 6 v.min.toNat (by have: (10:Nat) ^ 6=1000000:=rfl; omega) (by omega);have c:=Z49 6 v.pat.toNat (by have: (10:Nat) ^ 6=1000000:=rfl; omega) (by omega);unfold text;simp only[List.length_append,List.length_cons];split <;> simp <;> omega
def rd (a:Nat) (c:UInt8):Nat:=if a<=999999 then 10 * a+(c.toNat - 48) else a
theorem Z6b: ∀n:Nat,n<=999999->(dec n).foldl rd 0=n:=by
 intro n;induction n using Nat.strongRecOn with
 | ind n ih=>
  intro a;by_cases h:n < 10
  {rw[Z27 h];simp[rd]; omega}
  {rw[Z34 h,List.foldl_append,ih _ (by omega) (by omega),List.foldl_cons,List.foldl_nil];have e: (UInt8.ofNat (48+n % 10)).toNat=48+n % 10:=by simp; omega
   unfold rd;rw[if_pos (by omega),e];omega}
def put (t:Nat×Nat×Nat) (k x:Nat):Nat×Nat×Nat:=if k=0 then (x,t.2.1,t.2.2) else if k=1 then (t.1,x,t.2.2) else (t.1,t.2.1,x)
def get (t:Nat×Nat×Nat) (k:Nat):Nat:=if k=0 then t.1 else if k=1 then t.2.1 else t.2.2
def scan:List UInt8->Nat->Nat×Nat×Nat->Option ((Nat×Nat×Nat)×List UInt8)
 | [],_,t=>some (t,[])
 | c::r,k,t=>
  if c=45 then some (t,c::r)
  else if c=46 then (if k < 2 then scan r (k+1) t else none)
  else if dig c=true then scan r k (put t k (rd (get t k) c)) else none
theorem ZbR (t:Nat×Nat×Nat) (k x y:Nat):put (put t k x) k y=put t k y:=by
 unfold put; split <;> simp_all
theorem ZbS (t:Nat×Nat×Nat) (k x:Nat):get (put t k x) k=x:=by
 unfold get put; split <;> simp_all
theorem Z22: ∀(l r:List UInt8) (k:Nat) (t:Nat×Nat×Nat),k<=2->(∀c∈l,48<=c.toNat/\c.toNat<=57)->l≠ []->scan (l++r) k t=scan r k (put t k (l.foldl rd (get t k)))
 | [],_,_,_,_,_,h=>absurd rfl h
 | c::l,r,k,t,hk,hl,_=>by
  have a:=hl c (by simp);have e:c≠45:=by rintro rfl; simp at a
  have f:c≠46:=by rintro rfl; simp at a
  have g:dig c=true:=by simp[dig]; omega
  rw[List.cons_append,scan,if_neg e,if_neg f,if_pos g,List.foldl_cons];by_cases b:l= []
  {subst b; rfl}
  {rw[Z22 l r k _ hk (fun d hd=>hl d (by simp[hd])) b,ZbS,ZbR]}
theorem Z6c (r:List UInt8) (k:Nat) (t:Nat×Nat×Nat) (h:k < 2):scan (46::r) k t=scan r (k+1) t:=by
 rw[scan,if_neg (by decide),if_pos rfl,if_pos h]
theorem Zbf (p:List UInt8) (k:Nat) (t:Nat×Nat×Nat):scan (if p= [] then [] else 45::p) k t=some (t,if p= [] then [] else 45::p):=by
 split
 {rfl}
 {rw[scan,if_pos rfl]}
theorem Z9N {v:Ver} (h:may v=true):scan (text v) 0 (0,0,0)=some ((v.maj.toNat,v.min.toNat,v.pat.toNat),if v.pre= [] then [] else 45::v.pre):=by
 rw[Z33] at h;unfold text;rw[Z22 _ _ _ _ (by omega) (Z48 _) (Z4L _),Z6c _ _ _ (by omega),Z22 _ _ _ _ (by omega) (Z48 _) (Z4L _),Z6c _ _ _ (by omega),
  Z22 _ _ _ _ (by omega) (Z48 _) (Z4L _),Zbf]
 show some (put (put (put (0,0,0) 0 ((dec v.maj.toNat).foldl rd 0)) 1 ((dec v.min.toNat).foldl rd 0)) 2 ((dec v.pat.toNat).foldl rd 0),_)=_;rw[Z6b v.maj.toNat (by omega),Z6b v.min.toNat (by omega),Z6b v.pat.toNat (by omega)];rfl
def parse (l:List UInt8):Option Ver:=
 match scan l 0 (0,0,0) with
 | none=>none
 | some (t,rest)=>
  if may ⟨t.1,t.2.1,t.2.2,rest.tail⟩=true/\text ⟨t.1,t.2.1,t.2.2,rest.tail⟩=l then some ⟨t.1,t.2.1,t.2.2,rest.tail⟩ else none
theorem Z8z {v:Ver} (h:may v=true):parse (text v)=some v:=by
 have d:=h;rw[Z33] at d;have e: (⟨(v.maj.toNat:Int),(v.min.toNat:Int),(v.pat.toNat:Int),(if v.pre= [] then [] else 45::v.pre).tail⟩:Ver)=v:=by
  obtain ⟨a,b,c,p⟩:=v;simp only at d;have f: (if p= [] then [] else 45::p).tail=p:=by split <;> simp_all
  rw[f];rw[Ver.mk.injEq];exact ⟨Int.toNat_of_nonneg d.1.1,Int.toNat_of_nonneg d.2.1.1,Int.toNat_of_nonneg d.2.2.1.1,rfl⟩
 rw[parse,Z9N h];simp only;rw[e,if_pos ⟨h,rfl⟩]
theorem Z8A {l:List UInt8} {v:Ver} (h:parse l=some v):may v=true/\text v=l:=by
 rw[parse] at h;split at h
 {cases h}
 {split at h
  {rename_i a; cases h; exact a}
  {cases h}}
def num (l:List UInt8):Nat:=l.foldl (fun a c=>10 * a+(c.toNat - 48)) 0
theorem Zbg (l:List UInt8) (a:Nat):l.foldl (fun a c=>10 * a+(c.toNat - 48)) a=a * 10 ^ l.length+num l:=by
 induction l generalizing a with
 | nil=>simp[num]
 | cons c r ih=>
  have e:num (c::r)=(c.toNat - 48) * 10 ^ r.length+num r:=by
   show List.foldl _ (10 * 0+(c.toNat - 48)) r=_;rw[ih,Nat.mul_zero,Nat.zero_add]
  rw[List.foldl_cons,ih,e,List.length_cons,Nat.pow_succ,Nat.add_mul,Nat.add_assoc];congr 1;rw[Nat.mul_comm 10 a,Nat.mul_assoc,Nat.mul_comm (10 ^ r.length) 10]
theorem Z2m (c:UInt8) (r:List UInt8):num (c::r)=(c.toNat - 48) * 10 ^ r.length+num r:=by
 rw[num,List.foldl_cons,Zbg]; simp
theorem num_lt (l:List UInt8) (h: ∀c∈l,48<=c.toNat/\c.toNat<=57):num l < 10 ^ l.length:=by
 induction l with
 | nil=>simp[num]
 | cons c r ih=>
  have a:=ih (fun d hd=>h d (by simp[hd]));have b:=h c (by simp);rw[Z2m,List.length_cons,Nat.pow_succ];have: (c.toNat - 48) * 10 ^ r.length<=9 * 10 ^ r.length:=Nat.mul_le_mul_right _ (by omega);omega
def partKey (p:List UInt8):List Int:=if digits p then [0,(num p:Int)] else 1::p.map fun c=>(c.toNat:Int)
def preKey (p:List UInt8):List (List Int):=if p= [] then [[2]] else [1]::(parts p).map partKey
def key (v:Ver):List (List Int):= [v.maj]:: [v.min]:: [v.pat]::preKey v.pre
def core (v:Ver):Ver:=⟨v.maj,v.min,v.pat,[]⟩
end
end Sem
namespace Lex
section
def small (c:UInt8):Bool:=decide (97<=c.toNat)&&decide (c.toNat<=122)
def great (c:UInt8):Bool:=decide (65<=c.toNat)&&decide (c.toNat<=90)
def digit (c:UInt8):Bool:=decide (48<=c.toNat)&&decide (c.toNat<=57)
def nameB (c:UInt8):Bool:=small c||great c||digit c||c==95
def lumpB (c:UInt8):Bool:=small c||great c||digit c||c==46||c==45
def blank (c:UInt8):Bool:=c==9||c==10||c==13||c==32
def words:List (List UInt8):= [[109,111,100,117,108,101],[105,109,112,111,114,116],[112,105,110],[114,97,110,103,101],[116,121,112,101],[111,112,97,113,117,101],[108,101,116],[105,110],[101,120,112,111,114,116],[102,117,110],[105,102],[116,104,101,110],[101,108,115,101],[99,97,115,101],[111,102],[97,115],[110,101,119],[114,97,119],[116,114,117,101],[102,97,108,115,101]]
def signs:List (List UInt8):= [[40],[41],[123],[125],[91],[93],[60],[62],[60,61],[62,61],[61],[94],[42],[44],[58],[46],[47],[64],[124],[45,62]]
def isWord (s:List UInt8):Bool:=words.contains s
def isSign (s:List UInt8):Bool:=signs.contains s
def isName (s:List UInt8):Bool:=match s with
 | []=>false
 | c::_=>decide (s.length<=24)&&small c&&s.all nameB&& !isWord s
def isUpper (s:List UInt8):Bool:=match s with
 | []=>false
 | c::_=>decide (s.length<=24)&&great c&&s.all nameB
def number (s:List UInt8):Bool:=s.all digit&&decide (1<=s.length)&&decide (s.length<=15)&&(decide (s.length=1)||decide (s.head? ≠some 48))
structure Tok where
 kind:Int
 text:List UInt8
deriving DecidableEq
def escP (p:Int):List UInt8:=if p=10 then [92,110] else if p=9 then [92,116] else if p=34 then [92,34] else if p=92 then [92,92] else Utf.bytes p
def okP (p:Int):Bool:=Utf.pt p&&(decide (32<=p)||decide (p=10)||decide (p=9))
def one:List UInt8->Option (Int×Nat)
 | []=>none
 | c::r=>if c=34\/c.toNat < 32 then none else if c=92 then
  (match r with
  | []=>none
  | d::_=>if d=110 then some (10,2) else if d=116 then some (9,2) else if d=34 then some (34,2) else if d=92 then some (92,2) else none)
  else if (Utf.first (c::r)).2=0 then none else some (Utf.first (c::r))
theorem Z1U (c:UInt8) (r:List UInt8):one (c::r)=if c=34\/c.toNat < 32 then none else if c=92 then
 (match r with
 | []=>none
 | d::_=>if d=110 then some ((10:Int),2) else if d=116 then some ((9:Int),2) else if d=34 then some ((34:Int),2) else if d=92 then some ((92:Int),2) else none)
 else if (Utf.first (c::r)).2=0 then none else some (Utf.first (c::r)):=rfl
theorem Zbk (p:Int):1<=(escP p).length/\(escP p).length<=4:=by
 unfold escP;have:=Utf.Z1B p;split; · simp
 split; · simp
 split; · simp
 split; · simp
 rw[Utf.Z0n]; omega
theorem Z24 {p:Int} (h:Utf.pt p=true) (l:32<=p) (s:p≠34) (t:p≠92): ∃a r,Utf.bytes p=a::r/\a≠34/\ ¬a.toNat < 32/\a≠92:=by
 obtain ⟨a,r,e,d,_,_⟩:=Utf.Z0V p h;refine ⟨a,r,e, ?_⟩;by_cases j:p < 128
 {have m:Utf.bytes p= [Utf.byte p]:=by unfold Utf.bytes; rw[if_pos j]
  rw[m] at e;obtain ⟨rfl,_⟩:Utf.byte p=a/\ []=r:=by simpa using e
  have c:=Utf.Z0g p;have q:p % 256=p:=Int.emod_eq_of_lt (by omega) (by omega);rw[q] at c;refine ⟨?_,by omega, ?_⟩
  {intro h; rw[h] at c; exact s (by rw[<-c]; rfl)}
  {intro h; rw[h] at c; exact t (by rw[<-c]; rfl)}}
 {have b:194<=a.toNat:=by
   rcases d with d | d
   {exfalso;have n:=Utf.Z0N p h [];rw[List.append_nil,e] at n;have v:2<=Utf.width p:=by unfold Utf.width; rw[if_neg j]; split; omega; split <;> omega
    have:=Utf.Z0n p;obtain ⟨k,r',f,g,u⟩:=Utf.Z3K p h;rw[e] at f;obtain ⟨rfl,rfl⟩:a=k/\r=r':=by simpa using f
    rcases Utf.Z4K a.toNat with ⟨_,o⟩ | ⟨i,_,_⟩ | ⟨i,_,_⟩ | ⟨i,_⟩
    {rw[o] at g;rw[e,List.length_cons] at this;simp only at g;omega}
    all_goals omega}
   {exact d}
  refine ⟨?_,by omega, ?_⟩
  {rintro rfl; revert b; decide}
  {rintro rfl; revert b; decide}}
theorem Z5m {p:Int} (h:okP p=true) (l:List UInt8):one (escP p++l)=some (p,(escP p).length):=by
 simp only[okP,Bool.and_eq_true,Bool.or_eq_true,decide_eq_true_eq] at h;obtain ⟨i,o⟩:=h;unfold escP;by_cases f:p=10
 {subst f; rfl}
 rw[if_neg f];by_cases g:p=9
 {subst g; rfl}
 rw[if_neg g];by_cases b:p=34
 {subst b; rfl}
 rw[if_neg b];by_cases c:p=92
 {subst c; rfl}
 rw[if_neg c];obtain ⟨a,r,e,k,m,n⟩:=Z24 i (by omega) b c;have d:=Utf.Z0N p i l;have q:=Utf.Z1B p;have j:=Utf.Z0n p;rw[e] at d j ⊢;rw[List.cons_append] at d ⊢;rw[Z1U,if_neg (by rintro (h | h); exact k h; exact m h),if_neg n,d,if_neg (by simp only; omega),j]
theorem Z4A {l:List UInt8} {p:Int} {n:Nat} (h:one l=some (p,n)):okP p=true/\n=(escP p).length/\l=escP p++l.drop n/\1<=n/\n<=l.length:=by
 cases l with
 | nil=>cases h
 | cons c r=>
  rw[Z1U] at h;split at h
  {cases h}
  {rename_i u
   split at h
   {rename_i g
    subst g;cases r with
    | nil=>cases h
    | cons d q=>
     simp only at h;split at h
     {rename_i i; subst i
      obtain ⟨rfl,rfl⟩:10=p/\2=n:=by simpa using h
      exact ⟨rfl,rfl,rfl,by omega,by simp⟩}
     split at h
     {rename_i i; subst i
      obtain ⟨rfl,rfl⟩:9=p/\2=n:=by simpa using h
      exact ⟨rfl,rfl,rfl,by omega,by simp⟩}
     split at h
     {rename_i i; subst i
      obtain ⟨rfl,rfl⟩:34=p/\2=n:=by simpa using h
      exact ⟨rfl,rfl,rfl,by omega,by simp⟩}
     split at h
     {rename_i i; subst i
      obtain ⟨rfl,rfl⟩:92=p/\2=n:=by simpa using h
      exact ⟨rfl,rfl,rfl,by omega,by simp⟩}
     {cases h}}
   {rename_i g
    split at h
    {cases h}
    {rename_i y
     have w:Utf.first (c::r)=(p,n):=by simpa using h
     rw[w] at y;obtain ⟨t,D,o,s⟩:=Utf.Z0O w y;have z:=Utf.Z1B p
     -- the first byte tells that p is none of the four,and 32 at least
     obtain ⟨a,q,e,_⟩:=Utf.Z0V p t;have m:c=a:=by
      rw[e,List.cons_append] at o;exact (List.cons.inj o).1
     have b:32<=p/\p≠34/\p≠92:=by
      by_cases j:p < 128
      {have A:Utf.bytes p= [Utf.byte p]:=by unfold Utf.bytes; rw[if_pos j]
       have C:=(Utf.Z3J p).1 t;have B:p % 256=p:=Int.emod_eq_of_lt (by omega) (by omega);have k:=Utf.Z0g p;rw[B] at k;rw[A] at e;obtain ⟨rfl,_⟩:Utf.byte p=a/\ []=q:=by simpa using e
       rw[<-m] at k;refine ⟨?_, ?_, ?_⟩
       {have: ¬c.toNat < 32:=fun h=>u (Or.inr h);omega}
       {intro f;refine u (Or.inl (UInt8.toNat_inj.1 ?_));rw[f] at k;have: (c.toNat:Int)=34:=k;show c.toNat=34;omega}
       {intro f;refine g (UInt8.toNat_inj.1 ?_);rw[f] at k;have: (c.toNat:Int)=92:=k;show c.toNat=92;omega}}
      {omega}
     have v:escP p=Utf.bytes p:=by unfold escP; rw[if_neg (by omega),if_neg (by omega),if_neg b.2.1,if_neg b.2.2]
     refine ⟨?_, ?_, ?_,by omega,s⟩
     {simp only[okP,t,Bool.true_and,Bool.or_eq_true,decide_eq_true_eq]; exact Or.inl (Or.inl b.1)}
     {rw[v,Utf.Z0n]; exact D}
     {rw[v]; exact o}}}}
def body:Nat->List UInt8->List Int×List UInt8
 | 0,l=>([],l)
 | f+1,l=>match one l with
  | none=>([],l)
  | some (p,n)=>(p::(body f (l.drop n)).1,(body f (l.drop n)).2)
def esc (ps:List Int):List UInt8:=ps.flatMap escP
theorem Z1g: ∀(f:Nat) (l:List UInt8),l.length<=f->(∀p∈(body f l).1,okP p=true)/\l=esc (body f l).1++(body f l).2/\one (body f l).2=none
 | 0,l,h=>by
  obtain rfl:l= []:=List.eq_nil_of_length_eq_zero (by omega);exact ⟨(fun p hp=>by cases hp),rfl,rfl⟩
 | f+1,l,h=>by
  rw[body];cases a:one l with
  | none=>exact ⟨(fun p hp=>by cases hp),rfl,a⟩
  | some x=>
   obtain ⟨p,n⟩:=x;obtain ⟨b,i,c,j,k⟩:=Z4A a;obtain ⟨d,e,g⟩:=Z1g f (l.drop n) (by rw[List.length_drop]; omega);refine ⟨fun q a=> ?_, ?_,g⟩
   {rcases List.mem_cons.1 a with rfl | a
    {exact b}
    {exact d q a}}
   {simp only
    conv=>lhs; rw[c,e]
    simp[esc]}
theorem Z4b: ∀ {ps:List Int} {rest:List UInt8} (f:Nat),(∀p∈ps,okP p=true)->one rest=none->(esc ps++rest).length<=f->body f (esc ps++rest)=(ps,rest)
 | [],rest,f,_,hr,_=>by
  cases f with
  | zero=>rfl
  | succ f=>simp only[esc,List.flatMap_nil,List.nil_append]; rw[body,hr]
 | p::ps,rest,f,hp,hr,hf=>by
  have e:esc (p::ps)++rest=escP p++(esc ps++rest):=by simp[esc]
  rw[e] at hf ⊢;have a:=Zbk p;cases f with
  | zero=>rw[List.length_append] at hf; omega
  | succ f=>
   rw[body,Z5m (hp p (by simp))];simp only;rw[List.drop_left,Z4b f (fun q hq=>hp q (List.mem_cons_of_mem _ hq)) hr (by rw[List.length_append] at hf; omega)]
def finish (x:List Int×List UInt8):Except (Int×Nat) (Tok×Nat):=match x.2 with
 | []=> .error (60,0)
 | c::_=>if c=34 then .ok (⟨4,Utf.enc x.1⟩,(esc x.1).length+2) else if c.toNat < 32\/c=92 then .error (60,0) else .error (30,(esc x.1).length+1)
def quoted (s:List UInt8):Except (Int×Nat) (Tok×Nat):=finish (body s.length s.tail)
def remark:Nat->List UInt8->Except Nat Nat
 | 0,_=> .ok 0
 | f+1,l=>match l with
  | []=> .ok 0
  | c::r=>if c=10 then .ok 0 else if (Utf.first (c::r)).2=0 then .error 0 else
   match remark f ((c::r).drop (Utf.first (c::r)).2) with
   | .ok n=> .ok ((Utf.first (c::r)).2+n)
   | .error n=> .error ((Utf.first (c::r)).2+n)
def token (s:List UInt8):Except (Int×Nat) (Tok×Nat):=match s with
 | []=> .error (60,0)
 | c::r=>
  if small c||great c then
   (let t:=(c::r).takeWhile nameB
    if isWord t then .ok (⟨5,t⟩,t.length) else if isName t then .ok (⟨1,t⟩,t.length) else if isUpper t then .ok (⟨2,t⟩,t.length) else .error (60,0))
  else if digit c then
   (let t:=(c::r).takeWhile lumpB
    if number t then .ok (⟨3,t⟩,t.length) else if (Sem.parse t).isSome then .ok (⟨7,t⟩,t.length) else .error (60,0))
  else if c=34 then quoted (c::r)
  else if decide (2<=(c::r).length)&&isSign ((c::r).take 2) then .ok (⟨6,(c::r).take 2⟩,2)
  else if isSign [c] then .ok (⟨6,[c]⟩,1)
  else .error (60,0)
def hasRemark (s:List UInt8):Bool:=match s with
 | 45::45::_=>true
 | _=>false
def scan:Nat->List UInt8->Nat->Except (Int×Nat) (List (Tok×Nat))
 | 0,_,_=> .ok []
 | f+1,l,i=>match l with
  | []=> .ok []
  | c::r=>
   if blank c then scan f r (i+1)
   else if hasRemark (c::r) then (match remark (c::r).length (c::r) with
    | .error k=> .error (30,i+k)
    | .ok n=>scan f ((c::r).drop n) (i+n))
   else match token (c::r) with
    | .error (e,k)=> .error (e,i+k)
    | .ok (t,n)=>(scan f ((c::r).drop n) (i+n)).map ((t,i):: ·)
end
end Lex
namespace Shp
section
structure Sh where
 kind:Int
 of_:List UInt8
 name:List UInt8
 names:List (List UInt8)
 parts:List Sh
mutual
def size:Sh->Nat
 | ⟨_,_,_,_,ps⟩=>1+sizes ps
def sizes:List Sh->Nat
 | []=>0
 | p::ps=>size p+sizes ps
end
mutual
def deep:Sh->Nat
 | ⟨_,_,_,_,ps⟩=>deeps ps+1
def deeps:List Sh->Nat
 | []=>0
 | p::ps=>max (deep p) (deeps ps)
end
theorem size_eq (t:Sh):size t=1+sizes t.parts:=by cases t; rfl
theorem deep_eq (t:Sh):deep t=deeps t.parts+1:=by cases t; rfl
theorem size_pos (t:Sh):1<=size t:=by rw[size_eq]; omega
section
variable {l : List Sh} {p : Sh} (h : p ∈ l)
include l p h
theorem sizes_mem:size p<=sizes l:=by
 induction l with
 | nil=>cases h
 | cons a l ih=>
  rcases List.mem_cons.1 h with rfl | h
  {simp[sizes]}
  {have:=ih h; simp[sizes]; omega}
theorem deeps_mem:deep p<=deeps l:=by
 induction l with
 | nil=>cases h
 | cons a l ih=>
  rcases List.mem_cons.1 h with rfl | h
  {simp[deeps]; omega}
  {have:=ih h; simp[deeps]; omega}
end
theorem Sh.ind {P:Sh->Prop} (h: ∀t,(∀p∈t.parts,P p)->P t) (t:Sh):P t:=by
 have: ∀n t,size t<=n->P t:=by
  intro n;induction n with
  | zero=>intro t a; have:=size_pos t; omega
  | succ n ih=>
   intro t a;refine h t (fun p hp=>ih p ?_);have:=sizes_mem hp;rw[size_eq] at a;omega
 exact this _ t (Nat.le_refl _)
theorem sizes_append (l m:List Sh):sizes (l++m)=sizes l+sizes m:=by
 induction l with
 | nil=>simp[sizes]
 | cons a l ih=>simp[sizes,ih]; omega
theorem deeps_append (l m:List Sh):deeps (l++m)=max (deeps l) (deeps m):=by
 induction l with
 | nil=>simp[deeps]
 | cons a l ih=>simp[deeps,ih,Nat.max_assoc]
theorem Z1C {α:Type} {l:List α} {i:Nat} (h:i < l.length):l.take (i+1)=l.take i++ [l[i]'h]:=by rw[List.take_succ_eq_append_getElem h]
section
variable {l : List Sh} {i : Nat} (h : i < l.length)
include l i h
theorem sizes_next:sizes (l.take (i+1))=sizes (l.take i)+size (l[i]'h):=by rw[Z1C h,sizes_append]; simp[sizes]
theorem deeps_next:deeps (l.take (i+1))=max (deeps (l.take i)) (deep (l[i]'h)):=by rw[Z1C h,deeps_append]; simp[deeps]
end
theorem sizes_take (l:List Sh) (i:Nat):sizes (l.take i)<=sizes l:=by
 have:=sizes_append (l.take i) (l.drop i);rw[List.take_append_drop] at this;omega
theorem deeps_take (l:List Sh) (i:Nat):deeps (l.take i)<=deeps l:=by
 have:=deeps_append (l.take i) (l.drop i);rw[List.take_append_drop] at this;omega
theorem length_sizes (l:List Sh):l.length<=sizes l:=by
 induction l with
 | nil=>simp
 | cons a l ih=>have:=size_pos a; simp[sizes]; omega
theorem deep_size (t:Sh):deep t<=size t:=by
 induction t using Sh.ind with
 | h t ih=>
  rw[deep_eq,size_eq];have: ∀l:List Sh,(∀p∈l,deep p<=size p)->deeps l<=sizes l:=by
   intro l;induction l with
   | nil=>simp[deeps]
   | cons a l ihl=>
    intro h;have b:=h a (by simp);have c:=ihl (fun p hp=>h p (by simp[hp]));simp[deeps,sizes]; omega
  have:=this _ ih;omega
def sizeTo (m:Nat) (t:Sh):Nat:=min (size t) (m+1)
def noDup:List (List UInt8)->Bool
 | []=>true
 | x::l=> !l.contains x&&noDup l
def areNames (l:List (List UInt8)):Bool:=l.all Lex.isName&&noDup l
def plain (s:List UInt8):Bool:=s== [73,110,116]||s== [66,111,111,108]||s== [84,101,120,116]||s== [65,110,121]
def bare (t:Sh):Bool:=t.of_== []&&t.name== []
def fits (t:Sh):Bool:=
 if t.kind=9\/t.kind=10 then Lex.isUpper t.name&&(Lex.isName t.of_||(t.of_== []&&decide (t.kind=9)&& !plain t.name))&&decide (t.names.length=0)&&decide (t.parts.length=0)
 else if bare t=false then false
 else if t.kind=6\/t.kind=7 then areNames t.names&&decide (t.names.length=t.parts.length)
 else if 0 < t.names.length then false
 else if t.kind=8 then decide (1<=t.parts.length)
 else if t.kind=5 then decide (t.parts.length=1)
 else decide (1<=t.kind)&&decide (t.kind<=4)&&decide (t.parts.length=0)
mutual
def right:Sh->Bool
 | ⟨k,o,n,ns,ps⟩=>fits ⟨k,o,n,ns,ps⟩&&rights ps
def rights:List Sh->Bool
 | []=>true
 | p::ps=>right p&&rights ps
end
theorem right_eq (t:Sh):right t=(fits t&&rights t.parts):=by cases t; rfl
theorem rights_all (l:List Sh):rights l=l.all right:=by
 induction l with
 | nil=>rfl
 | cons a l ih=>simp[rights,ih]
mutual
def opened:Sh->Bool
 | ⟨k,_,_,_,ps⟩=>decide (k=9)||openeds ps
def openeds:List Sh->Bool
 | []=>false
 | p::ps=>opened p||openeds ps
end
def check (t:Sh):Int:=if 400 < size t then 3 else if 40 < deep t then 91 else if right t=false then 70 else 0
abbrev Fld:=List UInt8×Sh
def ins (x:Fld):List Fld->List Fld
 | []=> [x]
 | y::l=>if y.1 < x.1 then y::ins x l else x::y::l
def sortF (l:List Fld):List Fld:=l.foldl (fun a x=>ins x a) []
mutual
def sorted:Sh->Sh
 | ⟨k,o,n,ns,ps⟩=>if ns= [] then ⟨k,o,n,[],sorteds ps⟩ else ⟨k,o,n,(sortF (ns.zip (sorteds ps))).map Prod.fst,(sortF (ns.zip (sorteds ps))).map Prod.snd⟩
def sorteds:List Sh->List Sh
 | []=> []
 | p::ps=>sorted p::sorteds ps
end
mutual
def eqB:Sh->Sh->Bool
 | ⟨k,o,n,ns,ps⟩,⟨k',o',n',ns',ps'⟩=>k==k'&&o==o'&&n==n'&&ns==ns'&&eqs ps ps'
def eqs:List Sh->List Sh->Bool
 | [],[]=>true
 | p::ps,q::qs=>eqB p q&&eqs ps qs
 | [],_::_=>false
 | _::_,[]=>false
end
theorem eqB_eq (t u:Sh):eqB t u=(t.kind==u.kind&&t.of_==u.of_&&t.name==u.name&&t.names==u.names&&eqs t.parts u.parts):=by cases t; cases u; rfl
theorem eqs_iff_of {l:List Sh} (h: ∀p∈l,∀u,eqB p u=true ↔ p=u): ∀m,eqs l m=true ↔ l=m:=by
 induction l with
 | nil=>intro m; cases m <;> simp[eqs]
 | cons a l ih=>
  intro m;cases m with
  | nil=>simp[eqs]
  | cons b m=>simp[eqs,h a (by simp) b,ih (fun p hp=>h p (by simp[hp])) m]
theorem eqB_iff (t u:Sh):eqB t u=true ↔ t=u:=by
 induction t using Sh.ind generalizing u with
 | h t ih=>
  rw[eqB_eq];cases t; cases u;simp[eqs_iff_of ih,and_assoc]
theorem Z8h (l m:List Sh):eqs l m=true ↔ l=m:=eqs_iff_of (fun p _ u=>eqB_iff p u) m
theorem eqB_refl (t:Sh):eqB t t=true:=(eqB_iff t t).2 rfl
theorem Z5n {t u:Sh} (h:t≠u):eqB t u=false:=by
 cases e:eqB t u with
 | false=>rfl
 | true=>exact absurd ((eqB_iff t u).1 e) h
def same (t u:Sh):Bool:=decide (check t=0)&&decide (check u=0)&&eqB (sorted t) (sorted u)
def field (n t:List UInt8):List UInt8:=n++ [58,32]++t
def fields (ns ts:List (List UInt8)):List (List UInt8):=if ns= [] then ts else List.zipWith field ns ts
def named (t:Sh):List UInt8:=if t.of_= [] then t.name else t.of_++ [47]++t.name
def join (sep:List UInt8) (l:List (List UInt8)):List UInt8:=sep.intercalate l
def textOf (k:Int) (o n:List UInt8) (ns ts:List (List UInt8)):List UInt8:=
 if k=1 then [73,110,116] else if k=2 then [66,111,111,108] else if k=3 then [84,101,120,116] else if k=4 then [65,110,121]
 else if k=5 then [91]++ts.headD []++ [93]
 else if k=6 then [123]++join [44,32] (fields ns ts)++ [125]
 else if k=7 then [60]++join [32,124,32] (fields ns ts)++ [62]
 else if k=8 then [40]++join [44,32] ts.dropLast++ [41,32,45,62,32]++ts.getLastD []
 else if o= [] then n else o++ [47]++n
mutual
def text:Sh->List UInt8
 | ⟨k,o,n,ns,ps⟩=>textOf k o n ns (texts ps)
def texts:List Sh->List (List UInt8)
 | []=> []
 | p::ps=>text p::texts ps
end
theorem texts_map (l:List Sh):texts l=l.map text:=by
 induction l with
 | nil=>rfl
 | cons a l ih=>simp[texts,ih]
theorem text_eq (t:Sh):text t=textOf t.kind t.of_ t.name t.names (t.parts.map text):=by
 cases t; rw[<-texts_map]; rfl
theorem Z7j (l:List Sh):deeps l<=sizes l:=by
 induction l with
 | nil=>simp[deeps]
 | cons a l ih=>have:=deep_size a; simp[deeps,sizes]; omega
theorem Z5u (l:List (List UInt8)):noDup l=true ↔ l.Nodup:=by
 induction l with
 | nil=>simp[noDup]
 | cons a l ih=>simp[noDup,ih]
theorem Z0G (l:List (List UInt8)):areNames l=true ↔ (∀x∈l,Lex.isName x=true)/\l.Nodup:=by
 simp[areNames,Z5u]
section
variable {l : List (List UInt8)}
include l
theorem Z3Q {i:Nat} (a:i < l.length) (h:Lex.isName (l[i]'a)=false):areNames l=false:=by
 cases e:areNames l with
 | false=>rfl
 | true=>rw[((Z0G l).1 e).1 _ (List.getElem_mem a)] at h; cases h
theorem Z37 {i k:Nat} (a:i < l.length) (b:k < i) (h:l[k]'(by omega)=l[i]'a):areNames l=false:=by
 cases e:areNames l with
 | false=>rfl
 | true=>
  have:=((Z0G l).1 e).2;have:=(List.pairwise_iff_getElem.1 this) k i (by omega) a b;exact absurd h this
theorem Z4h (a: ∀i (hi:i < l.length),Lex.isName (l[i]'hi)=true) (b: ∀i (hi:i < l.length),∀k (hk:k < i),l[k]'(by omega)≠l[i]'hi):areNames l=true:=by
 refine (Z0G l).2 ⟨fun x hx=> ?_, ?_⟩
 {obtain ⟨i,hi,rfl⟩:=List.getElem_of_mem hx; exact a i hi}
 {exact List.pairwise_iff_getElem.2 (fun k i hk hi hki=>b i hi k hki)}
end
def ofOk (t:Sh):Bool:=Lex.isName t.of_||(t.of_== []&&decide (t.kind=9)&& !plain t.name)
section
variable {t : Sh}
include t
theorem Z29 (h:t.kind=9\/t.kind=10):fits t=(Lex.isUpper t.name&&ofOk t&&decide (t.names.length=0)&&decide (t.parts.length=0)):=by unfold fits ofOk; rw[if_pos h]
theorem Z0Z (h: ¬(t.kind=9\/t.kind=10)) (a:bare t=false):fits t=false:=by unfold fits; rw[if_neg h,if_pos a]
theorem Z2o (a:bare t=true) (h:t.kind=6\/t.kind=7):fits t=(areNames t.names&&decide (t.names.length=t.parts.length)):=by
 unfold fits; rw[if_neg (by omega),if_neg (by rw[a]; decide),if_pos h]
theorem Z1E (h: ¬(t.kind=9\/t.kind=10)) (c:bare t=true) (a: ¬(t.kind=6\/t.kind=7)) (b:0 < t.names.length):fits t=false:=by
 unfold fits; rw[if_neg h,if_neg (by rw[c]; decide),if_neg a,if_pos b]
theorem Z4B (b:bare t=true) (h:t.kind=8) (a: ¬0 < t.names.length):fits t=decide (1<=t.parts.length):=by
 unfold fits; rw[if_neg (by omega),if_neg (by rw[b]; decide),if_neg (by omega),if_neg a,if_pos h]
theorem Z3R (b:bare t=true) (h:t.kind=5) (a: ¬0 < t.names.length):fits t=decide (t.parts.length=1):=by
 unfold fits; rw[if_neg (by omega),if_neg (by rw[b]; decide),if_neg (by omega),if_neg a,if_neg (by omega),if_pos h]
theorem Z2C (e:bare t=true) (h: ¬(t.kind=9\/t.kind=10)) (a: ¬(t.kind=6\/t.kind=7)) (b: ¬0 < t.names.length) (c:t.kind≠8) (d:t.kind≠5):
 fits t=(decide (1<=t.kind)&&decide (t.kind<=4)&&decide (t.parts.length=0)):=by
 unfold fits; rw[if_neg h,if_neg (by rw[e]; decide),if_neg a,if_neg b,if_neg c,if_neg d]
end
theorem Z2p (t:Sh):bare t=true ↔ t.of_= []/\t.name= []:=by simp[bare]
theorem ZbV {t:Sh} (h: (t.of_== [])=false):bare t=false:=by simp[bare,h]
theorem Z9Z {t:Sh} (h: (t.name== [])=false):bare t=false:=by simp[bare,h]
theorem right_fits {t:Sh} (h:right t=true):fits t=true:=by rw[right_eq,Bool.and_eq_true] at h; exact h.1
theorem right_part {t p:Sh} (h:right t=true) (a:p∈t.parts):right p=true:=by
 rw[right_eq,rights_all,Bool.and_eq_true,List.all_eq_true] at h; exact h.2 p a
theorem right_on {t:Sh} (h:fits t=true) (a: ∀p∈t.parts,right p=true):right t=true:=by
 rw[right_eq,rights_all,Bool.and_eq_true,List.all_eq_true]; exact ⟨h,a⟩
theorem right_off {t p:Sh} (a:p∈t.parts) (h:right p=false):right t=false:=by
 cases e:right t with
 | false=>rfl
 | true=>rw[right_part e a] at h; cases h
end
end Shp
namespace Tms
section
open Shp (Sh Z1C)
structure Tm where
 kind:Int
 of_:List UInt8
 name:List UInt8
 n:Int
 names:List (List UInt8)
 vars:List (List UInt8)
 shapes:List Sh
 parts:List Tm
 at_:Int
mutual
def size:Tm->Nat
 | ⟨_,_,_,_,_,_,_,ps,_⟩=>1+sizes ps
def sizes:List Tm->Nat
 | []=>0
 | p::ps=>size p+sizes ps
end
mutual
def deep:Tm->Nat
 | ⟨_,_,_,_,_,_,_,ps,_⟩=>deeps ps+1
def deeps:List Tm->Nat
 | []=>0
 | p::ps=>max (deep p) (deeps ps)
end
theorem size_eq (t:Tm):size t=1+sizes t.parts:=by cases t; rfl
theorem deep_eq (t:Tm):deep t=deeps t.parts+1:=by cases t; rfl
theorem size_pos (t:Tm):1<=size t:=by rw[size_eq]; omega
section
variable {l : List Tm} {p : Tm} (h : p ∈ l)
include l p h
theorem sizes_mem:size p<=sizes l:=by
 induction l with
 | nil=>cases h
 | cons a l ih=>
  rcases List.mem_cons.1 h with rfl | h
  {simp[sizes]}
  {have:=ih h; simp[sizes]; omega}
theorem deeps_mem:deep p<=deeps l:=by
 induction l with
 | nil=>cases h
 | cons a l ih=>
  rcases List.mem_cons.1 h with rfl | h
  {simp[deeps]; omega}
  {have:=ih h; simp[deeps]; omega}
end
theorem Tm.ind {P:Tm->Prop} (h: ∀t,(∀p∈t.parts,P p)->P t) (t:Tm):P t:=by
 have: ∀n t,size t<=n->P t:=by
  intro n;induction n with
  | zero=>intro t a; have:=size_pos t; omega
  | succ n ih=>
   intro t a;refine h t (fun p hp=>ih p ?_);have:=sizes_mem hp;rw[size_eq] at a;omega
 exact this _ t (Nat.le_refl _)
theorem sizes_append (l m:List Tm):sizes (l++m)=sizes l+sizes m:=by
 induction l with
 | nil=>simp[sizes]
 | cons a l ih=>simp[sizes,ih]; omega
theorem deeps_append (l m:List Tm):deeps (l++m)=max (deeps l) (deeps m):=by
 induction l with
 | nil=>simp[deeps]
 | cons a l ih=>simp[deeps,ih,Nat.max_assoc]
section
variable {l : List Tm} {i : Nat} (h : i < l.length)
include l i h
theorem sizes_next:sizes (l.take (i+1))=sizes (l.take i)+size (l[i]'h):=by rw[Z1C h,sizes_append]; simp[sizes]
theorem deeps_next:deeps (l.take (i+1))=max (deeps (l.take i)) (deep (l[i]'h)):=by rw[Z1C h,deeps_append]; simp[deeps]
end
theorem sizes_take (l:List Tm) (i:Nat):sizes (l.take i)<=sizes l:=by
 have:=sizes_append (l.take i) (l.drop i);rw[List.take_append_drop] at this;omega
theorem deeps_take (l:List Tm) (i:Nat):deeps (l.take i)<=deeps l:=by
 have:=deeps_append (l.take i) (l.drop i);rw[List.take_append_drop] at this;omega
theorem length_sizes (l:List Tm):l.length<=sizes l:=by
 induction l with
 | nil=>simp
 | cons a l ih=>have:=size_pos a; simp[sizes]; omega
theorem deep_size (t:Tm):deep t<=size t:=by
 induction t using Tm.ind with
 | h t ih=>
  rw[deep_eq,size_eq];have: ∀l:List Tm,(∀p∈l,deep p<=size p)->deeps l<=sizes l:=by
   intro l;induction l with
   | nil=>simp[deeps]
   | cons a l ihl=>
    intro h;have b:=h a (by simp);have c:=ihl (fun p hp=>h p (by simp[hp]));simp[deeps,sizes]; omega
  have:=this _ ih;omega
def sizeTo (m:Nat) (t:Tm):Nat:=min (size t) (m+1)
def names (l:List (List UInt8)) (apart:Bool):Bool:=l.all Lex.isName&&(!apart||Shp.noDup l)
mutual
def hasOpaque:Sh->Bool
 | ⟨k,_,_,_,ps⟩=>decide (k=10)||hasOpaques ps
def hasOpaques:List Sh->Bool
 | []=>false
 | p::ps=>hasOpaque p||hasOpaques ps
end
theorem ZfZ (t:Sh):hasOpaque t=(decide (t.kind=10)||hasOpaques t.parts):=by cases t; rfl
theorem Zfi (l:List Sh):hasOpaques l=l.any hasOpaque:=by
 induction l with
 | nil=>rfl
 | cons a l ih=>simp[hasOpaques,ih]
def shapesOk (l:List Sh):Bool:=l.all fun s=>decide (Shp.check s=0)&& !hasOpaque s
def plainB (b:UInt8):Bool:=decide (32<=b.toNat)||b==9||b==10
def validGo:Nat->List UInt8->Bool
 | 0,s=>s.isEmpty
 | k+1,s=>s.isEmpty||(decide ((Utf.first s).2≠0)&&validGo k (s.drop (Utf.first s).2))
def valid (s:List UInt8):Bool:=validGo s.length s
def textOk (s:List UInt8):Bool:=s.all plainB&&valid s
def lists (t:Tm) (n v s p:Nat):Bool:=decide (t.names.length=n)&&decide (t.vars.length=v)&&decide (t.shapes.length=s)&&decide (t.parts.length=p)
def fitsK (t:Tm):Bool:=
 if t.kind=1 then t.name== []&&decide (0<=t.n)&&decide (t.n<=999999999999999)&&lists t 0 0 0 0
 else if t.kind=2 then textOk t.name&&lists t 0 0 0 0
 else if t.kind=3\/t.kind=4 then t.name== []&&lists t 0 0 0 0
 else if t.kind=5 then Lex.isName t.name&&(t.of_== []||Lex.isName t.of_)&&lists t 0 0 0 0
 else if t.kind=6 then t.name== []&&lists t t.names.length 0 t.names.length 1
 else if t.kind=7 then t.name== []&&decide (1<=t.parts.length)&&lists t 0 0 0 t.parts.length
 else if t.kind=8 then t.name== []&&lists t t.names.length 0 0 t.names.length
 else if t.kind=9\/t.kind=10 then Lex.isName t.name&&lists t 0 0 0 1
 else if t.kind=11 then t.name== []&&lists t 0 0 1 t.parts.length
 else if t.kind=12 then t.name== []&&lists t 0 0 1 3
 else if t.kind=13 then t.name== []&&lists t t.names.length t.names.length (t.names.length+1) (t.names.length+1)
 else if t.kind=14 then Lex.isName t.name&&lists t 0 0 0 2
 else if t.kind=15 then t.name== []&&lists t 0 0 1 1
 else if t.kind=16\/t.kind=17 then Lex.isUpper t.name&&lists t 0 0 0 1
 else false
def fits (t:Tm):Bool:=decide (0<=t.at_)&&names t.names true&&names t.vars false&&shapesOk t.shapes&&(decide (t.kind=1)||decide (t.n=0))&&(decide (t.kind=5)||t.of_== [])&&fitsK t
mutual
def right:Tm->Bool
 | ⟨k,o,na,n,ns,vs,ss,ps,a⟩=>fits ⟨k,o,na,n,ns,vs,ss,ps,a⟩&&rights ps
def rights:List Tm->Bool
 | []=>true
 | p::ps=>right p&&rights ps
end
theorem right_eq (t:Tm):right t=(fits t&&rights t.parts):=by cases t; rfl
theorem rights_all (l:List Tm):rights l=l.all right:=by
 induction l with
 | nil=>rfl
 | cons a l ih=>simp[rights,ih]
theorem right_fits {t:Tm} (h:right t=true):fits t=true:=by rw[right_eq,Bool.and_eq_true] at h; exact h.1
theorem right_part {t p:Tm} (h:right t=true) (a:p∈t.parts):right p=true:=by
 rw[right_eq,rights_all,Bool.and_eq_true,List.all_eq_true] at h; exact h.2 p a
theorem right_on {t:Tm} (h:fits t=true) (a: ∀p∈t.parts,right p=true):right t=true:=by
 rw[right_eq,rights_all,Bool.and_eq_true,List.all_eq_true]; exact ⟨h,a⟩
theorem right_off {t p:Tm} (a:p∈t.parts) (h:right p=false):right t=false:=by
 cases e:right t with
 | false=>rfl
 | true=>rw[right_part e a] at h; cases h
def check (t:Tm):Int:=if 4096 < size t then 3 else if 40 < deep t then 91 else if right t=false then 80 else 0
mutual
def eqB (places:Bool):Tm->Tm->Bool
 | ⟨k,o,na,n,ns,vs,ss,ps,a⟩,⟨k',o',na',n',ns',vs',ss',ps',a'⟩=>k==k'&&o==o'&&na==na'&&n==n'&&(!places||a==a')&&ns==ns'&&vs==vs'&&Shp.eqs ss ss'&&eqs places ps ps'
def eqs (places:Bool):List Tm->List Tm->Bool
 | [],[]=>true
 | p::ps,q::qs=>eqB places p q&&eqs places ps qs
 | [],_::_=>false
 | _::_,[]=>false
end
theorem eqB_eq (a:Bool) (t u:Tm):eqB a t u=(t.kind==u.kind&&t.of_==u.of_&&t.name==u.name&&t.n==u.n&&(!a||t.at_==u.at_)&&t.names==u.names&&t.vars==u.vars&&Shp.eqs t.shapes u.shapes&&eqs a t.parts u.parts):=by cases t; cases u; rfl
mutual
def strip:Tm->Tm
 | ⟨k,o,na,n,ns,vs,ss,ps,_⟩=>⟨k,o,na,n,ns,vs,ss,strips ps,0⟩
def strips:List Tm->List Tm
 | []=> []
 | p::ps=>strip p::strips ps
end
theorem Zl1 (l:List Tm):strips l=l.map strip:=by
 induction l with
 | nil=>rfl
 | cons a l ih=>simp[strips,ih]
theorem Zdd (t:Tm):strip t=⟨t.kind,t.of_,t.name,t.n,t.names,t.vars,t.shapes,t.parts.map strip,0⟩:=by
 cases t; rw[<-Zl1]; rfl
theorem eqs_iff_of {c:Bool} {f:Tm->Tm} {l:List Tm} (h: ∀p∈l,∀u,eqB c p u=true ↔ f p=f u): ∀m,eqs c l m=true ↔ l.map f=m.map f:=by
 induction l with
 | nil=>intro m; cases m <;> simp[eqs]
 | cons a l ih=>
  intro m;cases m with
  | nil=>simp[eqs]
  | cons b m=>simp[eqs,h a (by simp) b,ih (fun p hp=>h p (by simp[hp])) m]
theorem Zg0 (t u:Tm):eqB false t u=true ↔ strip t=strip u:=by
 induction t using Tm.ind generalizing u with
 | h t ih=>
  rw[eqB_eq,Zdd,Zdd];simp[eqs_iff_of ih,and_assoc,Shp.Z8h]
theorem eqB_iff (t u:Tm):eqB true t u=true ↔ t=u:=by
 induction t using Tm.ind generalizing u with
 | h t ih=>
  have g:=eqs_iff_of (f:=id) ih u.parts;rw[eqB_eq];cases t; cases u;simp only[List.map_id] at g;simp[g,and_assoc,Shp.Z8h];intro _ _ _ _;exact ⟨fun ⟨a,b,c,d,e⟩=>⟨b,c,d,e,a⟩,fun ⟨b,c,d,e,a⟩=>⟨a,b,c,d,e⟩⟩
theorem eqB_refl (a:Bool) (t:Tm):eqB a t t=true:=by
 cases a
 {exact (Zg0 t t).2 rfl}
 {exact (eqB_iff t t).2 rfl}
def same (l:List Tm):Bool:=l.all fun t=>decide (check t=0)&&eqB false t (l.headD t)
theorem Ziq (k:Nat): ∀(s:List UInt8),s.length<=k-> ∀ {ps:List Int} {rest:List UInt8},Utf.Reads s ps rest->(validGo k s=true ↔ rest= []):=by
 induction k with
 | zero=>
  intro s i ps rest h;have l:s= []:=List.eq_nil_of_length_eq_zero (by omega);subst l;have:=(Utf.Ze2 h).2;simp only[List.length_nil] at this;have j:rest= []:=List.eq_nil_of_length_eq_zero (by omega);rw[j]; simp[validGo]
 | succ k ih=>
  intro s i ps rest h;cases ps with
  | nil=>
   obtain rfl:s=rest:=by have:=h.text; simpa[Utf.ZkF] using this
   cases s with
   | nil=>simp[validGo]
   | cons a r=>
    have b: (Utf.first (a::r)).2=0:=by rw[h.none]
    simp[validGo,b]
  | cons p ps=>
   have d:s=Utf.bytes p++(Utf.enc ps++rest):=by rw[h.text,Utf.Z0T,List.append_assoc]
   have b:Utf.first s=(p,Utf.width p):=by rw[d]; exact Utf.Z0N p (h.pts p (by simp)) _
   have m:=Utf.Z1B p;have f: (Utf.bytes p).length=Utf.width p:=Utf.Z0n p;have e:s.drop (Utf.width p)=Utf.enc ps++rest:=by rw[d, <-f,List.drop_left]
   have c:s.length=Utf.width p+(Utf.enc ps++rest).length:=by rw[d,List.length_append,f]
   have g:s.isEmpty=false:=by
    cases s with
    | nil=>simp at c; omega
    | cons a r=>rfl
   have:=ih (s.drop (Utf.width p)) (by rw[e]; omega) (ps:=ps) (rest:=rest) ⟨fun x hx=>h.pts x (by simp[hx]),e,h.none⟩;unfold validGo;rw[b,g];simp only[Bool.false_or,Bool.and_eq_true,decide_eq_true_eq];rw[this];constructor
   {exact fun h=>h.2}
   {exact fun h=>⟨by omega,h⟩}
theorem Zer {s:List UInt8} {ps:List Int} {rest:List UInt8} (h:Utf.Reads s ps rest):valid s=true ↔ rest= []:=Ziq s.length s (Nat.le_refl _) h
theorem Zd8 (b:UInt8):plainB b=true ↔ ¬(b.toNat < 32/\b≠9/\b≠10):=by
 unfold plainB;simp only[Bool.or_eq_true,decide_eq_true_eq,beq_iff_eq];constructor
 {rintro ((h | h) | h) ⟨d,a,c⟩
  {omega}
  {exact a h}
  {exact c h}}
 {intro h;by_cases d:32<=b.toNat
  {exact Or.inl (Or.inl d)}
  {by_cases a:b=9
   {exact Or.inl (Or.inr a)}
   {by_cases c:b=10
    {exact Or.inr c}
    {exact absurd ⟨by omega,a,c⟩ h}}}}
end
end Tms
namespace Go.Proofs.YtgndehppmaacaaaGreatDoor
section
open Go.RowKit
theorem Z0Q {B:Nat} {a w:World} (h:Below B a w) (n:Nat):Below B a (w.drewN n):=⟨h.os,h.tape,h.output,h.size,h.block⟩
abbrev Y9 (f:FuncId) (a:Array Value) (w:World) (v:Value):Prop:=Calls Tryz.prog f a w fun e w'=>e= .returned v/\Below w.heap.size w w'
abbrev Ya:Array Value:=#[.int .i64 0,.string ⟨#[]⟩,.string ⟨#[]⟩,.int .i64 0,.slice none 0 0,.slice none 0 0,.slice none 0 0,.slice none 0 0,.int .i64 0]
abbrev Yb:Array Value:=#[.int .i64 0,.string ⟨#[]⟩,.string ⟨#[]⟩,.slice none 0 0,.slice none 0 0]
abbrev Yc:Array Value:=#[.int .i64 0,.int .i64 0]
abbrev Yd:Array Value:=#[.int .i64 0,.string ⟨#[]⟩,.int .i64 0]
theorem Y1 {P:Prop} (h:P):Hid P:=Lib.hid h
theorem Y2 {B:Nat} {w:World}:Below B w w:=Below.refl _ _
section
variable {k n : Int} (m : Int) (h : k = n)
include k n m h
theorem Y3 (e: (n==m)=false): (k==m)=false:=by rw[h]; exact e
theorem Y4 (e: (n==m)=true): (k==m)=true:=by rw[h]; exact e
theorem Y5 (e: (n !=m)=false): (k !=m)=false:=by rw[h]; exact e
theorem Y6 (e: (n !=m)=true): (k !=m)=true:=by rw[h]; exact e
end
section
variable (s : ByteArray)
include s
theorem Z9U (p:Nat) (q:Int) (a: (p:Int)<=q) (c:q<=s.size) (W:World):
 (Instr.slice 9 (.string s) (some (.int .i64 p)) (some (.int .i64 q)) none).run Tryz.prog W= .ok (.string ⟨((s.data.toList.drop p).take (q.toNat - p)).toArray⟩) W:=by
 rw[run_slice_string (P:=Tryz.prog) W 9 s .i64 .i64 p q Tryz.underlying9 (by omega) a c];have:=ByteArray.extract_mk s.data.toList p q.toNat;rw[Int.toNat_natCast];exact congrArg (fun b=>Result.ok (Value.string b) W) this
theorem Z8E (p:Nat) (h:p<=s.size) (W:World):
 (Instr.slice 9 (.string s) (some (.int .i64 p)) none none).run Tryz.prog W= .ok (.string ⟨(s.data.toList.drop p).toArray⟩) W:=by
 rw[run_slice_string_from_if (P:=Tryz.prog) W 9 s .i64 p Tryz.underlying9,if_pos ⟨by omega,by omega⟩];have:=ByteArray.extract_mk s.data.toList p s.size;rw[Int.toNat_natCast];refine congrArg (fun b=>Result.ok (Value.string b) W) (this.trans ?_);rw[List.take_of_length_le (by rw[List.length_drop, <-Lib.size_eq]; omega)]
theorem ZnA (q:Int) (a:0<=q) (h:q<=s.size) (W:World):
 (Instr.slice 9 (.string s) none (some (.int .i64 q)) none).run Tryz.prog W= .ok (.string ⟨(s.data.toList.take q.toNat).toArray⟩) W:=by
 rw[run_slice_string_to_if (P:=Tryz.prog) W 9 s .i64 q Tryz.underlying9,if_pos ⟨by omega,by omega⟩];have:=ByteArray.extract_mk s.data.toList 0 q.toNat;exact congrArg (fun b=>Result.ok (Value.string b) W) this
end
theorem Z0J (l:List UInt8): (⟨l.toArray⟩:ByteArray).size=l.length:=by simp[ByteArray.size]
theorem Zgs (s:ByteArray) (p:Nat) (b:p < s.size): ∃r:ByteArray,(∀W:World,(Instr.slice 9 (.string s) (some (.int .i64 p)) none none).run Tryz.prog W= .ok (.string r) W)/\
 r.data.toList=s.data.toList.drop p/\r.size+p=s.size/\0 < r.size/\r.toList.isEmpty=false/\ ∀(i:Nat) (h:i < r.size) (a:p+i < s.size),r[i]'h=s[p+i]'a:=by
 refine ⟨⟨(s.data.toList.drop p).toArray⟩,fun W=>Z8E s p (by omega) W,rfl, ?_, ?_, ?_, ?_⟩
 {rw[Z0J,List.length_drop, <-Lib.size_eq]; omega}
 {rw[Z0J,List.length_drop, <-Lib.size_eq]; omega}
 {rw[ByteArray.toList_mk,List.isEmpty_eq_false_iff];intro h;have:=congrArg List.length h;rw[List.length_drop, <-Lib.size_eq] at this;simp at this;omega}
 {intro i h a;show (s.data.toList.drop p).toArray[i]=s.data[p+i];simp}
theorem Z36 {B:Nat} {w w':World} (h:Below B w w') (a:w.heap.size<=B) (row:Option Nat):w.grownBy w' row:=
 ⟨h.os,h.tape,h.output,h.size,fun i hi _=>h.block i (Nat.lt_of_lt_of_le hi a)⟩
theorem Z2n {T e:TypeId} {B b:Nat} {p:Value} {g:List Value} {w w':World} (h:Lib.BuilderAt T e B b p g w) (i:Below w.heap.size w w'):Lib.BuilderAt T e B b p g w':=by
 have d:=h.lt;obtain ⟨j,v,c,a,f⟩:=h;exact ⟨j,v,(i.block b d).trans c,a.kept (Z36 i (Nat.le_refl _) none) (by
  rcases h:v.ownBlock with _ | x
  {exact Or.inl rfl}
  · exact Or.inr (by simp)),f⟩
theorem Zdy {T e:TypeId} {B b:Nat} {a:List Value} {w w':World} (h:Lib.IsBuilder T e B b a w) (c:Below w.heap.size w w'):Lib.IsBuilder T e B b a w':=by
 rcases h with h | h
 {exact Or.inl (Z2n h c)}
 {exact Or.inr (Z2n h c)}
theorem Z03 {w W w':World} (h:Below w.heap.size w W) (a:Below W.heap.size W w'):Below w.heap.size w w':=h.trans (a.mono h.size)
theorem Z0h {w W:World} (h:Below w.heap.size w W) (o:Obj):Below w.heap.size w (W.alloc o):=h.alloc h.size o
theorem Z01 (w:World) (o:Obj):Below w.heap.size w (w.alloc o):=(Below.refl _ _).alloc (Nat.le_refl _) _
theorem ZcE {W w:World} {b o:Nat} (a:Below W.heap.size W w) (h:b < W.heap.size):w.cell? ⟨b,o,none⟩=W.cell? ⟨b,o,none⟩/\w.frozen? ⟨b,o,none⟩=W.frozen? ⟨b,o,none⟩:=
 ⟨a.cell (p:=⟨b,o,none⟩) h,a.frozen (p:=⟨b,o,none⟩) h⟩
theorem flip {P:Program} {f:FuncId} {args:Array Value} {w:World} {v:Value} (h:Calls P f args w fun e w'=>e= .returned v/\w=w'):Calls P f args w fun e w'=>e= .returned v/\w'=w:=
 h.mono fun _ _ ⟨he,hw⟩=>⟨he,hw.symm⟩
theorem Zi1 (a b:List UInt8): (⟨a.toArray⟩:ByteArray)++⟨b.toArray⟩=⟨(a++b).toArray⟩:=by
 apply ByteArray.ext;simp[ByteArray.data_append]
theorem ZcA (s:ByteArray):s=⟨s.data.toList.toArray⟩:=by
 apply ByteArray.ext;simp
theorem Zdh (s:ByteArray):s.toList=s.data.toList:=by
 conv=>lhs; rw[ZcA s]
 rw[ByteArray.toList_mk]
theorem Zg1 {s:ByteArray} {k:Nat} (h:k < s.size): (s.data.toList.take (k+1)).all Sem.dig=((s.data.toList.take k).all Sem.dig&&Sem.dig (s[k]'h)):=by
 rw[List.take_succ_eq_append_getElem (by rw[<-Lib.size_eq]; exact h),List.all_append];simp;rfl
theorem Zes (s:ByteArray) (l:s.size<=9223372036854775807) (w:World):
 Calls Tryz.prog 193 #[.string s] w fun e w'=>e= .returned (.bool (Sem.digits s.data.toList))/\w=w':=by
 go_enter Tryz.func193,Tryz.ntmps193
 go_wp2_with fail
 go_loop [3] (fun i=> ∃k:Nat,i= .int .i64 k/\k<=s.size/\Hid ((s.data.toList.take k).all Sem.dig=true)) (fun i=>s.size - (intOf i).toNat)
 case atStart=>exact ⟨0,rfl,Nat.zero_le _,Y1 rfl⟩
 case round=>
  obtain ⟨k,rfl,j,d⟩:=hrel;by_cases a:k < s.size
  {have h:=(s[k]'a).toNat_lt;by_cases f: (s[k]'a).toNat < 48
   {have c:Hid (Sem.digits s.data.toList=false):=Y1 (by
     unfold Sem.digits;rw[Bool.and_eq_false_iff]; right;rw[List.all_eq_false];exact ⟨s[k]'a,by rw[show s[k]'a=s.data.toList[k]'(by rw[<-Lib.size_eq]; exact a) from rfl]; exact List.getElem_mem _,by simp[Sem.dig]; omega⟩)
    go_wp2;go_ret;exact ⟨by rw[c.out]; rfl,rfl⟩}
   {by_cases g:57 < (s[k]'a).toNat
    {have c:Hid (Sem.digits s.data.toList=false):=Y1 (by
      unfold Sem.digits;rw[Bool.and_eq_false_iff]; right;rw[List.all_eq_false];exact ⟨s[k]'a,by rw[show s[k]'a=s.data.toList[k]'(by rw[<-Lib.size_eq]; exact a) from rfl]; exact List.getElem_mem _,by simp[Sem.dig]; omega⟩)
     go_wp2;go_ret;exact ⟨by rw[c.out]; rfl,rfl⟩}
    {have c:Hid ((s.data.toList.take (k+1)).all Sem.dig=true):=Y1 (by rw[Zg1 a,d.out]; simp[Sem.dig]; omega);go_wp2
     go_round
     case rel=>exact ⟨k+1,by go_num,by omega,c⟩
     case measure=>simp[intOf]; omega}}}
  {have b:s.data.toList.all Sem.dig=true:=by have:=d.out; rwa [List.take_of_length_le (by rw[<-Lib.size_eq]; omega)] at this
   have c:Hid (Sem.digits s.data.toList= !s.toList.isEmpty):=Y1 (by unfold Sem.digits; rw[b,Bool.and_true,Zdh]);clear b;go_wp2;go_ret;exact ⟨by rw[c.out]; rfl,rfl⟩}
def Strs (w:World) (B:Nat) (A:Option Addr) (ss:List ByteArray):Prop:=
 ss.length=0\/ ∃b off,A=some ⟨b,off,none⟩/\b < B/\ ∀i (h:i < ss.length),w.cell? ⟨b,off+i,none⟩=some (.string (ss[i]'h))
theorem Strs.keep {w w':World} {B B':Nat} {A:Option Addr} {a:List ByteArray} (h:Strs w B A a) (d:Below B' w w') (c:B<=B'):Strs w' B A a:=by
 rcases h with h | ⟨b,off,hA,hlt,e⟩
 {exact Or.inl h}
 {exact Or.inr ⟨b,off,hA,hlt,fun i hi=>(d.cell (p:=⟨b,off+i,none⟩) (Nat.lt_of_lt_of_le hlt c)).trans (e i hi)⟩}
theorem Strs.more {w:World} {B B':Nat} {A:Option Addr} {c:List ByteArray} (h:Strs w B A c) (e:B<=B'):Strs w B' A c:=by
 rcases h with h | ⟨b,off,d,a,f⟩
 {exact Or.inl h}
 {exact Or.inr ⟨b,off,d,Nat.lt_of_lt_of_le a e,f⟩}
theorem Strs.next {w w':World} {A:Option Addr} {b:List ByteArray} (h:Strs w w.heap.size A b) (a:Below w.heap.size w w'):Strs w' w'.heap.size A b:=
 (h.keep a (Nat.le_refl _)).more a.size
theorem ZjP {w:World} {B n:Nat} {v:Value} {b:List ByteArray} (h:w.ownsRow B 9 1 v n (b.map Value.string)): ∃A cap,v= .slice A b.length cap/\Strs w w.heap.size A b:=by
 have a:=h.1;rw[List.length_map,Nat.mul_one] at a;subst a;rcases h.2 with ⟨rfl,c⟩ | ⟨g,cap,d,rfl,e,f,_⟩
 {exact ⟨none,0,by rw[c],Or.inl c⟩}
 {refine ⟨_,_,rfl,Or.inr ⟨g,0,rfl, ?_,fun i hi=> ?_⟩⟩
  {exact (h.lt g rfl).2}
  {rw[Nat.zero_add,h.cellAt i (by omega)];simp[hi]}}
theorem lt_of_cell {w:World} {b o:Nat} {v:Value} (h:w.cell? ⟨b,o,none⟩=some v):b < w.heap.size:=by
 rcases Nat.lt_or_ge b w.heap.size with a | a
 {exact a}
 {simp[World.cell?,Array.getElem?_eq_none a] at h}
def strs (l:List (List UInt8)):List ByteArray:=l.map fun p=>⟨p.toArray⟩
theorem Zma (s:ByteArray) (k:Nat) (h:k < s.size) (W:World):
 (Instr.slice 9 (.string s) (some (.int .i64 k)) (some (.int .i64 (k+1))) none).run Tryz.prog W= .ok (.string ⟨[s[k]'h].toArray⟩) W:=by
 have:=Z9U s k (k+1) (by omega) (by omega) W;rw[this,show ((k:Int)+1).toNat - k=1 from by omega];have a:k < s.data.toList.length:=by rw[<-Lib.size_eq]; exact h
 have e: (s.data.toList.drop k).take 1= [s[k]'h]:=by
  rw[List.drop_eq_getElem_cons a]; rfl
 rw[e]
theorem Zl2 (s:ByteArray) (hs:s.size<=1000000) (w:World):
 Calls Tryz.prog 164 #[.string s] w fun e w'=> ∃A cap,e= .returned (.slice A (strs (Sem.parts s.data.toList)).length cap)/\Strs w' w'.heap.size A (strs (Sem.parts s.data.toList))/\Below w.heap.size w w':=by
 obtain ⟨i0,hi,V,X,Y⟩:=info_parts (P:=Tryz.prog) (e:=9) (z:= .string ByteArray.empty) (size:=1) (bytes:=16) (by kernel_rfl);go_enter Tryz.func164,Tryz.ntmps164
 go_wp2_with fail
 go_loopw [3,4] (fun v i wr=> ∃(k:Nat) (ps:List (List UInt8)),i= .int .i64 k/\k<=s.size/\Hid (ps=Sem.parts (s.data.toList.take k))/\ps.length<=k+1/\
  wr.ownsRow w.heap.size 9 1 v ps.length ((strs ps).map Value.string)/\Below w.heap.size w wr)
  (fun _ i _=>s.size - (intOf i).toNat)
 case atStart=>
  refine ⟨0,[[]],rfl,Nat.zero_le _,Y1 rfl,by simp, ?_,Y2.alloc (Nat.le_refl _) _⟩;exact World.ownsRow_lit (base:=w.heap.size) (e:=9) (size:=1) w #[.string ByteArray.empty] 1 (Nat.le_refl _) (by simp[maxLen]) rfl
 case round=>
  obtain ⟨k,ps,rfl,hk,J,Q,c,K⟩:=hrel;have S:=K.size;by_cases a:k < s.size
  {have G:k < s.data.toList.length:=by rw[<-Lib.size_eq]; exact a
   by_cases L: (s[k]'a).toNat=46
   {have hd: (((s[k]'a).toNat:Int)==46)=true:=by rw[beq_iff_eq]; omega
    have HN:Hid (ps++ [[]]=Sem.parts (s.data.toList.take (k+1))):=Y1 (by
     rw[List.take_succ_eq_append_getElem G,show s.data.toList[k]=46 from UInt8.toNat_inj.1 L,Sem.Z5l,J.out])
    clear L
    go_wp2_with (at_builtin; refine wpList_append_own _ rfl _ _ 25 rfl w.heap.size 9 i0 (.string ByteArray.empty) 1 16 Tryz.underlying25 hi V X Y rfl (by decide) _ _ _ rfl (c.alloc _) ⟨wr.heap.size,0,none⟩ 1 1 [.string ByteArray.empty] rfl rfl ?c1 ?c2 ?c3 ?c4 ?c5 ?_)
    case c1=>
     intro i u F
     match i,F with
     | 0,F=>simp at F; subst F; simp[Addr.add]; rfl
    case c2=>intro u F; simp at F; subst F; rfl
    case c3=>unfold maxLen; omega
    case c4=>omega
    case c5=>simp; omega
    intro v' w3 B t _;go_wp2
    go_roundw
    case rel=>
     refine ⟨k+1,ps++ [[]],by go_num,by omega,HN,by simp; omega, ?_,(K.alloc S _).grown t (by simp; omega) (fun k hk=>(c.lt k hk).1)⟩;rw[List.length_append,strs,List.map_append,List.map_append];exact B
    case measure=>simp[intOf]; omega}
   {have hd: (((s[k]'a).toNat:Int)==46)=false:=by rw[beq_eq_false_iff_ne]; omega
    obtain ⟨f,p,H,C⟩:=Sem.Z8y (d:=s[k]'a) (fun h=>L (by rw[h]; rfl)) (s.data.toList.take k);have HN:Hid (f++ [p++ [s[k]'a]]=Sem.parts (s.data.toList.take (k+1))):=Y1 (by
     rw[List.take_succ_eq_append_getElem G]; exact C.symm)
    rw[<-J.out] at H;subst H;have a1:p.length<=k:=by
     have:=Sem.Z9L (s.data.toList.take k) p (by rw[<-J.out]; simp);rw[List.length_take] at this; omega
    have y: (f++ [p]).length=f.length+1:=by simp
    have I: (strs (f++ [p])).map Value.string=(strs f).map Value.string++ [.string ⟨p.toArray⟩]:=by simp[strs]
    have D: ((strs f).map Value.string).length=f.length:=by simp[strs]
    rw[y,I] at c;rw[y] at Q;obtain ⟨g,cap,rfl,hg,_⟩:=c.form (by omega);have j:=c.cellAt f.length (by omega);rw[List.getElem?_append_right (by omega),D,Nat.sub_self] at j;have a5:=c.frozenAt f.length;have E:=c.stored f.length (.string ⟨(p++ [s[k]'a]).toArray⟩);have o: ((strs f).map Value.string++ [Value.string ⟨p.toArray⟩]).set f.length (.string ⟨(p++ [s[k]'a]).toArray⟩)=(strs (f++ [p++ [s[k]'a]])).map Value.string:=by
     rw[List.set_append_right _ _ (by omega),D,Nat.sub_self]; simp[strs]
    rw[o] at E;have M:=Y1 E;have O:=Zma s k a;simp only[List.getElem?_cons_zero] at j;clear E o I D y L
    go_wp2_with fail
    have T:IntKind.i64.wrap ((f.length:Nat):Int)=(f.length:Int):=IntWalk.i64_in _ (by omega);have U:IntKind.i64.wrap ((k:Int)+1)=(k:Int)+1:=IntWalk.i64_in _ (by omega);have C: (f.length:Int) < (f.length:Int)+1:=by omega
    have q: (⟨p.toArray⟩:ByteArray).size+(⟨#[s[k]'a]⟩:ByteArray).size<=9223372036854775807:=by
     rw[Z0J,show (⟨#[s[k]'a]⟩:ByteArray).size=1 from rfl]; omega
    have m: ∀W:World,(Op.stringOp .add (⟨p.toArray⟩:ByteArray) ⟨#[s[k]'a]⟩).run Tryz.prog W= .ok (.string ⟨(p++ [s[k]'a]).toArray⟩) W:=fun W=>by
     rw[run_string_add_sum _ _ _ q];exact congrArg (fun b=>Result.ok (Value.string b) W) (Zi1 p [s[k]'a])
    have r: ∀W:World,(binOp .add 9 (.string ⟨p.toArray⟩) (.string ⟨#[s[k]'a]⟩)).run Tryz.prog W= .ok (.string ⟨(p++ [s[k]'a]).toArray⟩) W:=fun W=>m W;have l: ({ heap:=wr.heap,tape:=wr.tape,drawn:=wr.drawn+1,os:=wr.os,output:=wr.output }:World).cell? ⟨g,f.length,none⟩=some (.string ⟨p.toArray⟩):=j
    go_still_tail 17,(by kernel_rfl)
    change wpList _ _ _ _ _ wr.drew;clear T U m r l C q O;go_wp2
    go_roundw
    case rel=>
     refine ⟨k+1,f++ [p++ [s[k]'a]],by go_num,by omega,HN,by simp; omega, ?_,((K.setCell (p:=⟨g,f.length,none⟩) hg _).drew)⟩;have N: (f++ [p++ [s[k]'a]]).length=f.length+1:=by simp
     rw[N];exact M.out.1.drew
    case measure=>simp[intOf]; omega}}
  {have Z:Hid (ps=Sem.parts s.data.toList):=Y1 (by rw[J.out,List.take_of_length_le (by rw[<-Lib.size_eq]; omega)]);have n:ps.length=(strs ps).length:=by simp[strs]
   rw[n] at c;obtain ⟨A,cap,rfl,hS⟩:=ZjP c;have a2:=n.symm;go_wp2;go_ret;refine ⟨A,cap, ?_, ?_,K⟩
   {rw[<-Z.out]; rfl}
   {rw[<-Z.out]; exact hS}}
end
end Go.Proofs.YtgndehppmaacaaaGreatDoor
