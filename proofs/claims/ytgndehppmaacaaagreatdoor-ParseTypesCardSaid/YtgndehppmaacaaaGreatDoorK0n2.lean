/- What the proofs of ParseTypes want, part 2. -/
import Derived.Test.YtgndehppmaacaaaGreatDoorK0n1
set_option linter.unusedVariables false
set_option linter.unusedSimpArgs false
set_option linter.unusedSectionVars false
set_option maxRecDepth 100000
set_option maxHeartbeats 16000000
namespace Lex
section
def ahead:List UInt8:= [32,45,45,32,97,32,114,101,109,97,114,107,32,195,169,10,9]
def Placed (s:List UInt8):Nat->List (Tok×Nat)->Prop
 | a,[]=>a<=s.length
 | a,(t,p)::r=>a<=p/\p<=s.length/\1<=t.kind/\t.kind<=7/\(t.kind=4->Placed s (p+2) r)/\(t.kind≠4->p+t.text.length<=s.length/\(s.drop p).take t.text.length=t.text/\Placed s (p+t.text.length) r)
theorem Placed.less {s:List UInt8} {a b:Nat} (c:b<=a): ∀ {l:List (Tok×Nat)},Placed s a l->Placed s b l
 | [],h=>Nat.le_trans c h
 | (t,p)::r,h=>by
  obtain ⟨d,e⟩:=h;exact ⟨Nat.le_trans c d,e⟩
theorem Z8O {s:List UInt8} {t:Tok} {n:Nat} (h:token s= .ok (t,n)) (b:t.kind=4):2<=n:=by
 obtain ⟨_,a⟩:=Z4S h;obtain ⟨c,d,_⟩:=Z10 h;have:=congrArg List.length a;unfold written at this;rw[if_pos b,List.length_take,List.length_cons,List.length_append] at this;simp only[List.length_cons,List.length_nil] at this;omega
theorem Z2M (s:List UInt8): ∀(k i:Nat) (l:List (Tok×Nat)),s.length - i<=k->i<=s.length->toks (s.drop i) i= .ok l->Placed s i l
 | k,i,l,hk,hi,h=>by
  cases a:s.drop i with
  | nil=>
   rw[a] at h;obtain rfl: []=l:=Except.ok.inj h;exact hi
  | cons c r=>
   have g: (s.drop i).length=r.length+1:=by rw[a]; rfl
   rw[List.length_drop] at g;cases k with
   | zero=>omega
   | succ k=>
    have A:s.drop (i+1)=r:=by
     have:=congrArg List.tail a;simpa[List.tail_drop] using this
    by_cases B:blank c=true
    {rw[a,Z0s B, <-A] at h;exact (Z2M s k (i+1) l (by omega) (by omega) h).less (by omega)}
    {have w:blank c=false:=by simpa using B
     have d: ∀x∈(c::r).head?,blank x=false:=fun x hx=>by
      obtain rfl:c=x:=by simpa using hx
      exact w
     have b: ∀n,(c::r).drop n=s.drop (i+n):=fun n=>by rw[<-a,List.drop_drop]
     cases z:hasRemark (c::r) with
     | true=>
      rw[a,Z0B d z] at h;cases q:remark (c::r).length (c::r) with
      | error j=>rw[q] at h; cases h
      | ok n=>
       rw[q] at h;have D:=Z11 z (f:=r.length) q;have h2:=Z2f _ _ _ q;rw[List.length_cons] at h2;simp only at h;rw[b] at h;exact (Z2M s k (i+n) l (by omega) (by omega) h).less (by omega)
     | false=>
      rw[a,Z0W (by simp) d z] at h;cases u:token (c::r) with
      | error x=>rw[u] at h; cases h
      | ok x=>
       obtain ⟨t,n⟩:=x;rw[u] at h;simp only at h;rw[b] at h;obtain ⟨D,h2,h3,h4,h5⟩:=Z10 u;have v:=fun hk4=>Z8O u hk4;rw[List.length_cons] at h2;cases y:toks (s.drop (i+n)) (i+n) with
       | error e=>rw[y] at h; cases h
       | ok m=>
        rw[y] at h;obtain rfl: (t,i)::m=l:=Except.ok.inj h;have C:=Z2M s k (i+n) m (by omega) (by omega) y;refine ⟨Nat.le_refl _,hi,h4,h5,fun hk4=>C.less (by have:=v hk4; omega),fun hk4=> ?_⟩;have p:=h3 hk4;have o:t.text.length=n:=by rw[p,List.length_take,List.length_cons]; omega
        refine ⟨by omega, ?_,by rw[o]; exact C⟩;rw[o,a];exact p.symm}
def scanR (s:List UInt8):Except (Int×Nat) (List (Tok×Nat)):=if 4096 < s.length then .error (3,4096) else match toks s 0 with
 | .error x=> .error x
 | .ok l=> .ok (l++ [(⟨0,[]⟩,s.length)])
theorem Za2 {s:List UInt8} {e:Int} {k:Nat} (h:token s= .error (e,k)):k<=s.length/\(e=60\/e=30):=by
 cases s with
 | nil=>
  obtain ⟨rfl,rfl⟩:=Prod.mk.inj (Except.error.inj h);exact ⟨Nat.zero_le _,Or.inl rfl⟩
 | cons x r=>
  unfold token at h;simp only at h;have fin: ∀ {e:Int} {k:Nat},(Except.error (60,0):Except (Int×Nat) (Tok×Nat))= .error (e,k)->k<=(x::r).length/\(e=60\/e=30):=fun h=>by
   obtain ⟨rfl,rfl⟩:=Prod.mk.inj (Except.error.inj h);exact ⟨Nat.zero_le _,Or.inl rfl⟩
  split at h
  {split at h
   {cases h}
   split at h
   {cases h}
   split at h
   {cases h}
   {exact fin h}}
  split at h
  {split at h
   {cases h}
   split at h
   {cases h}
   {exact fin h}}
  split at h
  {obtain ⟨d,a,f⟩:=Z1g (x::r).length r (by simp);unfold quoted finish at h;rw[List.tail_cons] at h;rcases b:body (x::r).length r with ⟨ps,rest⟩;rw[b] at h a;simp only at h a;cases rest with
   | nil=>exact fin h
   | cons c q=>
    simp only at h;split at h
    {cases h}
    split at h
    {exact fin h}
    {obtain ⟨rfl,rfl⟩:=Prod.mk.inj (Except.error.inj h);have:=congrArg List.length a;rw[List.length_append,List.length_cons] at this;exact ⟨by rw[List.length_cons]; omega,Or.inr rfl⟩}}
  split at h
  {cases h}
  split at h
  {cases h}
  {exact fin h}
theorem Z4T: ∀(f:Nat) (l:List UInt8) (n:Nat),remark f l= .error n->n<=l.length
 | 0,l,n,h=>by cases h
 | f+1,[],n,h=>by cases h
 | f+1,c::r,n,h=>by
  rw[remark] at h;split at h
  {cases h}
  split at h
  {obtain rfl:=Except.error.inj h;omega}
  {rename_i a
   rcases b:Utf.first (c::r) with ⟨p,k⟩;rw[b] at h a;obtain ⟨_,_,_,e⟩:=Utf.Z0O b a;simp only at h;split at h
   {cases h}
   {rename_i m d
    obtain rfl:k+m=n:=Except.error.inj h;have:=Z4T f _ m d;rw[List.length_drop] at this;omega}}
theorem Z4C: ∀(k:Nat) (a:List UInt8) (i:Nat) (e:Int) (j:Nat),a.length<=k->toks a i= .error (e,j)->j<=i+a.length/\(e=60\/e=30)
 | _,[],_,_,_,_,h=>by cases h
 | 0,c::r,_,_,_,h,_=>by simp at h
 | k+1,c::r,i,e,j,hk,h=>by
  rw[List.length_cons] at hk ⊢;by_cases q:blank c=true
  {rw[Z0s q] at h;have:=Z4C k r (i+1) e j (by omega) h;exact ⟨by omega,this.2⟩}
  {have l:blank c=false:=by simpa using q
   have b: ∀x∈(c::r).head?,blank x=false:=fun x hx=>by
    obtain rfl:c=x:=by simpa using hx
    exact l
   cases p:hasRemark (c::r) with
   | true=>
    rw[Z0B b p] at h;cases d:remark (c::r).length (c::r) with
    | error n=>
     rw[d] at h;obtain ⟨rfl,rfl⟩:=Prod.mk.inj (Except.error.inj h);have:=Z4T _ _ _ d;rw[List.length_cons] at this;exact ⟨by omega,Or.inr rfl⟩
    | ok n=>
     rw[d] at h;have s:=Z11 p (f:=r.length) d;have h2:=Z2f _ _ _ d;rw[List.length_cons] at h2;have:=Z4C k _ (i+n) e j (by rw[List.length_drop,List.length_cons]; omega) h;rw[List.length_drop,List.length_cons] at this;exact ⟨by omega,this.2⟩
   | false=>
    rw[Z0W (by simp) b p] at h;cases g:token (c::r) with
    | error x=>
     obtain ⟨u,n⟩:=x;rw[g] at h;obtain ⟨rfl,rfl⟩:=Prod.mk.inj (Except.error.inj h);have:=Za2 g;rw[List.length_cons] at this;exact ⟨by omega,this.2⟩
    | ok x=>
     obtain ⟨t,n⟩:=x;rw[g] at h;simp only at h;obtain ⟨s,h2,_⟩:=Z10 g;rw[List.length_cons] at h2;cases o:toks ((c::r).drop n) (i+n) with
     | ok m=>rw[o] at h; cases h
     | error y=>
      rw[o] at h;obtain rfl:y=(e,j):=Except.error.inj h;have:=Z4C k _ (i+n) e j (by rw[List.length_drop,List.length_cons]; omega) o;rw[List.length_drop,List.length_cons] at this;exact ⟨by omega,this.2⟩}
theorem Z4i: ∀(f g:Nat) (l:List UInt8),l.length<=f->l.length<=g->remark f l=remark g l
 | f,g,[],_,_=>by cases f <;> cases g <;> rfl
 | 0,_,c::r,h,_=>by simp at h
 | f+1,0,c::r,_,h=>by simp at h
 | f+1,g+1,c::r,hf,hg=>by
  rw[List.length_cons] at hf hg;rw[remark,remark];split
  {rfl}
  split
  {rfl}
  {rename_i a
   rcases b:Utf.first (c::r) with ⟨p,k⟩;rw[b] at a;simp only at a ⊢;rw[Z4i f g ((c::r).drop k) (by rw[List.length_drop,List.length_cons]; omega) (by rw[List.length_drop,List.length_cons]; omega)]}
def remarkOf (l:List UInt8):Except Nat Nat:=remark l.length l
def up (k:Nat):Except Nat Nat->Except Nat Nat
 | .ok n=> .ok (k+n)
 | .error n=> .error (k+n)
theorem Zqb (a b:Nat) (x:Except Nat Nat):up a (up b x)=up (a+b) x:=by cases x <;> simp[up,Nat.add_assoc]
theorem ZiX:remarkOf []= .ok 0:=rfl
theorem Zis (r:List UInt8):remarkOf (10::r)= .ok 0:=by unfold remarkOf; rw[List.length_cons,remark,if_pos rfl]
theorem ZiY {c:UInt8} {r:List UInt8} (a:c≠10) (h: (Utf.first (c::r)).2=0):remarkOf (c::r)= .error 0:=by
 unfold remarkOf; rw[List.length_cons,remark,if_neg a,if_pos h]
theorem Zit {c:UInt8} {r:List UInt8} {p:Int} {k:Nat} (a:c≠10) (h:Utf.first (c::r)=(p,k)) (b:k≠0):remarkOf (c::r)=up k (remarkOf ((c::r).drop k)):=by
 unfold remarkOf;rw[List.length_cons,remark,if_neg a,h,if_neg b];simp only;rw[Z4i r.length ((c::r).drop k).length _ (by rw[List.length_drop,List.length_cons]; omega) (Nat.le_refl _)];cases remark ((c::r).drop k).length ((c::r).drop k) <;> rfl
def passed (l:List UInt8):Except Nat Nat:=
 if hasRemark (l.drop (l.takeWhile blank).length) then up (l.takeWhile blank).length (remarkOf (l.drop (l.takeWhile blank).length)) else .ok (l.takeWhile blank).length
theorem ZfV (x y:UInt8) (q:List UInt8):hasRemark (x::y::q)=(x==45&&y==45):=by
 by_cases a:x=45
 {by_cases b:y=45
  {subst a; subst b; rfl}
  {have: (y==45)=false:=beq_eq_false_iff_ne.2 b;rw[this,Bool.and_false];unfold hasRemark; split
   {rename_i h; simp at h; exact absurd h.2.1 b}
   {rfl}}}
 {have: (x==45)=false:=beq_eq_false_iff_ne.2 a;rw[this,Bool.false_and];unfold hasRemark; split
  {rename_i h; simp at h; exact absurd h.1 a}
  {rfl}}
theorem Zf0 {l:List UInt8} (h:l.length<=1):hasRemark l=false:=by
 match l,h with
 | [],_=>rfl
 | [x],_=>
  unfold hasRemark; split
  {rename_i h; simp at h}
  {rfl}
theorem Z4j: ∀(l:List UInt8) (i:Nat),toks l i=toks (l.drop (l.takeWhile blank).length) (i+(l.takeWhile blank).length)
 | [],i=>rfl
 | c::r,i=>by
  by_cases a:blank c=true
  {rw[Z0s a,List.takeWhile_cons_of_pos a,List.length_cons,List.drop_succ_cons,Z4j r (i+1)];rw[show i+1+(r.takeWhile blank).length=i+((r.takeWhile blank).length+1) from by omega]}
  {rw[List.takeWhile_cons_of_neg a]; rfl}
theorem Z8j (p:UInt8->Bool): ∀l:List UInt8,∀c∈(l.drop (l.takeWhile p).length).head?,p c=false
 | [],c,h=>by simp at h
 | x::r,c,h=>by
  by_cases a:p x=true
  {rw[List.takeWhile_cons_of_pos a,List.length_cons,List.drop_succ_cons] at h;exact Z8j p r c h}
  {rw[List.takeWhile_cons_of_neg a] at h;simp at h;subst h;simpa using a}
theorem ZjU (l:List UInt8) (i:Nat):match passed l with
 | .error k=>toks l i= .error (30,i+k)
 | .ok 0=>hasRemark l=false/\ ∀c∈l.head?,blank c=false
 | .ok (n+1)=>toks l i=toks (l.drop (n+1)) (i+(n+1)):=by
 obtain ⟨b,j⟩: ∃b,b=(l.takeWhile blank).length:=⟨_,rfl⟩;have d:=Z4j l i;have e:=Z8j blank l;unfold passed;rw[<-j] at d e ⊢;cases a:hasRemark (l.drop b) with
 | false=>
  rw[if_neg (by simp)];cases b with
  | zero=>simp only; rw[List.drop_zero] at a e; exact ⟨a,e⟩
  | succ b=>exact d
 | true=>
  rw[if_pos rfl];have f:=Z0B e a (i+b);unfold remarkOf;cases g:remark (l.drop b).length (l.drop b) with
  | error k=>
   rw[g] at f;simp only[up];rw[d,f];simp only[Nat.add_assoc]
  | ok n=>
   rw[g] at f;have h:1<=n:=by
    have p: (l.drop b).length=(l.drop b).length - 1+1:=by
     have:1<=(l.drop b).length:=by
      cases o:l.drop b with
      | nil=>rw[o] at a; cases a
      | cons c r=>simp
     omega
    rw[p] at g;exact Z11 a g
   obtain ⟨m,rfl⟩: ∃m,n=m+1:=⟨n - 1,by omega⟩;show toks l i=toks (l.drop (b+m+1)) (i+(b+m+1));rw[d,f];simp only;rw[List.drop_drop];rw[show b+(m+1)=b+m+1 from by omega,show i+b+(m+1)=i+(b+m+1) from by omega]
def kindR (l:List UInt8):Option Int:=if isWord l then some 5 else if isName l then some 1 else if isUpper l then some 2 else if isSign l then some 6 else if number l then some 3 else if (Sem.parse l).isSome then some 7 else none
def longest:List UInt8->List UInt8
 | []=> []
 | c::r=>if small c||great c then (c::r).takeWhile nameB else if digit c then (c::r).takeWhile lumpB else if isSign ((c::r).take 2) then (c::r).take 2 else [c]
theorem Z3E {L:List (List UInt8)} {p:UInt8->Bool} (d:L.all (fun x=>match x with | []=>false | a::_=>p a)=true) {c:UInt8} {t:List UInt8} (b:p c=false):L.contains (c::t)=false:=by
 cases h:L.contains (c::t) with
 | false=>rfl
 | true=>
  have:=List.all_eq_true.1 d _ (List.contains_iff_mem.1 h);simp only at this;rw[this] at b; cases b
section
variable {c : UInt8} {t : List UInt8}
include c t
theorem Z8k (h:small c=false):isWord (c::t)=false:=
 Z3E (p:=small) (by decide) h
theorem Z8l (h: (small c||great c||digit c)=true):isSign (c::t)=false:=
 Z3E (p:=fun c=> !(small c||great c||digit c)) (by decide) (by rw[h]; rfl)
theorem Z5x (h:digit c=false):number (c::t)=false:=by
 unfold number; simp[h]
end
theorem classes (c:UInt8): (digit c=true->small c=false/\great c=false)/\(small c=true->digit c=false/\great c=false)/\(great c=true->digit c=false/\small c=false):=by
 unfold digit small great;simp only[Bool.and_eq_true,decide_eq_true_eq,Bool.and_eq_false_iff,decide_eq_false_iff_not];omega
theorem Z6l {c:UInt8} {t:List UInt8} (h:digit c=false):Sem.parse (c::t)=none:=by
 cases e:Sem.parse (c::t) with
 | none=>rfl
 | some v=>
  exfalso;obtain ⟨_,b⟩:=Sem.Z8A e;cases d:Sem.dec v.maj.toNat with
  | nil=>exact Sem.Z4L _ d
  | cons a q=>
   have:=Sem.Z48 v.maj.toNat a (by rw[d]; simp);unfold Sem.text at b;rw[d,List.cons_append] at b;rw[<-(List.cons.inj b).1] at h;unfold digit at h;simp only[Bool.and_eq_false_iff,decide_eq_false_iff_not] at h;omega
theorem Z8P (c:UInt8) (r:List UInt8):token (c::r)=
 if small c||great c then
  (let t:=(c::r).takeWhile nameB
   if isWord t then .ok (⟨5,t⟩,t.length) else if isName t then .ok (⟨1,t⟩,t.length) else if isUpper t then .ok (⟨2,t⟩,t.length) else .error (60,0))
 else if digit c then
  (let t:=(c::r).takeWhile lumpB
   if number t then .ok (⟨3,t⟩,t.length) else if (Sem.parse t).isSome then .ok (⟨7,t⟩,t.length) else .error (60,0))
 else if c=34 then quoted (c::r)
 else if decide (2<=(c::r).length)&&isSign ((c::r).take 2) then .ok (⟨6,(c::r).take 2⟩,2)
 else if isSign [c] then .ok (⟨6,[c]⟩,1)
 else .error (60,0):=rfl
theorem Z6m (c:UInt8) (r:List UInt8):longest (c::r)=if small c||great c then (c::r).takeWhile nameB else if digit c then (c::r).takeWhile lumpB else if isSign ((c::r).take 2) then (c::r).take 2 else [c]:=rfl
theorem Zmi {c:UInt8} {r:List UInt8} (m:c≠34):token (c::r)=match kindR (longest (c::r)) with
 | some k=> .ok (⟨k,longest (c::r)⟩,(longest (c::r)).length)
 | none=> .error (60,0):=by
 obtain ⟨A,y,z⟩:=classes c;rw[Z8P,Z6m];by_cases f: (small c||great c)=true
 {rw[if_pos f,if_pos f];have p:nameB c=true:=by unfold nameB; rw[f]; rfl
  have v:digit c=false:=by
   rcases Bool.or_eq_true _ _▸f with h | h
   {exact (y h).1}
   {exact (z h).1}
  have s: (small c||great c||digit c)=true:=by rw[f]; rfl
  rw[List.takeWhile_cons_of_pos p];unfold kindR;simp only;rw[Z8l s,Z5x v,Z6l v];split
  {rfl}
  split
  {rfl}
  split
  {rfl}
  {rfl}}
 {rw[if_neg f,if_neg f];have j:small c=false:=by simpa using (fun h=>f (by rw[h]; rfl):small c≠true)
  have n:great c=false:=by simpa using (fun h=>f (by rw[h]; simp):great c≠true)
  have e: ∀t,isName (c::t)=false:=fun t=>by show (decide ((c::t).length<=24)&&small c&&(c::t).all nameB&& !isWord (c::t))=false; rw[j]; simp
  have b: ∀t,isUpper (c::t)=false:=fun t=>by show (decide ((c::t).length<=24)&&great c&&(c::t).all nameB)=false; rw[n]; simp
  by_cases i:digit c=true
  {rw[if_pos i,if_pos i];have p:lumpB c=true:=by unfold lumpB; rw[i]; simp
   have s: (small c||great c||digit c)=true:=by rw[i]; simp
   rw[List.takeWhile_cons_of_pos p];unfold kindR;rw[Z8k j,e,b,Z8l s];simp only[Bool.false_eq_true,if_false];split
   {rfl}
   split
   {rfl}
   {rfl}}
  {rw[if_neg i,if_neg i,if_neg m];have l:digit c=false:=by simpa using i
   have o: ∀t,kindR (c::t)=if isSign (c::t) then some 6 else none:=fun t=>by
    unfold kindR;rw[Z8k j,e,b,Z5x l,Z6l l];simp
   cases r with
   | nil=>
    have u: ([c]:List UInt8).take 2= [c]:=rfl;rw[u];simp only[ite_self,List.length_cons,List.length_nil];rw[o];by_cases a:isSign [c]=true
    {simp[a]}
    {simp[a]}
   | cons d q=>
    have u: (c::d::q).take 2= [c,d]:=rfl;rw[u];have w:decide (2<=(c::d::q).length)=true:=by simp
    rw[w,Bool.true_and];by_cases a:isSign [c,d]=true
    {rw[if_pos a,if_pos a,o,if_pos a]; rfl}
    {rw[if_neg a,if_neg a,o];by_cases g:isSign [c]=true
     {rw[if_pos g,if_pos g]; rfl}
     {rw[if_neg g,if_neg g]}}}}
def unesc (d:UInt8):Option UInt8:=if d=110 then some 10 else if d=116 then some 9 else if d=34 then some 34 else if d=92 then some 92 else none
def unq:List UInt8->List UInt8×Nat×Bool
 | []=>([],0,false)
 | c::r=>if c=34 then ([],1,true) else if c=92 then
  (match r with
  | []=>([],0,false)
  | d::q=>match unesc d with
   | none=>([],0,false)
   | some x=>(x::(unq q).1,(unq q).2.1+2,(unq q).2.2))
  else if c.toNat < 32 then ([],0,false) else (c::(unq r).1,(unq r).2.1+1,(unq r).2.2)
theorem Z13 (c:UInt8) (r:List UInt8):unq (c::r)=if c=34 then ([],1,true) else if c=92 then
 (match r with
 | []=>([],0,false)
 | d::q=>match unesc d with
  | none=>([],0,false)
  | some x=>(x::(unq q).1,(unq q).2.1+2,(unq q).2.2))
 else if c.toNat < 32 then ([],0,false) else (c::(unq r).1,(unq r).2.1+1,(unq r).2.2):=by cases r <;> rfl
theorem Z8m: ∀(k:Nat) (l:List UInt8),l.length<=k->(unq l).2.1<=l.length/\(unq l).1.length<=(unq l).2.1
 | _,[],_=>⟨Nat.le_refl _,Nat.le_refl _⟩
 | 0,c::r,h=>by simp at h
 | k+1,c::r,h=>by
  rw[List.length_cons] at h;rw[Z13];split
  {simp}
  split
  {cases r with
   | nil=>simp
   | cons d q=>
    rw[List.length_cons] at h;simp only;have:=Z8m k q (by omega);split
    {simp}
    {simp only[List.length_cons]; omega}}
  split
  {simp}
  {have:=Z8m k r (by omega);simp only[List.length_cons]; omega}
theorem Z5y: ∀(b l:List UInt8),(∀x∈b,x≠34/\x≠92/\32<=x.toNat)->unq (b++l)=(b++(unq l).1,(unq l).2.1+b.length,(unq l).2.2)
 | [],l,_=>by simp
 | x::b,l,h=>by
  obtain ⟨a,c,d⟩:=h x (by simp);rw[List.cons_append,Z13,if_neg a,if_neg c,if_neg (by omega),Z5y b l (fun y hy=>h y (List.mem_cons_of_mem _ hy))];simp only[List.cons_append,List.length_cons];congr 2
theorem Za3 {p:Int} (h:Utf.pt p=true) (b:32<=p) (j:p≠34) (k:p≠92): ∀x∈Utf.bytes p,x≠34/\x≠92/\32<=x.toNat:=by
 obtain ⟨a,r,e,f,m,g⟩:=Z24 h b j k;obtain ⟨l,r',d,_,_,i⟩:=Utf.Z0V p h;rw[e] at d;obtain ⟨rfl,rfl⟩:=List.cons.inj d;rw[e];intro x c;rcases List.mem_cons.1 c with rfl | c
 {exact ⟨f,g,by omega⟩}
 {have:=(i x c).1;refine ⟨?_, ?_,by omega⟩
  {rintro rfl; revert this; decide}
  {rintro rfl; revert this; decide}}
theorem ZbW {p:Int} (h:okP p=true) (l:List UInt8):unq (escP p++l)=(Utf.bytes p++(unq l).1,(unq l).2.1+(escP p).length,(unq l).2.2):=by
 simp only[okP,Bool.and_eq_true,Bool.or_eq_true,decide_eq_true_eq] at h;obtain ⟨e,f⟩:=h;unfold escP;by_cases c:p=10
 {subst c; rw[if_pos rfl]; show unq (92::110::l)=_; rw[Z13]; simp[unesc]; rfl}
 rw[if_neg c];by_cases d:p=9
 {subst d; rw[if_pos rfl]; show unq (92::116::l)=_; rw[Z13]; simp[unesc]; rfl}
 rw[if_neg d];by_cases a:p=34
 {subst a; rw[if_pos rfl]; show unq (92::34::l)=_; rw[Z13]; simp[unesc]; rfl}
 rw[if_neg a];by_cases b:p=92
 {subst b; rw[if_pos rfl]; show unq (92::92::l)=_; rw[Z13]; simp[unesc]; rfl}
 rw[if_neg b];exact Z5y _ _ (Za3 e (by omega) a b)
theorem Z6n: ∀(ps:List Int) (l:List UInt8),(∀p∈ps,okP p=true)->unq (esc ps++l)=(Utf.enc ps++(unq l).1,(unq l).2.1+(esc ps).length,(unq l).2.2)
 | [],l,_=>by simp[esc,Utf.enc]
 | p::ps,l,h=>by
  have e:esc (p::ps)++l=escP p++(esc ps++l):=by simp[esc]
  have a: (esc (p::ps)).length=(escP p).length+(esc ps).length:=by simp[esc]
  rw[e,ZbW (h p (by simp)),Z6n ps l (fun q hq=>h q (List.mem_cons_of_mem _ hq)),Utf.Z0T,a];simp only[List.append_assoc];congr 2;omega
theorem Z8n: ∀(ps:List Int),(∀p∈ps,okP p=true)-> ∃c,esc ps=Utf.enc c/\ ∀q∈c,Utf.pt q=true
 | [],_=>⟨[],rfl,by simp⟩
 | p::ps,h=>by
  obtain ⟨c,k,l⟩:=Z8n ps (fun q a=>h q (List.mem_cons_of_mem _ a));have m:=h p (by simp);simp only[okP,Bool.and_eq_true,Bool.or_eq_true,decide_eq_true_eq] at m;have e:esc (p::ps)=escP p++esc ps:=by simp[esc]
  have b: ∀x:Int,x=110\/x=116\/x=34\/x=92->escP p=Utf.bytes 92++Utf.bytes x-> ∃c,esc (p::ps)=Utf.enc c/\ ∀q∈c,Utf.pt q=true:=fun x hx d=>by
   refine ⟨92::x::c,by rw[e,d,k,Utf.Z0T,Utf.Z0T,List.append_assoc],fun q a=> ?_⟩;rcases List.mem_cons.1 a with rfl | a
   {rfl}
   rcases List.mem_cons.1 a with rfl | a
   {rcases hx with rfl | rfl | rfl | rfl <;> rfl}
   {exact l q a}
  by_cases f:p=10
  {exact b 110 (by simp) (by subst f; rfl)}
  by_cases g:p=9
  {exact b 116 (by simp) (by subst g; rfl)}
  by_cases i:p=34
  {exact b 34 (by simp) (by subst i; rfl)}
  by_cases j:p=92
  {exact b 92 (by simp) (by subst j; rfl)}
  {have d:escP p=Utf.bytes p:=by unfold escP; rw[if_neg f,if_neg g,if_neg i,if_neg j]
   refine ⟨p::c,by rw[e,d,k,Utf.Z0T],fun q a=> ?_⟩;rcases List.mem_cons.1 a with rfl | a
   {exact m.1}
   {exact l q a}}
theorem Zl9 (r:List UInt8): ∃ps rest,Utf.Reads ((34::r).take (1+(unq r).2.1)) ps rest/\
 quoted (34::r)=if rest≠ [] then .error (30,(Utf.enc ps).length) else if (unq r).2.2 then .ok (⟨4,(unq r).1⟩,1+(unq r).2.1) else .error (60,0):=by
 obtain ⟨y,z,e⟩:=Z1g (34::r).length r (by simp);have m:quoted (34::r)=finish (body (34::r).length r):=rfl;rcases G:body (34::r).length r with ⟨ps,tl⟩;rw[G] at y z e m;simp only at y z e;rw[m,z,Z6n ps tl y];obtain ⟨l,w,A⟩:=Z8n ps y;have f: ∀q∈34::l,Utf.pt q=true:=fun q m=>by
  rcases List.mem_cons.1 m with rfl | m
  {rfl}
  {exact A q m}
 have s:Utf.enc (34::l)=34::Utf.enc l:=rfl
 -- how far the bytes go
 have g: ∀n,(34::(esc ps++tl)).take (1+(n+(esc ps).length))=Utf.enc (34::l)++tl.take n:=fun n=>by
  rw[show 1+(n+(esc ps).length)=((esc ps).length+n)+1 by omega,List.take_succ_cons,List.take_length_add_append,s, <-w];rfl
 have j:tl.length=0\/(∃c q,tl=c::q/\c≠34/\(c=92\/c.toNat < 32))->unq tl=([],0,false)->finish (ps,tl)= .error (60,0)-> ∃ps_1 rest,Utf.Reads ((34::(esc ps++tl)).take (1+((unq tl).2.1+(esc ps).length))) ps_1 rest/\
  finish (ps,tl)=if rest≠ [] then .error (30,(Utf.enc ps_1).length) else if (unq tl).2.2 then .ok (⟨4,Utf.enc ps++(unq tl).1⟩,1+((unq tl).2.1+(esc ps).length)) else .error (60,0):=fun _ o k=>by
  refine ⟨34::l,[],⟨f, ?_,rfl⟩, ?_⟩
  {rw[o,g]; rfl}
  {rw[o,k]; rfl}
 cases tl with
 | nil=>exact j (Or.inl rfl) rfl rfl
 | cons c q=>
  by_cases a:c=34
  {have o:unq (c::q)=([],1,true):=by rw[Z13,if_pos a]
   have k:finish (ps,c::q)= .ok (⟨4,Utf.enc ps⟩,(esc ps).length+2):=by unfold finish; simp only; rw[if_pos a]
   rw[o,k];refine ⟨34::l++ [34],[],⟨fun p v=> ?_, ?_,rfl⟩, ?_⟩
   {rcases List.mem_append.1 v with v | v
    {exact f p v}
    {obtain rfl:p=34:=by simpa using v
     rfl}}
   {rw[g,a,List.append_nil,Utf.Z3i]; rfl}
   {simp only[ne_eq,not_true_eq_false,if_false,List.append_nil,if_true];rw[show 1+(1+(esc ps).length)=(esc ps).length+2 by omega]}}
  {have k:finish (ps,c::q)=if c.toNat < 32\/c=92 then .error (60,0) else .error (30,(esc ps).length+1):=by unfold finish; simp only; rw[if_neg a]
   by_cases b:c=92
   {refine j (Or.inr ⟨c,q,rfl,a,Or.inl b⟩) ?_ (by rw[k,if_pos (Or.inr b)]);rw[Z1U,if_neg (by rintro (h | h); exact a h; rw[b] at h; revert h; decide),if_pos b] at e;rw[Z13,if_neg a,if_pos b];cases q with
    | nil=>rfl
    | cons d u=>
     simp only at e ⊢;have:unesc d=none:=by
      unfold unesc;by_cases B:d=110
      {rw[if_pos B] at e; cases e}
      rw[if_neg B] at e ⊢;by_cases C:d=116
      {rw[if_pos C] at e; cases e}
      rw[if_neg C] at e ⊢;by_cases D:d=34
      {rw[if_pos D] at e; cases e}
      rw[if_neg D] at e ⊢;by_cases E:d=92
      {rw[if_pos E] at e; cases e}
      rw[if_neg E]
     rw[this]}
   {by_cases i:c.toNat < 32
    {exact j (Or.inr ⟨c,q,rfl,a,Or.inr i⟩) (by rw[Z13,if_neg a,if_neg b,if_pos i]) (by rw[k,if_pos (Or.inl i)])}
    {have o:unq (c::q)=(c::(unq q).1,(unq q).2.1+1,(unq q).2.2):=by rw[Z13,if_neg a,if_neg b,if_neg i]
     rw[k,if_neg (by rintro (h | h); exact i h; exact b h)];rw[Z1U,if_neg (by rintro (h | h); exact a h; exact i h),if_neg b] at e;have t: (Utf.first (c::q)).2=0:=by
      by_cases h: (Utf.first (c::q)).2=0
      {exact h}
      {rw[if_neg h] at e; cases e}
     have F: (unq (c::q)).2.1=(unq q).2.1+1:=by rw[o]
     refine ⟨34::l,(c::q).take ((unq q).2.1+1),⟨f,by rw[F,g], ?_⟩, ?_⟩
     {apply Utf.Z1K;by_cases h: (Utf.first ((c::q).take ((unq q).2.1+1))).2=0
      {exact h}
      {have:=Z3p h ((c::q).drop ((unq q).2.1+1));rw[List.take_append_drop] at this;rw[this] at t; exact absurd t h}}
     {rw[if_pos (by simp),s,List.length_cons,w]}}}}
theorem Z8Q: ∀(f:Nat) (l:List UInt8),l.length<=f-> ∃ps rest,Utf.Reads (l.takeWhile (· !=10)) ps rest/\
 remark f l=if rest≠ [] then .error (Utf.enc ps).length else .ok (l.takeWhile (· !=10)).length
 | 0,l,h=>by
  obtain rfl:l= []:=List.eq_nil_of_length_eq_zero (by omega);exact ⟨[],[],⟨by simp,rfl,rfl⟩,rfl⟩
 | f+1,[],_=>⟨[],[],⟨by simp,rfl,rfl⟩,rfl⟩
 | f+1,c::r,h=>by
  rw[List.length_cons] at h;by_cases b:c=10
  {subst b;exact ⟨[],[],⟨by simp,rfl,rfl⟩,by rw[remark,if_pos rfl]; rfl⟩}
  {have z: (c !=10)=true:=by simpa using b
   obtain ⟨t,v⟩: ∃t,t=(c::r).takeWhile (· !=10):=⟨_,rfl⟩
   obtain ⟨d,C⟩: ∃d,c::r=t++d:=⟨_,by rw[v]; exact (List.takeWhile_append_dropWhile).symm⟩;by_cases g: (Utf.first (c::r)).2=0
   {refine ⟨[],t,⟨by simp,by rw[<-v]; rfl, ?_⟩, ?_⟩
    {apply Utf.Z1K;by_cases h: (Utf.first t).2=0
     {exact h}
     {have:=Z3p h d;rw[<-C] at this;rw[this] at g; exact absurd g h}}
    {have s:t≠ []:=by rw[v,List.takeWhile_cons,if_pos z]; simp
     rw[if_pos s,remark,if_neg b,if_pos g]; rfl}}
   {rcases o:Utf.first (c::r) with ⟨p,k⟩;rw[o] at g;simp only at g;obtain ⟨y,A,n,E⟩:=Utf.Z0O o g;obtain ⟨ps,rest,w,D⟩:=Z8Q f ((c::r).drop k) (by rw[List.length_drop,List.length_cons]; omega);have j: ∀x∈Utf.bytes p,(x !=10)=true:=by
     obtain ⟨a,q,e,_,_,B⟩:=Utf.Z0V p y;rw[e] at n ⊢;intro x i;rcases List.mem_cons.1 i with rfl | i
     {rw[List.cons_append] at n;rw[<-(List.cons.inj n).1]; exact z}
     {have:=(B x i).1;have:x≠10:=by rintro rfl; revert this; decide
      simpa using this}
    have m: (c::r).takeWhile (· !=10)=Utf.bytes p++((c::r).drop k).takeWhile (· !=10):=by
     conv=>lhs; rw[n]
     rw[List.takeWhile_append_of_pos j]
    refine ⟨p::ps,rest,⟨fun x i=> ?_, ?_,w.none⟩, ?_⟩
    {rcases List.mem_cons.1 i with rfl | i
     {exact y}
     {exact w.pts x i}}
    {rw[m,Utf.Z0T,List.append_assoc, <-w.text]}
    {rw[remark,if_neg b,o];simp only;rw[if_neg g,D,m,Utf.Z0T,List.length_append,List.length_append,Utf.Z0n, <-A];by_cases u:rest= []
     {subst u; simp}
     {rw[if_pos u,if_pos u]}}}}
end
end Lex
namespace Lex
def letter (c:UInt8):Bool:=small c||great c
theorem Z6o (c:UInt8):nameB c=(letter c||digit c||c==95):=rfl
theorem ZiZ (c:UInt8):lumpB c=(letter c||digit c||c==46||c==45):=rfl
end Lex
namespace Go.Proofs.YtgndehppmaacaaaGreatDoor
open Go.RowKit
section
variable (c : UInt8)
include c
theorem Zp3: ((c.toNat:Int)==46)=(c==46):=by
 rw[Bool.eq_iff_iff,beq_iff_eq,beq_iff_eq];constructor
 {intro h; apply UInt8.toNat_inj.1; show c.toNat=46; omega}
 {rintro rfl; rfl}
theorem Zp4: ((c.toNat:Int)==45)=(c==45):=by
 rw[Bool.eq_iff_iff,beq_iff_eq,beq_iff_eq];constructor
 {intro h; apply UInt8.toNat_inj.1; show c.toNat=45; omega}
 {rintro rfl; rfl}
theorem Z1q (w:World):
 Calls Tryz.prog 153 #[.int .u8 (c.toNat:Int)] w fun e w'=>e= .returned (.bool (Lex.small c))/\w=w':=by
 have d:=c.toNat_lt;have H:c.toNat<=96\/(97<=c.toNat/\c.toNat<=122)\/123<=c.toNat:=by omega
 have a:Hid (Lex.small c=(decide (97<=c.toNat)&&decide (c.toNat<=122))):=Y1 rfl;obtain ⟨n,g⟩: ∃n,n=c.toNat:=⟨_,rfl⟩;rw[<-g] at H a d ⊢;clear g;rcases H with b | ⟨b,h⟩ | b
 {have f:decide ((97:Int)<=(n:Int))=false:=decide_eq_false (by omega);go_enter Tryz.func153,Tryz.ntmps153;go_wp2;go_ret;exact ⟨by rw[a.out,decide_eq_false (by omega)]; rfl,rfl⟩}
 {have f:decide ((n:Int)<=122)=true:=decide_eq_true (by omega);have i:decide ((97:Int)<=(n:Int))=true:=decide_eq_true (by omega);go_enter Tryz.func153,Tryz.ntmps153;go_wp2;go_ret;exact ⟨by rw[a.out,decide_eq_true b,decide_eq_true h]; rfl,rfl⟩}
 {have f:decide ((n:Int)<=122)=false:=decide_eq_false (by omega);have i:decide ((97:Int)<=(n:Int))=true:=decide_eq_true (by omega);go_enter Tryz.func153,Tryz.ntmps153;go_wp2;go_ret;exact ⟨by rw[a.out,decide_eq_false (p:=n<=122) (by omega),Bool.and_false]; rfl,rfl⟩}
theorem Z2N (w:World):
 Calls Tryz.prog 124 #[.int .u8 (c.toNat:Int)] w fun e w'=>e= .returned (.bool (Lex.great c))/\w=w':=by
 have d:=c.toNat_lt;have H:c.toNat<=64\/(65<=c.toNat/\c.toNat<=90)\/91<=c.toNat:=by omega
 have a:Hid (Lex.great c=(decide (65<=c.toNat)&&decide (c.toNat<=90))):=Y1 rfl;obtain ⟨n,g⟩: ∃n,n=c.toNat:=⟨_,rfl⟩;rw[<-g] at H a d ⊢;clear g;rcases H with b | ⟨b,h⟩ | b
 {have f:decide ((65:Int)<=(n:Int))=false:=decide_eq_false (by omega);go_enter Tryz.func124,Tryz.ntmps124;go_wp2;go_ret;exact ⟨by rw[a.out,decide_eq_false (by omega)]; rfl,rfl⟩}
 {have f:decide ((n:Int)<=90)=true:=decide_eq_true (by omega);have i:decide ((65:Int)<=(n:Int))=true:=decide_eq_true (by omega);go_enter Tryz.func124,Tryz.ntmps124;go_wp2;go_ret;exact ⟨by rw[a.out,decide_eq_true b,decide_eq_true h]; rfl,rfl⟩}
 {have f:decide ((n:Int)<=90)=false:=decide_eq_false (by omega);have i:decide ((65:Int)<=(n:Int))=true:=decide_eq_true (by omega);go_enter Tryz.func124,Tryz.ntmps124;go_wp2;go_ret;exact ⟨by rw[a.out,decide_eq_false (p:=n<=90) (by omega),Bool.and_false]; rfl,rfl⟩}
theorem Z2O (w:World):
 Calls Tryz.prog 184 #[.int .u8 (c.toNat:Int)] w fun e w'=>e= .returned (.bool (Lex.digit c))/\w=w':=by
 have d:=c.toNat_lt;have H:c.toNat<=47\/(48<=c.toNat/\c.toNat<=57)\/58<=c.toNat:=by omega
 have a:Hid (Lex.digit c=(decide (48<=c.toNat)&&decide (c.toNat<=57))):=Y1 rfl;obtain ⟨n,g⟩: ∃n,n=c.toNat:=⟨_,rfl⟩;rw[<-g] at H a d ⊢;clear g;rcases H with b | ⟨b,h⟩ | b
 {have f:decide ((48:Int)<=(n:Int))=false:=decide_eq_false (by omega);go_enter Tryz.func184,Tryz.ntmps184;go_wp2;go_ret;exact ⟨by rw[a.out,decide_eq_false (by omega)]; rfl,rfl⟩}
 {have f:decide ((n:Int)<=57)=true:=decide_eq_true (by omega);have i:decide ((48:Int)<=(n:Int))=true:=decide_eq_true (by omega);go_enter Tryz.func184,Tryz.ntmps184;go_wp2;go_ret;exact ⟨by rw[a.out,decide_eq_true b,decide_eq_true h]; rfl,rfl⟩}
 {have f:decide ((n:Int)<=57)=false:=decide_eq_false (by omega);have i:decide ((48:Int)<=(n:Int))=true:=decide_eq_true (by omega);go_enter Tryz.func184,Tryz.ntmps184;go_wp2;go_ret;exact ⟨by rw[a.out,decide_eq_false (p:=n<=57) (by omega),Bool.and_false]; rfl,rfl⟩}
theorem Z1O (w:World):
 Calls Tryz.prog 183 #[.int .u8 (c.toNat:Int)] w fun e w'=>e= .returned (.bool (Lex.letter c))/\w=w':=by
 have d:Hid (Lex.letter c=(Lex.small c||Lex.great c)):=Y1 rfl;cases a:Lex.small c
 {have b:Hid (Lex.letter c=Lex.great c):=Y1 (by rw[d.out,a]; rfl);go_enter Tryz.func183,Tryz.ntmps183
  go_wp2_with fail
  refine (Z1q c _).mono ?_;rintro e f ⟨rfl,rfl⟩;rw[a]
  go_wp2_with fail
  refine (Z2N c _).mono ?_;rintro e f ⟨rfl,rfl⟩;go_wp2;go_ret;exact ⟨by rw[b.out]; rfl,rfl⟩}
 {have b:Hid (Lex.letter c=true):=Y1 (by rw[d.out,a]; rfl);go_enter Tryz.func183,Tryz.ntmps183
  go_wp2_with fail
  refine (Z1q c _).mono ?_;rintro e f ⟨rfl,rfl⟩;rw[a];go_wp2;go_ret;exact ⟨by rw[b.out]; rfl,rfl⟩}
theorem Z4k (w:World):
 Calls Tryz.prog 155 #[.int .u8 (c.toNat:Int)] w fun e w'=>e= .returned (.bool (Lex.nameB c))/\w=w':=by
 have b:=Y1 (Lex.Z6o c);have g:=Z8i c;cases h1:Lex.letter c
 {cases h2:Lex.digit c
  {cases a: (c==95)
   {rw[a] at g;have d:Hid (Lex.nameB c=false):=Y1 (by rw[b.out,h1,h2,a]; rfl);clear b;go_enter Tryz.func155,Tryz.ntmps155
    go_wp2_with fail
    refine (Z1O c _).mono ?_;rintro e f ⟨rfl,rfl⟩;rw[h1]
    go_wp2_with fail
    refine (Z2O c _).mono ?_;rintro e f ⟨rfl,rfl⟩;rw[h2];go_wp2;go_ret;exact ⟨by rw[d.out]; rfl,rfl⟩}
   {rw[a] at g;have d:Hid (Lex.nameB c=true):=Y1 (by rw[b.out,h1,h2,a]; rfl);clear b;go_enter Tryz.func155,Tryz.ntmps155
    go_wp2_with fail
    refine (Z1O c _).mono ?_;rintro e f ⟨rfl,rfl⟩;rw[h1]
    go_wp2_with fail
    refine (Z2O c _).mono ?_;rintro e f ⟨rfl,rfl⟩;rw[h2];go_wp2;go_ret;exact ⟨by rw[d.out]; rfl,rfl⟩}}
  {have d:Hid (Lex.nameB c=true):=Y1 (by rw[b.out,h1,h2]; rfl);clear b;go_enter Tryz.func155,Tryz.ntmps155
   go_wp2_with fail
   refine (Z1O c _).mono ?_;rintro e f ⟨rfl,rfl⟩;rw[h1]
   go_wp2_with fail
   refine (Z2O c _).mono ?_;rintro e f ⟨rfl,rfl⟩;rw[h2];go_wp2;go_ret;exact ⟨by rw[d.out]; rfl,rfl⟩}}
 {have d:Hid (Lex.nameB c=true):=Y1 (by rw[b.out,h1]; rfl);clear b;go_enter Tryz.func155,Tryz.ntmps155
  go_wp2_with fail
  refine (Z1O c _).mono ?_;rintro e f ⟨rfl,rfl⟩;rw[h1];go_wp2;go_ret;exact ⟨by rw[d.out]; rfl,rfl⟩}
theorem ZgI (w:World):
 Calls Tryz.prog 189 #[.int .u8 (c.toNat:Int)] w fun e w'=>e= .returned (.bool (Lex.lumpB c))/\w=w':=by
 have a:=Y1 (Lex.ZiZ c);have g:=Zp3 c;have h:=Zp4 c;cases h1:Lex.letter c
 {cases h2:Lex.digit c
  {cases g46: (c==46)
   {cases d: (c==45)
    {rw[g46] at g;rw[d] at h;have b:Hid (Lex.lumpB c=false):=Y1 (by rw[a.out,h1,h2,g46,d]; rfl);clear a;go_enter Tryz.func189,Tryz.ntmps189
     go_wp2_with fail
     refine (Z1O c _).mono ?_;rintro e f ⟨rfl,rfl⟩;rw[h1]
     go_wp2_with fail
     refine (Z2O c _).mono ?_;rintro e f ⟨rfl,rfl⟩;rw[h2];go_wp2;go_ret;exact ⟨by rw[b.out]; rfl,rfl⟩}
    {rw[g46] at g;rw[d] at h;have b:Hid (Lex.lumpB c=true):=Y1 (by rw[a.out,h1,h2,g46,d]; rfl);clear a;go_enter Tryz.func189,Tryz.ntmps189
     go_wp2_with fail
     refine (Z1O c _).mono ?_;rintro e f ⟨rfl,rfl⟩;rw[h1]
     go_wp2_with fail
     refine (Z2O c _).mono ?_;rintro e f ⟨rfl,rfl⟩;rw[h2];go_wp2;go_ret;exact ⟨by rw[b.out]; rfl,rfl⟩}}
   {rw[g46] at g;have b:Hid (Lex.lumpB c=true):=Y1 (by rw[a.out,h1,h2,g46]; rfl);clear a;go_enter Tryz.func189,Tryz.ntmps189
    go_wp2_with fail
    refine (Z1O c _).mono ?_;rintro e f ⟨rfl,rfl⟩;rw[h1]
    go_wp2_with fail
    refine (Z2O c _).mono ?_;rintro e f ⟨rfl,rfl⟩;rw[h2];go_wp2;go_ret;exact ⟨by rw[b.out]; rfl,rfl⟩}}
  {have b:Hid (Lex.lumpB c=true):=Y1 (by rw[a.out,h1,h2]; rfl);clear a;go_enter Tryz.func189,Tryz.ntmps189
   go_wp2_with fail
   refine (Z1O c _).mono ?_;rintro e f ⟨rfl,rfl⟩;rw[h1]
   go_wp2_with fail
   refine (Z2O c _).mono ?_;rintro e f ⟨rfl,rfl⟩;rw[h2];go_wp2;go_ret;exact ⟨by rw[b.out]; rfl,rfl⟩}}
 {have b:Hid (Lex.lumpB c=true):=Y1 (by rw[a.out,h1]; rfl);clear a;go_enter Tryz.func189,Tryz.ntmps189
  go_wp2_with fail
  refine (Z1O c _).mono ?_;rintro e f ⟨rfl,rfl⟩;rw[h1];go_wp2;go_ret;exact ⟨by rw[b.out]; rfl,rfl⟩}
end
theorem Z8R (s:List UInt8) (w:World):
 Calls Tryz.prog 154 #[.string ⟨s.toArray⟩] w fun e w'=>e= .returned (.bool (Lex.isWord s))/\w=w':=by
 cases b:Lex.isWord s
 {have a: ∀t∈Lex.words,(s==t)=false:=fun t ht=>by
   cases h: (s==t) with
   | false=>rfl
   | true=>
    obtain rfl:=beq_iff_eq.1 h;unfold Lex.isWord at b;rw[List.contains_iff_mem.2 ht] at b; cases b
  have p: (s== [109,111,100,117,108,101])=false:=a _ (by decide);have q: (s== [105,109,112,111,114,116])=false:=a _ (by decide);have r: (s== [112,105,110])=false:=a _ (by decide);have u: (s== [114,97,110,103,101])=false:=a _ (by decide);have v: (s== [116,121,112,101])=false:=a _ (by decide);have y: (s== [111,112,97,113,117,101])=false:=a _ (by decide);have z: (s== [108,101,116])=false:=a _ (by decide);have A: (s== [105,110])=false:=a _ (by decide);have B: (s== [101,120,112,111,114,116])=false:=a _ (by decide);have C: (s== [102,117,110])=false:=a _ (by decide);have d: (s== [105,102])=false:=a _ (by decide);have f: (s== [116,104,101,110])=false:=a _ (by decide);have g: (s== [101,108,115,101])=false:=a _ (by decide);have i: (s== [99,97,115,101])=false:=a _ (by decide);have j: (s== [111,102])=false:=a _ (by decide);have k: (s== [97,115])=false:=a _ (by decide);have l: (s== [110,101,119])=false:=a _ (by decide);have m: (s== [114,97,119])=false:=a _ (by decide);have n: (s== [116,114,117,101])=false:=a _ (by decide);have o: (s== [102,97,108,115,101])=false:=a _ (by decide);clear a b;go_enter Tryz.func154,Tryz.ntmps154;go_wp2;go_ret;exact ⟨rfl,rfl⟩}
 {have c:s∈Lex.words:=List.contains_iff_mem.1 b;clear b;unfold Lex.words at c;simp only[List.mem_cons,List.not_mem_nil,or_false] at c;rcases c with rfl | rfl | rfl | rfl | rfl | rfl | rfl | rfl | rfl | rfl | rfl | rfl | rfl | rfl | rfl | rfl | rfl | rfl | rfl | rfl
  all_goals
   go_enter Tryz.func154,Tryz.ntmps154;go_wp2;go_ret;exact ⟨rfl,rfl⟩}
theorem ZdJ (s:List UInt8) (w:World):
 Calls Tryz.prog 190 #[.string ⟨s.toArray⟩] w fun e w'=>e= .returned (.bool (Lex.isSign s))/\w=w':=by
 cases b:Lex.isSign s
 {have a: ∀t∈Lex.signs,(s==t)=false:=fun t ht=>by
   cases h: (s==t) with
   | false=>rfl
   | true=>
    obtain rfl:=beq_iff_eq.1 h;unfold Lex.isSign at b;rw[List.contains_iff_mem.2 ht] at b; cases b
  have p: (s== [40])=false:=a _ (by decide);have q: (s== [41])=false:=a _ (by decide);have r: (s== [123])=false:=a _ (by decide);have u: (s== [125])=false:=a _ (by decide);have v: (s== [91])=false:=a _ (by decide);have y: (s== [93])=false:=a _ (by decide);have z: (s== [60])=false:=a _ (by decide);have A: (s== [62])=false:=a _ (by decide);have B: (s== [60,61])=false:=a _ (by decide);have C: (s== [62,61])=false:=a _ (by decide);have d: (s== [61])=false:=a _ (by decide);have f: (s== [94])=false:=a _ (by decide);have g: (s== [42])=false:=a _ (by decide);have i: (s== [44])=false:=a _ (by decide);have j: (s== [58])=false:=a _ (by decide);have k: (s== [46])=false:=a _ (by decide);have l: (s== [47])=false:=a _ (by decide);have m: (s== [64])=false:=a _ (by decide);have n: (s== [124])=false:=a _ (by decide);have o: (s== [45,62])=false:=a _ (by decide);clear a b;go_enter Tryz.func190,Tryz.ntmps190;go_wp2;go_ret;exact ⟨rfl,rfl⟩}
 {have c:s∈Lex.signs:=List.contains_iff_mem.1 b;clear b;unfold Lex.signs at c;simp only[List.mem_cons,List.not_mem_nil,or_false] at c;rcases c with rfl | rfl | rfl | rfl | rfl | rfl | rfl | rfl | rfl | rfl | rfl | rfl | rfl | rfl | rfl | rfl | rfl | rfl | rfl | rfl
  all_goals
   go_enter Tryz.func190,Tryz.ntmps190;go_wp2;go_ret;exact ⟨rfl,rfl⟩}
end Go.Proofs.YtgndehppmaacaaaGreatDoor
namespace Lex
def named (l:List UInt8):Bool:=decide (l.length<=24)&&l.tail.all nameB
section
variable {p : UInt8 -> Bool} {l : List UInt8}
include p l
theorem Zbp (h: ∀j (a:j < l.length),1<=j->p (l[j]'a)=true):l.tail.all p=true:=by
 cases l with
 | nil=>rfl
 | cons c r=>
  refine List.all_eq_true.2 (fun x hx=> ?_);obtain ⟨j,a,rfl⟩:=List.mem_iff_getElem.1 hx;exact h (j+1) (by simpa using a) (by omega)
theorem ZbX {j:Nat} (a:j < l.length) (f:1<=j) (h:p (l[j]'a)=false):l.tail.all p=false:=by
 cases l with
 | nil=>simp at a
 | cons c r=>
  obtain ⟨k,rfl⟩: ∃k,j=k+1:=⟨j - 1,by omega⟩;have d: (r[k]'(by simpa using a))∈r:=List.getElem_mem _;cases e: (c::r).tail.all p with
  | false=>rfl
  | true=>
   have:=List.all_eq_true.1 e _ d;have b:p (r[k]'(by simpa using a))=false:=h;rw[b] at this; cases this
theorem ZpC (h: ∀j (a:j < l.length),p (l[j]'a)=true):l.all p=true:=
 List.all_eq_true.2 (fun x hx=>by obtain ⟨j,a,rfl⟩:=List.mem_iff_getElem.1 hx; exact h j a)
theorem ZpD {j:Nat} (a:j < l.length) (h:p (l[j]'a)=false):l.all p=false:=by
 cases b:l.all p with
 | false=>rfl
 | true=>
  have:=List.all_eq_true.1 b _ (List.getElem_mem a);rw[h] at this; cases this
end
theorem Z8S (c:UInt8) (r:List UInt8):isName (c::r)=(small c&&named (c::r)&& !isWord (c::r)):=by
 show (decide ((c::r).length<=24)&&small c&&(c::r).all nameB&& !isWord (c::r))=_;cases h:small c with
 | false=>simp
 | true=>
  have:nameB c=true:=by unfold nameB; rw[h]; rfl
  unfold named;simp[this]
theorem Z7q (c:UInt8) (r:List UInt8):isUpper (c::r)=(great c&&named (c::r)):=by
 show (decide ((c::r).length<=24)&&great c&&(c::r).all nameB)=_;cases h:great c with
 | false=>simp
 | true=>
  have:nameB c=true:=by unfold nameB; rw[h]; simp
  unfold named;simp[this]
end Lex
namespace Go.Proofs.YtgndehppmaacaaaGreatDoor
open Go.RowKit
section
variable (l : List UInt8) (hl : l.length <= 9223372036854775807) (w : World)
include l hl w
theorem Z2P:
 Calls Tryz.prog 125 #[.string ⟨l.toArray⟩] w fun e w'=>e= .returned (.bool (Lex.named l))/\w=w':=by
 have y: (⟨l.toArray⟩:ByteArray).size=l.length:=Z0J _;have k:Hid (Lex.named l=(decide (l.length<=24)&&l.tail.all Lex.nameB)):=Y1 rfl;by_cases d:l.length<=24
 {have f: ¬((24:Int) < (l.length:Int)):=by omega
  go_enter Tryz.func125,Tryz.ntmps125
  go_wp2_with fail
  go_loopw [3] (fun ii wr=> ∃n:Nat,ii= .int .i64 n/\1<=n/\(n<=l.length\/n=1)/\Hid (∀j (hj:j < l.length),1<=j->j < n->Lex.nameB (l[j]'hj)=true)/\w=wr)
   (fun i _=>l.length - (intOf i).toNat)
  case atStart=>exact ⟨1,rfl,Nat.le_refl _,Or.inr rfl,Y1 (fun j _ a hj=>absurd hj (by omega)),rfl⟩
  case round=>
   obtain ⟨n,rfl,a,v,r,rfl⟩:=hrel;by_cases g:n < l.length
   {have p: (n:Int) < (l.length:Int):=by omega
    obtain ⟨c,o⟩: ∃c,c=l[n]'g:=⟨_,rfl⟩;have s: ∀W,(Instr.index 9 (.string ⟨l.toArray⟩) (.int .i64 (n:Int))).run Tryz.prog W= .ok (.int .u8 c.toNat) W:=fun W=>by
     rw[o]; exact Z4P ⟨l.toArray⟩ n (by omega) W
    have q:=Y1 o;clear o;cases h:Lex.nameB c
    {have b:Hid (Lex.named l=false):=Y1 (by rw[k.out,Lex.ZbX g a (by rw[<-q.out]; exact h)]; simp)
     go_wp2_with fail
     refine (Z4k c _).mono ?_;rintro e u ⟨rfl,rfl⟩;rw[h];go_wp2;go_ret;exact ⟨by rw[b.out]; rfl,rfl⟩}
    {have m:Hid (∀j (hj:j < l.length),1<=j->j < n+1->Lex.nameB (l[j]'hj)=true):=Y1 (fun j hj a hji=>by
      rcases Nat.lt_succ_iff_lt_or_eq.1 hji with t | rfl
      {exact r.out j hj a t}
      · rw[<-q.out]; exact h)
     go_wp2_with fail
     refine (Z4k c _).mono ?_;rintro e u ⟨rfl,rfl⟩;rw[h];go_wp2
     go_roundw
     case rel=>exact ⟨n+1,by go_num,by omega,Or.inl (by omega),m,trivial⟩
     case measure=>simp[intOf]; omega}}
   {have p: ¬(n:Int) < (l.length:Int):=by omega
    have b:Hid (Lex.named l=true):=Y1 (by rw[k.out,decide_eq_true d,Lex.Zbp (fun j hj a=>r.out j hj a (by omega))]; rfl);go_wp2;go_ret;exact ⟨by rw[b.out]; rfl,rfl⟩}}
 {have f: (24:Int) < (l.length:Int):=by omega
  have b:Hid (Lex.named l=false):=Y1 (by rw[k.out,decide_eq_false d]; rfl);go_enter Tryz.func125,Tryz.ntmps125;go_wp2;go_ret;exact ⟨by rw[b.out]; rfl,rfl⟩}
theorem Z2i:
 Calls Tryz.prog 123 #[.string ⟨l.toArray⟩] w fun e w'=>e= .returned (.bool (Lex.isName l))/\w=w':=by
 cases l with
 | nil=>
  have b:Hid (Lex.isName []=false):=Y1 rfl;go_enter Tryz.func123,Tryz.ntmps123;go_wp2;go_ret;exact ⟨by rw[b.out]; rfl,rfl⟩
 | cons c r=>
  have b:=Y1 (Lex.Z8S c r);obtain ⟨l,a⟩: ∃l:List UInt8,l=c::r:=⟨_,rfl⟩;rw[<-a] at hl b ⊢;have m: (⟨l.toArray⟩:ByteArray).size=l.length:=Z0J _;have k:l.isEmpty=false:=by rw[a]; rfl
  have i: (l== [])=false:=by rw[a]; rfl
  have j: (l != [])=true:=by rw[a]; rfl
  have h: ∀W,(Instr.index 9 (.string ⟨l.toArray⟩) (.int .i64 0)).run Tryz.prog W= .ok (.int .u8 c.toNat) W:=fun W=>by rw[a]; rfl
  clear a;cases h1:Lex.small c
  {have d:Hid (Lex.isName l=false):=Y1 (by rw[b.out,h1]; rfl);go_enter Tryz.func123,Tryz.ntmps123
   go_wp2_with fail
   refine (Z1q c _).mono ?_;rintro e f ⟨rfl,rfl⟩;rw[h1];go_wp2;go_ret;exact ⟨by rw[d.out]; rfl,rfl⟩}
  {cases g:Lex.named l
   {have d:Hid (Lex.isName l=false):=Y1 (by rw[b.out,h1,g]; rfl);go_enter Tryz.func123,Tryz.ntmps123
    go_wp2_with fail
    refine (Z1q c _).mono ?_;rintro e f ⟨rfl,rfl⟩;rw[h1]
    go_wp2_with fail
    refine (Z2P l hl _).mono ?_;rintro e f ⟨rfl,rfl⟩;rw[g];go_wp2;go_ret;exact ⟨by rw[d.out]; rfl,rfl⟩}
   {have d:Hid (Lex.isName l= !Lex.isWord l):=Y1 (by rw[b.out,h1,g]; rfl);go_enter Tryz.func123,Tryz.ntmps123
    go_wp2_with fail
    refine (Z1q c _).mono ?_;rintro e f ⟨rfl,rfl⟩;rw[h1]
    go_wp2_with fail
    refine (Z2P l hl _).mono ?_;rintro e f ⟨rfl,rfl⟩;rw[g]
    go_wp2_with fail
    refine (Z8R l _).mono ?_;rintro e f ⟨rfl,rfl⟩;go_wp2;go_ret;exact ⟨by rw[d.out]; rfl,rfl⟩}}
theorem Z4l:
 Calls Tryz.prog 94 #[.string ⟨l.toArray⟩] w fun e w'=>e= .returned (.bool (Lex.isUpper l))/\w=w':=by
 cases l with
 | nil=>
  have b:Hid (Lex.isUpper []=false):=Y1 rfl;go_enter Tryz.func94,Tryz.ntmps94;go_wp2;go_ret;exact ⟨by rw[b.out]; rfl,rfl⟩
 | cons c r=>
  have b:=Y1 (Lex.Z7q c r);obtain ⟨l,a⟩: ∃l:List UInt8,l=c::r:=⟨_,rfl⟩;rw[<-a] at hl b ⊢;have m: (⟨l.toArray⟩:ByteArray).size=l.length:=Z0J _;have k:l.isEmpty=false:=by rw[a]; rfl
  have i: (l== [])=false:=by rw[a]; rfl
  have j: (l != [])=true:=by rw[a]; rfl
  have g: ∀W,(Instr.index 9 (.string ⟨l.toArray⟩) (.int .i64 0)).run Tryz.prog W= .ok (.int .u8 c.toNat) W:=fun W=>by rw[a]; rfl
  clear a;cases d:Lex.great c
  {have f:Hid (Lex.isUpper l=false):=Y1 (by rw[b.out,d]; rfl);go_enter Tryz.func94,Tryz.ntmps94
   go_wp2_with fail
   refine (Z2N c _).mono ?_;rintro e h ⟨rfl,rfl⟩;rw[d];go_wp2;go_ret;exact ⟨by rw[f.out]; rfl,rfl⟩}
  {have f:Hid (Lex.isUpper l=Lex.named l):=Y1 (by rw[b.out,d]; rfl);go_enter Tryz.func94,Tryz.ntmps94
   go_wp2_with fail
   refine (Z2N c _).mono ?_;rintro e h ⟨rfl,rfl⟩;rw[d]
   go_wp2_with fail
   refine (Z2P l hl _).mono ?_;rintro e h ⟨rfl,rfl⟩;go_wp2;go_ret;exact ⟨by rw[f.out]; rfl,rfl⟩}
end
theorem ZjV (c:UInt8) (r:List UInt8):Lex.number (c::r)=((c::r).all Lex.digit&&decide (1<=(c::r).length)&&decide ((c::r).length<=15)&&(decide ((c::r).length=1)||(c !=48))):=by
 show (_&&_&&_&&(_||decide ((c::r).head? ≠some 48)))=_;congr 2;by_cases h:c=48
 {subst h; rfl}
 {simp[h]}
theorem Zj0 (l:List UInt8) (y: (l== [])=false) (z:l.length<=15) (c:UInt8) (p: ∀W,(Instr.index 9 (.string ⟨l.toArray⟩) (.int .i64 0)).run Tryz.prog W= .ok (.int .u8 c.toNat) W) (u: ¬(1 < l.length)\/(c==48)=false) (w:World):
 Calls Tryz.prog 191 #[.string ⟨l.toArray⟩] w fun e w'=>e= .returned (.bool (l.all Lex.digit))/\w=w':=by
 have F: (⟨l.toArray⟩:ByteArray).size=l.length:=Z0J _;have D:l.isEmpty=false:=by cases l with | nil=>cases y | cons c r=>rfl
 have t: ¬((15:Int) < (l.length:Int)):=by omega
 have A:Hid ((((1:Int) < (l.length:Int))/\((c.toNat:Int)==48)=false)\/ ¬((1:Int) < (l.length:Int))):=Y1 (by
  by_cases h:1 < l.length
  {left;refine ⟨by omega, ?_⟩;rcases u with a | a
   {exact absurd h a}
   {rw[show ((c.toNat:Int)==48)=(c==48) from by
     rw[Bool.eq_iff_iff,beq_iff_eq,beq_iff_eq];exact ⟨fun h=>UInt8.toNat_inj.1 (by show c.toNat=48; omega),fun h=>by rw[h]; rfl⟩]
    exact a}}
  · right; omega)
 clear u;rcases A.out with ⟨B,G⟩ | B
 all_goals
  go_enter Tryz.func191,Tryz.ntmps191
  go_wp2_with fail
  go_loopw [23] (fun ii wr=> ∃n:Nat,ii= .int .i64 n/\n<=l.length/\Hid (∀j (hj:j < l.length),j < n->Lex.digit (l[j]'hj)=true)/\w=wr)
   (fun i _=>l.length - (intOf i).toNat)
  case atStart=>exact ⟨0,rfl,Nat.zero_le _,Y1 (fun j _ hj=>absurd hj (by omega)),rfl⟩
  case round=>
   obtain ⟨n,rfl,E,s,rfl⟩:=hrel;by_cases b:n < l.length
   {have o: (n:Int) < (l.length:Int):=by omega
    obtain ⟨d,m⟩: ∃d,d=l[n]'b:=⟨_,rfl⟩;have v: ∀W,(Instr.index 9 (.string ⟨l.toArray⟩) (.int .i64 (n:Int))).run Tryz.prog W= .ok (.int .u8 d.toNat) W:=fun W=>by
     rw[m]; exact Z4P ⟨l.toArray⟩ n (by omega) W
    have q:=Y1 m;clear m;cases f:Lex.digit d
    {have g:Hid (l.all Lex.digit=false):=Y1 (Lex.ZpD b (by rw[<-q.out]; exact f))
     go_wp2_with fail
     refine (Z2O d _).mono ?_;rintro e C ⟨rfl,rfl⟩;rw[f];go_wp2;go_ret;exact ⟨by rw[g.out]; rfl,rfl⟩}
    {have k:Hid (∀j (hj:j < l.length),j < n+1->Lex.digit (l[j]'hj)=true):=Y1 (fun j hj hji=>by
      rcases Nat.lt_succ_iff_lt_or_eq.1 hji with a | rfl
      {exact s.out j hj a}
      · rw[<-q.out]; exact f)
     go_wp2_with fail
     refine (Z2O d _).mono ?_;rintro e C ⟨rfl,rfl⟩;rw[f];go_wp2
     go_roundw
     case rel=>exact ⟨n+1,by go_num,by omega,k,trivial⟩
     case measure=>simp[intOf]; omega}}
   {have o: ¬(n:Int) < (l.length:Int):=by omega
    have g:Hid (l.all Lex.digit=true):=Y1 (Lex.ZpC (fun j hj=>s.out j hj (by omega)));go_wp2;go_ret;exact ⟨by rw[g.out]; rfl,rfl⟩}
theorem ZeN (l:List UInt8) (o:l.length<=9223372036854775807) (w:World):
 Calls Tryz.prog 191 #[.string ⟨l.toArray⟩] w fun e w'=>e= .returned (.bool (Lex.number l))/\w=w':=by
 cases l with
 | nil=>
  have f:Hid (Lex.number []=false):=Y1 rfl;go_enter Tryz.func191,Tryz.ntmps191;go_wp2;go_ret;exact ⟨by rw[f.out]; rfl,rfl⟩
 | cons c r=>
  have f:=Y1 (ZjV c r);have b: ∀W,(Instr.index 9 (.string ⟨(c::r).toArray⟩) (.int .i64 0)).run Tryz.prog W= .ok (.int .u8 c.toNat) W:=fun W=>rfl;have k:decide (1<=(c::r).length)=true:=by simp
  by_cases d: (c::r).length<=15
  {by_cases j: ¬(1 < (c::r).length)\/(c==48)=false
   {refine (Zj0 (c::r) rfl d c b j w).mono ?_;rintro e w' ⟨rfl,rfl⟩;refine ⟨?_,rfl⟩;have: (decide ((c::r).length=1)||(c !=48))=true:=by
     rcases j with h | h
     {rw[decide_eq_true (by rw[List.length_cons] at h ⊢; omega)]; rfl}
     {rw[bne,h]; simp}
    rw[f.out,k,decide_eq_true d,this]; simp}
   {have h48: (c==48)=true:=by cases h: (c==48) with | true=>rfl | false=>exact absurd (Or.inr h) j
    have n:1 < (c::r).length:=Decidable.byContradiction (fun h=>j (Or.inl h));have g:Hid (Lex.number (c::r)=false):=Y1 (by rw[f.out,bne,h48,decide_eq_false (p:=(c::r).length=1) (by omega)]; simp);obtain rfl:=beq_iff_eq.1 h48;obtain ⟨l,a⟩: ∃l:List UInt8,l=48::r:=⟨_,rfl⟩;rw[<-a] at o g b d n ⊢;have s: (⟨l.toArray⟩:ByteArray).size=l.length:=Z0J _;have q:l.isEmpty=false:=by rw[a]; rfl
    have m: (l== [])=false:=by rw[a]; rfl
    have i: ¬((15:Int) < (l.length:Int)):=by omega
    have t: (1:Int) < (l.length:Int):=by omega
    clear a f k j h48;go_enter Tryz.func191,Tryz.ntmps191;go_wp2;go_ret;exact ⟨by rw[g.out]; rfl,rfl⟩}}
  {have g:Hid (Lex.number (c::r)=false):=Y1 (by rw[f.out,decide_eq_false d]; simp);obtain ⟨l,a⟩: ∃l:List UInt8,l=c::r:=⟨_,rfl⟩;rw[<-a] at o g d ⊢;have s: (⟨l.toArray⟩:ByteArray).size=l.length:=Z0J _;have q:l.isEmpty=false:=by rw[a]; rfl
   have m: (l== [])=false:=by rw[a]; rfl
   have i: (15:Int) < (l.length:Int):=by omega
   clear a f k b;go_enter Tryz.func191,Tryz.ntmps191;go_wp2;go_ret;exact ⟨by rw[g.out]; rfl,rfl⟩}
end Go.Proofs.YtgndehppmaacaaaGreatDoor
namespace Go.Proofs.YtgndehppmaacaaaGreatDoor
section
open Go.RowKit Tms
open Shp (Sh)
theorem Ziu (t:Tm) (q:TP) (w:World) (n:TmAt w w.heap.size q t):
 Calls Tryz.prog 116 #[.agg (Y7 t q)] w fun e w'=> ∃r:Nat,e= .returned (.tuple #[.int .i64 (min (size t) 4097:Nat),.int .i64 (r:Int)])/\(size t<=4096->r=deep t)/\r<=4097/\Below w.heap.size w w':=by
 have hb0:=Z01 w (.cells (Y7 t q) 40);have a:Below w.heap.size w ((w.alloc (.cells (Y7 t q) 40)).alloc (.cells #[.int .i64 0] 143)):=Z0h hb0 _;have c:Cnt8 ((w.alloc (.cells (Y7 t q) 40)).alloc (.cells #[.int .i64 0] 143)) (w.heap.size+1) 0:=⟨by simp,by simp[go_sem],by simp[go_sem]⟩;have l:=Y1 (ZiU t q w.heap.size (w.heap.size+1) 0 _ (n.keep a (Nat.le_refl _)) (by omega) c (by omega));have p:=Y1 (ZdA w t q);have f:=Y1 a;obtain ⟨_,⟨s,c1,c2,c3,c4,c5,c6,c7,u⟩,_⟩:=p.out;clear hb0 a c n;go_enter Tryz.func116,Tryz.ntmps116
 go_wp2_with fail
 refine l.out.mono ?_;rintro e y ⟨r,rfl,b,d,o,c⟩;rw[Nat.zero_add] at b d c;have v:=c.c0;have g:Hid (Below w.heap.size w y):=Y1 (f.out.trans ((o.mono (B':=w.heap.size) (by simp; omega)).toBelow (by omega)));have i:=Y1 b;have j:Hid (r<=4097):=Y1 (by omega);obtain ⟨m,k⟩: ∃m,m=min (size t) 4097:=⟨_,rfl⟩;rw[<-k] at v;have h:=Y1 k;clear k;clear o c b d l s c1 c2 c3 c4 c5 c6 c7 u;go_wp2
 go_ret2
 exact ⟨r,by rw[<-h.out]; rfl,i.out,j.out,g.out⟩
theorem Zj1 (t:Tm) (q:TP) (w:World):
 Y9 172 #[.agg (Y7 t q)] w (.bool (numB t)):=by
 have b:Hid (numB t=(t.n==0||(t.kind==1&&decide (0 < t.n)&&decide (t.n<=999999999999999)))):=Y1 rfl;have a:=Y1 (Z01 w (.cells (Y7 t q) 40));obtain ⟨_,⟨g,c1,c2,c3,c4,c5,c6,c7,h⟩,_⟩:=ZdA w t q;cases c: (t.n==0)
 {cases d: (t.kind==1)
  {rw[c,d] at b;go_enter Tryz.func172,Tryz.ntmps172;go_wp2;go_ret;exact ⟨Z0p b.out.symm,a.out⟩}
  {cases e:decide (0 < t.n)
   {rw[c,d,e] at b;go_enter Tryz.func172,Tryz.ntmps172;go_wp2;go_ret;exact ⟨Z0p b.out.symm,a.out⟩}
   {cases f:decide (t.n<=999999999999999)
    all_goals
     rw[c,d,e,f] at b;go_enter Tryz.func172,Tryz.ntmps172;go_wp2;go_ret;exact ⟨Z0p b.out.symm,a.out⟩}}}
 {rw[c] at b;go_enter Tryz.func172,Tryz.ntmps172;go_wp2;go_ret;exact ⟨Z0p b.out.symm,a.out⟩}
section
variable (o f : ByteArray) (N at_ : Int) (A V S P : Option Addr) (n v s p c e z d : Nat) (w : World) (hn : n <= 9223372036854775806) (hv : v <= 9223372036854775807) (hs : s <= 9223372036854775807) (hp : p <= 9223372036854775807)
include o f N at_ A V S P n v s p c e z d w hn hv hs hp
theorem Zqc:
 Calls Tryz.prog 175 #[.agg #[.int .i64 1,.string o,.string f,.int .i64 N,.slice A n c,.slice V v e,.slice S s z,.slice P p d,.int .i64 at_]] w fun r w'=>r= .returned (.bool (decide (n=0/\v=0/\s=0/\p=0)))/\Below w.heap.size w w':=by
 go_enter Tryz.func175,Tryz.ntmps175;go_wp2
 all_goals
  go_ret;refine ⟨Z0p ?_,Z0h (Z01 _ _) _⟩
  first
  | rfl
  | exact (decide_eq_true (by omega)).symm
  | exact (decide_eq_false (by omega)).symm
theorem Zqd:
 Calls Tryz.prog 175 #[.agg #[.int .i64 2,.string o,.string f,.int .i64 N,.slice A n c,.slice V v e,.slice S s z,.slice P p d,.int .i64 at_]] w fun r w'=>r= .returned (.bool (decide (n=0/\v=0/\s=0/\p=0)))/\Below w.heap.size w w':=by
 go_enter Tryz.func175,Tryz.ntmps175;go_wp2
 all_goals
  go_ret;refine ⟨Z0p ?_,Z0h (Z01 _ _) _⟩
  first
  | rfl
  | exact (decide_eq_true (by omega)).symm
  | exact (decide_eq_false (by omega)).symm
theorem Zqe:
 Calls Tryz.prog 175 #[.agg #[.int .i64 3,.string o,.string f,.int .i64 N,.slice A n c,.slice V v e,.slice S s z,.slice P p d,.int .i64 at_]] w fun r w'=>r= .returned (.bool (decide (n=0/\v=0/\s=0/\p=0)))/\Below w.heap.size w w':=by
 go_enter Tryz.func175,Tryz.ntmps175;go_wp2
 all_goals
  go_ret;refine ⟨Z0p ?_,Z0h (Z01 _ _) _⟩
  first
  | rfl
  | exact (decide_eq_true (by omega)).symm
  | exact (decide_eq_false (by omega)).symm
theorem Zqf:
 Calls Tryz.prog 175 #[.agg #[.int .i64 4,.string o,.string f,.int .i64 N,.slice A n c,.slice V v e,.slice S s z,.slice P p d,.int .i64 at_]] w fun r w'=>r= .returned (.bool (decide (n=0/\v=0/\s=0/\p=0)))/\Below w.heap.size w w':=by
 go_enter Tryz.func175,Tryz.ntmps175;go_wp2
 all_goals
  go_ret;refine ⟨Z0p ?_,Z0h (Z01 _ _) _⟩
  first
  | rfl
  | exact (decide_eq_true (by omega)).symm
  | exact (decide_eq_false (by omega)).symm
theorem Zqg:
 Calls Tryz.prog 175 #[.agg #[.int .i64 5,.string o,.string f,.int .i64 N,.slice A n c,.slice V v e,.slice S s z,.slice P p d,.int .i64 at_]] w fun r w'=>r= .returned (.bool (decide (n=0/\v=0/\s=0/\p=0)))/\Below w.heap.size w w':=by
 go_enter Tryz.func175,Tryz.ntmps175;go_wp2
 all_goals
  go_ret;refine ⟨Z0p ?_,Z0h (Z01 _ _) _⟩
  first
  | rfl
  | exact (decide_eq_true (by omega)).symm
  | exact (decide_eq_false (by omega)).symm
theorem Zqh:
 Calls Tryz.prog 175 #[.agg #[.int .i64 6,.string o,.string f,.int .i64 N,.slice A n c,.slice V v e,.slice S s z,.slice P p d,.int .i64 at_]] w fun r w'=>r= .returned (.bool (decide (v=0/\s=n/\p=1)))/\Below w.heap.size w w':=by
 go_enter Tryz.func175,Tryz.ntmps175;go_wp2
 all_goals
  go_ret;refine ⟨Z0p ?_,Z0h (Z01 _ _) _⟩
  first
  | rfl
  | exact (decide_eq_true (by omega)).symm
  | exact (decide_eq_false (by omega)).symm
theorem Zqi:
 Calls Tryz.prog 175 #[.agg #[.int .i64 7,.string o,.string f,.int .i64 N,.slice A n c,.slice V v e,.slice S s z,.slice P p d,.int .i64 at_]] w fun r w'=>r= .returned (.bool (decide (n=0/\v=0/\s=0/\1<=p)))/\Below w.heap.size w w':=by
 go_enter Tryz.func175,Tryz.ntmps175;go_wp2
 all_goals
  go_ret;refine ⟨Z0p ?_,Z0h (Z01 _ _) _⟩
  first
  | rfl
  | exact (decide_eq_true (by omega)).symm
  | exact (decide_eq_false (by omega)).symm
theorem Zqj:
 Calls Tryz.prog 175 #[.agg #[.int .i64 8,.string o,.string f,.int .i64 N,.slice A n c,.slice V v e,.slice S s z,.slice P p d,.int .i64 at_]] w fun r w'=>r= .returned (.bool (decide (v=0/\s=0/\p=n)))/\Below w.heap.size w w':=by
 go_enter Tryz.func175,Tryz.ntmps175;go_wp2
 all_goals
  go_ret;refine ⟨Z0p ?_,Z0h (Z01 _ _) _⟩
  first
  | rfl
  | exact (decide_eq_true (by omega)).symm
  | exact (decide_eq_false (by omega)).symm
theorem Zqk:
 Calls Tryz.prog 175 #[.agg #[.int .i64 9,.string o,.string f,.int .i64 N,.slice A n c,.slice V v e,.slice S s z,.slice P p d,.int .i64 at_]] w fun r w'=>r= .returned (.bool (decide (n=0/\v=0/\s=0/\p=1)))/\Below w.heap.size w w':=by
 go_enter Tryz.func175,Tryz.ntmps175;go_wp2
 all_goals
  go_ret;refine ⟨Z0p ?_,Z0h (Z01 _ _) _⟩
  first
  | rfl
  | exact (decide_eq_true (by omega)).symm
  | exact (decide_eq_false (by omega)).symm
theorem ZpE:
 Calls Tryz.prog 175 #[.agg #[.int .i64 10,.string o,.string f,.int .i64 N,.slice A n c,.slice V v e,.slice S s z,.slice P p d,.int .i64 at_]] w fun r w'=>r= .returned (.bool (decide (n=0/\v=0/\s=0/\p=1)))/\Below w.heap.size w w':=by
 go_enter Tryz.func175,Tryz.ntmps175;go_wp2
 all_goals
  go_ret;refine ⟨Z0p ?_,Z0h (Z01 _ _) _⟩
  first
  | rfl
  | exact (decide_eq_true (by omega)).symm
  | exact (decide_eq_false (by omega)).symm
theorem ZpF:
 Calls Tryz.prog 175 #[.agg #[.int .i64 11,.string o,.string f,.int .i64 N,.slice A n c,.slice V v e,.slice S s z,.slice P p d,.int .i64 at_]] w fun r w'=>r= .returned (.bool (decide (n=0/\v=0/\s=1)))/\Below w.heap.size w w':=by
 go_enter Tryz.func175,Tryz.ntmps175;go_wp2
 all_goals
  go_ret;refine ⟨Z0p ?_,Z0h (Z01 _ _) _⟩
  first
  | rfl
  | exact (decide_eq_true (by omega)).symm
  | exact (decide_eq_false (by omega)).symm
theorem ZpG:
 Calls Tryz.prog 175 #[.agg #[.int .i64 12,.string o,.string f,.int .i64 N,.slice A n c,.slice V v e,.slice S s z,.slice P p d,.int .i64 at_]] w fun r w'=>r= .returned (.bool (decide (n=0/\v=0/\s=1/\p=3)))/\Below w.heap.size w w':=by
 go_enter Tryz.func175,Tryz.ntmps175;go_wp2
 all_goals
  go_ret;refine ⟨Z0p ?_,Z0h (Z01 _ _) _⟩
  first
  | rfl
  | exact (decide_eq_true (by omega)).symm
  | exact (decide_eq_false (by omega)).symm
theorem ZpH:
 Calls Tryz.prog 175 #[.agg #[.int .i64 13,.string o,.string f,.int .i64 N,.slice A n c,.slice V v e,.slice S s z,.slice P p d,.int .i64 at_]] w fun r w'=>r= .returned (.bool (decide (v=n/\s=n+1/\p=n+1)))/\Below w.heap.size w w':=by
 go_enter Tryz.func175,Tryz.ntmps175;go_wp2
 all_goals
  go_ret;refine ⟨Z0p ?_,Z0h (Z01 _ _) _⟩
  first
  | rfl
  | exact (decide_eq_true (by omega)).symm
  | exact (decide_eq_false (by omega)).symm
theorem ZpI:
 Calls Tryz.prog 175 #[.agg #[.int .i64 14,.string o,.string f,.int .i64 N,.slice A n c,.slice V v e,.slice S s z,.slice P p d,.int .i64 at_]] w fun r w'=>r= .returned (.bool (decide (n=0/\v=0/\s=0/\p=2)))/\Below w.heap.size w w':=by
 go_enter Tryz.func175,Tryz.ntmps175;go_wp2
 all_goals
  go_ret;refine ⟨Z0p ?_,Z0h (Z01 _ _) _⟩
  first
  | rfl
  | exact (decide_eq_true (by omega)).symm
  | exact (decide_eq_false (by omega)).symm
theorem ZpJ:
 Calls Tryz.prog 175 #[.agg #[.int .i64 15,.string o,.string f,.int .i64 N,.slice A n c,.slice V v e,.slice S s z,.slice P p d,.int .i64 at_]] w fun r w'=>r= .returned (.bool (decide (n=0/\v=0/\s=1/\p=1)))/\Below w.heap.size w w':=by
 go_enter Tryz.func175,Tryz.ntmps175;go_wp2
 all_goals
  go_ret;refine ⟨Z0p ?_,Z0h (Z01 _ _) _⟩
  first
  | rfl
  | exact (decide_eq_true (by omega)).symm
  | exact (decide_eq_false (by omega)).symm
theorem ZpK:
 Calls Tryz.prog 175 #[.agg #[.int .i64 16,.string o,.string f,.int .i64 N,.slice A n c,.slice V v e,.slice S s z,.slice P p d,.int .i64 at_]] w fun r w'=>r= .returned (.bool (decide (n=0/\v=0/\s=0/\p=1)))/\Below w.heap.size w w':=by
 go_enter Tryz.func175,Tryz.ntmps175;go_wp2
 all_goals
  go_ret;refine ⟨Z0p ?_,Z0h (Z01 _ _) _⟩
  first
  | rfl
  | exact (decide_eq_true (by omega)).symm
  | exact (decide_eq_false (by omega)).symm
theorem ZpL:
 Calls Tryz.prog 175 #[.agg #[.int .i64 17,.string o,.string f,.int .i64 N,.slice A n c,.slice V v e,.slice S s z,.slice P p d,.int .i64 at_]] w fun r w'=>r= .returned (.bool (decide (n=0/\v=0/\s=0/\p=1)))/\Below w.heap.size w w':=by
 go_enter Tryz.func175,Tryz.ntmps175;go_wp2
 all_goals
  go_ret;refine ⟨Z0p ?_,Z0h (Z01 _ _) _⟩
  first
  | rfl
  | exact (decide_eq_true (by omega)).symm
  | exact (decide_eq_false (by omega)).symm
end
theorem ZpM (k:Int) (o f:ByteArray) (N at_:Int) (A V S P:Option Addr) (n v s p c e z d:Nat) (w:World) (q:k < 1\/17 < k) (H:n<=9223372036854775806) (K:v<=9223372036854775807) (J:s<=9223372036854775807) (I:p<=9223372036854775807):
 Calls Tryz.prog 175 #[.agg #[.int .i64 k,.string o,.string f,.int .i64 N,.slice A n c,.slice V v e,.slice S s z,.slice P p d,.int .i64 at_]] w fun r w'=>r= .returned (.bool false)/\Below w.heap.size w w':=by
 have t: (k==1)=false:=by simp; omega
 have u: (k==2)=false:=by simp; omega
 have y: (k==3)=false:=by simp; omega
 have B: (k==4)=false:=by simp; omega
 have C: (k==5)=false:=by simp; omega
 have D: (k==6)=false:=by simp; omega
 have E: (k==7)=false:=by simp; omega
 have F: (k==8)=false:=by simp; omega
 have G: (k==9)=false:=by simp; omega
 have a: (k==10)=false:=by simp; omega
 have b: (k==11)=false:=by simp; omega
 have g: (k==12)=false:=by simp; omega
 have h: (k==13)=false:=by simp; omega
 have i: (k==14)=false:=by simp; omega
 have j: (k==15)=false:=by simp; omega
 have l: (k==16)=false:=by simp; omega
 have m: (k==17)=false:=by simp; omega
 clear q;go_enter Tryz.func175,Tryz.ntmps175;go_wp2;go_ret;exact ⟨rfl,Z0h (Z01 _ _) _⟩
end
end Go.Proofs.YtgndehppmaacaaaGreatDoor
