/- What the proofs of ParsePlaces want, part 3. -/
import Derived.Test.YtkncdbaoaeeoiaaGreatDoorK0n2
set_option linter.unusedVariables false
set_option linter.unusedSimpArgs false
set_option linter.unusedSectionVars false
set_option maxRecDepth 100000
set_option maxHeartbeats 16000000
namespace Lex
section
def ahead:List UInt8:= [32,45,45,32,97,32,114,101,109,97,114,107,32,195,169,10,9]
def Placed (s:List UInt8):Nat->List (Tok×Nat)->Prop
 | a,[]=>a<=s.length
 | a,(t,p)::r=>a<=p/\p<=s.length/\1<=t.kind/\t.kind<=7/\(t.kind=4->Placed s (p+2) r)/\(t.kind≠4->p+t.text.length<=s.length/\(s.drop p).take t.text.length=t.text/\Placed s (p+t.text.length) r)
theorem Placed.less {s:List UInt8} {a b:Nat} (hab:b<=a): ∀ {l:List (Tok×Nat)},Placed s a l->Placed s b l
 | [],h=>Nat.le_trans hab h
 | (t,p)::r,h=>by
  obtain ⟨h1,h2⟩:=h;exact ⟨Nat.le_trans hab h1,h2⟩
theorem Zb2 {s:List UInt8} {t:Tok} {n:Nat} (h:token s= .ok (t,n)) (hk:t.kind=4):2<=n:=by
 obtain ⟨_,h2⟩:=Z42 h;obtain ⟨h3,h4,_⟩:=Z0I h;have:=congrArg List.length h2;unfold written at this;rw[if_pos hk,List.length_take,List.length_cons,List.length_append] at this;simp only[List.length_cons,List.length_nil] at this;omega
theorem Z1M (s:List UInt8): ∀(k i:Nat) (l:List (Tok×Nat)),s.length - i<=k->i<=s.length->toks (s.drop i) i= .ok l->Placed s i l
 | k,i,l,hk,hi,h=>by
  cases hd:s.drop i with
  | nil=>
   rw[hd] at h;obtain rfl: []=l:=Except.ok.inj h;exact hi
  | cons c r=>
   have hlen: (s.drop i).length=r.length+1:=by rw[hd]; rfl
   rw[List.length_drop] at hlen;cases k with
   | zero=>omega
   | succ k=>
    have hr1:s.drop (i+1)=r:=by
     have:=congrArg List.tail hd;simpa[List.tail_drop] using this
    by_cases hb:blank c=true
    {rw[hd,Z0l hb, <-hr1] at h;exact (Z1M s k (i+1) l (by omega) (by omega) h).less (by omega)}
    {have hbf:blank c=false:=by simpa using hb
     have hh1: ∀x∈(c::r).head?,blank x=false:=fun x hx=>by
      obtain rfl:c=x:=by simpa using hx
      exact hbf
     have hdd: ∀n,(c::r).drop n=s.drop (i+n):=fun n=>by rw[<-hd,List.drop_drop]
     cases hr:hasRemark (c::r) with
     | true=>
      rw[hd,Z0y hh1 hr] at h;cases hm:remark (c::r).length (c::r) with
      | error j=>rw[hm] at h; cases h
      | ok n=>
       rw[hm] at h;have h1:=Z0Q hr (f:=r.length) hm;have h2:=Z1m _ _ _ hm;rw[List.length_cons] at h2;simp only at h;rw[hdd] at h;exact (Z1M s k (i+n) l (by omega) (by omega) h).less (by omega)
     | false=>
      rw[hd,Z0G (by simp) hh1 hr] at h;cases ht:token (c::r) with
      | error x=>rw[ht] at h; cases h
      | ok x=>
       obtain ⟨t,n⟩:=x;rw[ht] at h;simp only at h;rw[hdd] at h;obtain ⟨h1,h2,h3,h4,h5⟩:=Z0I ht;have h2n:=fun hk4=>Zb2 ht hk4;rw[List.length_cons] at h2;cases hq:toks (s.drop (i+n)) (i+n) with
       | error e=>rw[hq] at h; cases h
       | ok m=>
        rw[hq] at h;obtain rfl: (t,i)::m=l:=Except.ok.inj h;have ih:=Z1M s k (i+n) m (by omega) (by omega) hq;refine ⟨Nat.le_refl _,hi,h4,h5,fun hk4=>ih.less (by have:=h2n hk4; omega),fun hk4=> ?_⟩;have htx:=h3 hk4;have htl:t.text.length=n:=by rw[htx,List.length_take,List.length_cons]; omega
        refine ⟨by omega, ?_,by rw[htl]; exact ih⟩;rw[htl,hd];exact htx.symm}
def scanR (s:List UInt8):Except (Int×Nat) (List (Tok×Nat)):=if 4096 < s.length then .error (3,4096) else match toks s 0 with
 | .error x=> .error x
 | .ok l=> .ok (l++ [(⟨0,[]⟩,s.length)])
theorem Zcy {s:List UInt8} {e:Int} {k:Nat} (h:token s= .error (e,k)):k<=s.length/\(e=60\/e=30):=by
 cases s with
 | nil=>
  obtain ⟨rfl,rfl⟩:=Prod.mk.inj (Except.error.inj h);exact ⟨Nat.zero_le _,Or.inl rfl⟩
 | cons x r=>
  unfold token at h;simp only at h;have fin: ∀ {e:Int} {k:Nat},(Except.error (60,0):Except (Int×Nat) (Tok×Nat))= .error (e,k)->k<=(x::r).length/\(e=60\/e=30):=fun h=>by
   obtain ⟨rfl,rfl⟩:=Prod.mk.inj (Except.error.inj h);exact ⟨Nat.zero_le _,Or.inl rfl⟩
  split at h
  {split at h
   {cases h}
   split at h
   {cases h}
   split at h
   {cases h}
   {exact fin h}}
  split at h
  {split at h
   {cases h}
   split at h
   {cases h}
   {exact fin h}}
  split at h
  {obtain ⟨h1,h2,h3⟩:=Z1u (x::r).length r (by simp);unfold quoted finish at h;rw[List.tail_cons] at h;rcases hq:body (x::r).length r with ⟨ps,rest⟩;rw[hq] at h h2;simp only at h h2;cases rest with
   | nil=>exact fin h
   | cons c q=>
    simp only at h;split at h
    {cases h}
    split at h
    {exact fin h}
    {obtain ⟨rfl,rfl⟩:=Prod.mk.inj (Except.error.inj h);have:=congrArg List.length h2;rw[List.length_append,List.length_cons] at this;exact ⟨by rw[List.length_cons]; omega,Or.inr rfl⟩}}
  split at h
  {cases h}
  split at h
  {cases h}
  {exact fin h}
theorem Z60: ∀(f:Nat) (l:List UInt8) (n:Nat),remark f l= .error n->n<=l.length
 | 0,l,n,h=>by cases h
 | f+1,[],n,h=>by cases h
 | f+1,c::r,n,h=>by
  rw[remark] at h;split at h
  {cases h}
  split at h
  {obtain rfl:=Except.error.inj h;omega}
  {rename_i h0
   rcases hq:Utf.first (c::r) with ⟨p,k⟩;rw[hq] at h h0;obtain ⟨_,_,_,h4⟩:=Utf.Z0E hq h0;simp only at h;split at h
   {cases h}
   {rename_i m hm
    obtain rfl:k+m=n:=Except.error.inj h;have:=Z60 f _ m hm;rw[List.length_drop] at this;omega}}
theorem Z1d: ∀(k:Nat) (a:List UInt8) (i:Nat) (e:Int) (j:Nat),a.length<=k->toks a i= .error (e,j)->j<=i+a.length/\(e=60\/e=30)
 | _,[],_,_,_,_,h=>by cases h
 | 0,c::r,_,_,_,h,_=>by simp at h
 | k+1,c::r,i,e,j,hk,h=>by
  rw[List.length_cons] at hk ⊢;by_cases hb:blank c=true
  {rw[Z0l hb] at h;have:=Z1d k r (i+1) e j (by omega) h;exact ⟨by omega,this.2⟩}
  {have hbf:blank c=false:=by simpa using hb
   have hh1: ∀x∈(c::r).head?,blank x=false:=fun x hx=>by
    obtain rfl:c=x:=by simpa using hx
    exact hbf
   cases hr:hasRemark (c::r) with
   | true=>
    rw[Z0y hh1 hr] at h;cases hm:remark (c::r).length (c::r) with
    | error n=>
     rw[hm] at h;obtain ⟨rfl,rfl⟩:=Prod.mk.inj (Except.error.inj h);have:=Z60 _ _ _ hm;rw[List.length_cons] at this;exact ⟨by omega,Or.inr rfl⟩
    | ok n=>
     rw[hm] at h;have h1:=Z0Q hr (f:=r.length) hm;have h2:=Z1m _ _ _ hm;rw[List.length_cons] at h2;have:=Z1d k _ (i+n) e j (by rw[List.length_drop,List.length_cons]; omega) h;rw[List.length_drop,List.length_cons] at this;exact ⟨by omega,this.2⟩
   | false=>
    rw[Z0G (by simp) hh1 hr] at h;cases ht:token (c::r) with
    | error x=>
     obtain ⟨e',n⟩:=x;rw[ht] at h;obtain ⟨rfl,rfl⟩:=Prod.mk.inj (Except.error.inj h);have:=Zcy ht;rw[List.length_cons] at this;exact ⟨by omega,this.2⟩
    | ok x=>
     obtain ⟨t,n⟩:=x;rw[ht] at h;simp only at h;obtain ⟨h1,h2,_⟩:=Z0I ht;rw[List.length_cons] at h2;cases hq:toks ((c::r).drop n) (i+n) with
     | ok m=>rw[hq] at h; cases h
     | error y=>
      rw[hq] at h;obtain rfl:y=(e,j):=Except.error.inj h;have:=Z1d k _ (i+n) e j (by rw[List.length_drop,List.length_cons]; omega) hq;rw[List.length_drop,List.length_cons] at this;exact ⟨by omega,this.2⟩}
theorem Z5k: ∀(f g:Nat) (l:List UInt8),l.length<=f->l.length<=g->remark f l=remark g l
 | f,g,[],_,_=>by cases f <;> cases g <;> rfl
 | 0,_,c::r,h,_=>by simp at h
 | f+1,0,c::r,_,h=>by simp at h
 | f+1,g+1,c::r,hf,hg=>by
  rw[List.length_cons] at hf hg;rw[remark,remark];split
  {rfl}
  split
  {rfl}
  {rename_i h0
   rcases hq:Utf.first (c::r) with ⟨p,k⟩;rw[hq] at h0;simp only at h0 ⊢;rw[Z5k f g ((c::r).drop k) (by rw[List.length_drop,List.length_cons]; omega) (by rw[List.length_drop,List.length_cons]; omega)]}
def remarkOf (l:List UInt8):Except Nat Nat:=remark l.length l
def up (k:Nat):Except Nat Nat->Except Nat Nat
 | .ok n=> .ok (k+n)
 | .error n=> .error (k+n)
theorem Zgf (a b:Nat) (x:Except Nat Nat):up a (up b x)=up (a+b) x:=by cases x <;> simp[up,Nat.add_assoc]
theorem Z8b:remarkOf []= .ok 0:=rfl
theorem Z7l (r:List UInt8):remarkOf (10::r)= .ok 0:=by unfold remarkOf; rw[List.length_cons,remark,if_pos rfl]
theorem Z8c {c:UInt8} {r:List UInt8} (hc:c≠10) (h: (Utf.first (c::r)).2=0):remarkOf (c::r)= .error 0:=by
 unfold remarkOf; rw[List.length_cons,remark,if_neg hc,if_pos h]
theorem Z7m {c:UInt8} {r:List UInt8} {p:Int} {k:Nat} (hc:c≠10) (h:Utf.first (c::r)=(p,k)) (hk:k≠0):remarkOf (c::r)=up k (remarkOf ((c::r).drop k)):=by
 unfold remarkOf;rw[List.length_cons,remark,if_neg hc,h,if_neg hk];simp only;rw[Z5k r.length ((c::r).drop k).length _ (by rw[List.length_drop,List.length_cons]; omega) (Nat.le_refl _)];cases remark ((c::r).drop k).length ((c::r).drop k) <;> rfl
def passed (l:List UInt8):Except Nat Nat:=
 if hasRemark (l.drop (l.takeWhile blank).length) then up (l.takeWhile blank).length (remarkOf (l.drop (l.takeWhile blank).length)) else .ok (l.takeWhile blank).length
theorem Z4j (x y:UInt8) (q:List UInt8):hasRemark (x::y::q)=(x==45&&y==45):=by
 by_cases h1:x=45
 {by_cases h2:y=45
  {subst h1; subst h2; rfl}
  {have: (y==45)=false:=beq_eq_false_iff_ne.2 h2;rw[this,Bool.and_false];unfold hasRemark; split
   {rename_i h; simp at h; exact absurd h.2.1 h2}
   {rfl}}}
 {have: (x==45)=false:=beq_eq_false_iff_ne.2 h1;rw[this,Bool.false_and];unfold hasRemark; split
  {rename_i h; simp at h; exact absurd h.1 h1}
  {rfl}}
theorem Z3h {l:List UInt8} (h:l.length<=1):hasRemark l=false:=by
 match l,h with
 | [],_=>rfl
 | [x],_=>
  unfold hasRemark; split
  {rename_i h; simp at h}
  {rfl}
theorem Z5l: ∀(l:List UInt8) (i:Nat),toks l i=toks (l.drop (l.takeWhile blank).length) (i+(l.takeWhile blank).length)
 | [],i=>rfl
 | c::r,i=>by
  by_cases hb:blank c=true
  {rw[Z0l hb,List.takeWhile_cons_of_pos hb,List.length_cons,List.drop_succ_cons,Z5l r (i+1)];rw[show i+1+(r.takeWhile blank).length=i+((r.takeWhile blank).length+1) from by omega]}
  {rw[List.takeWhile_cons_of_neg hb]; rfl}
theorem Zar (p:UInt8->Bool): ∀l:List UInt8,∀c∈(l.drop (l.takeWhile p).length).head?,p c=false
 | [],c,h=>by simp at h
 | x::r,c,h=>by
  by_cases hx:p x=true
  {rw[List.takeWhile_cons_of_pos hx,List.length_cons,List.drop_succ_cons] at h;exact Zar p r c h}
  {rw[List.takeWhile_cons_of_neg hx] at h;simp at h;subst h;simpa using hx}
theorem Z9w (l:List UInt8) (i:Nat):match passed l with
 | .error k=>toks l i= .error (30,i+k)
 | .ok 0=>hasRemark l=false/\ ∀c∈l.head?,blank c=false
 | .ok (n+1)=>toks l i=toks (l.drop (n+1)) (i+(n+1)):=by
 obtain ⟨b,hb⟩: ∃b,b=(l.takeWhile blank).length:=⟨_,rfl⟩;have h1:=Z5l l i;have h2:=Zar blank l;unfold passed;rw[<-hb] at h1 h2 ⊢;cases hr:hasRemark (l.drop b) with
 | false=>
  rw[if_neg (by simp)];cases b with
  | zero=>simp only; rw[List.drop_zero] at hr h2; exact ⟨hr,h2⟩
  | succ b=>exact h1
 | true=>
  rw[if_pos rfl];have h3:=Z0y h2 hr (i+b);unfold remarkOf;cases hm:remark (l.drop b).length (l.drop b) with
  | error k=>
   rw[hm] at h3;simp only[up];rw[h1,h3];simp only[Nat.add_assoc]
  | ok n=>
   rw[hm] at h3;have hpos:1<=n:=by
    have hl: (l.drop b).length=(l.drop b).length - 1+1:=by
     have:1<=(l.drop b).length:=by
      cases hd:l.drop b with
      | nil=>rw[hd] at hr; cases hr
      | cons c r=>simp
     omega
    rw[hl] at hm;exact Z0Q hr hm
   obtain ⟨m,rfl⟩: ∃m,n=m+1:=⟨n - 1,by omega⟩;show toks l i=toks (l.drop (b+m+1)) (i+(b+m+1));rw[h1,h3];simp only;rw[List.drop_drop];rw[show b+(m+1)=b+m+1 from by omega,show i+b+(m+1)=i+(b+m+1) from by omega]
def kindR (l:List UInt8):Option Int:=if isWord l then some 5 else if isName l then some 1 else if isUpper l then some 2 else if isSign l then some 6 else if number l then some 3 else if (Sem.parse l).isSome then some 7 else none
def longest:List UInt8->List UInt8
 | []=> []
 | c::r=>if small c||great c then (c::r).takeWhile nameB else if digit c then (c::r).takeWhile lumpB else if isSign ((c::r).take 2) then (c::r).take 2 else [c]
theorem Z4k {L:List (List UInt8)} {p:UInt8->Bool} (hL:L.all (fun x=>match x with | []=>false | a::_=>p a)=true) {c:UInt8} {t:List UInt8} (hc:p c=false):L.contains (c::t)=false:=by
 cases h:L.contains (c::t) with
 | false=>rfl
 | true=>
  have:=List.all_eq_true.1 hL _ (List.contains_iff_mem.1 h);simp only at this;rw[this] at hc; cases hc
section
variable {c : UInt8} {t : List UInt8}
include c t
theorem Zas (h:small c=false):isWord (c::t)=false:=
 Z4k (p:=small) (by decide) h
theorem Zat (h: (small c||great c||digit c)=true):isSign (c::t)=false:=
 Z4k (p:=fun c=> !(small c||great c||digit c)) (by decide) (by rw[h]; rfl)
theorem Z6Y (h:digit c=false):number (c::t)=false:=by
 unfold number; simp[h]
end
theorem classes (c:UInt8): (digit c=true->small c=false/\great c=false)/\(small c=true->digit c=false/\great c=false)/\(great c=true->digit c=false/\small c=false):=by
 unfold digit small great;simp only[Bool.and_eq_true,decide_eq_true_eq,Bool.and_eq_false_iff,decide_eq_false_iff_not];omega
theorem Z8d {c:UInt8} {t:List UInt8} (h:digit c=false):Sem.parse (c::t)=none:=by
 cases hp:Sem.parse (c::t) with
 | none=>rfl
 | some v=>
  exfalso;obtain ⟨_,h2⟩:=Sem.Z2M hp;cases hd:Sem.dec v.maj.toNat with
  | nil=>exact Sem.Z33 _ hd
  | cons a q=>
   have:=Sem.Z2Z v.maj.toNat a (by rw[hd]; simp);unfold Sem.text at h2;rw[hd,List.cons_append] at h2;rw[<-(List.cons.inj h2).1] at h;unfold digit at h;simp only[Bool.and_eq_false_iff,decide_eq_false_iff_not] at h;omega
theorem Z2Q (c:UInt8) (r:List UInt8):token (c::r)=
 if small c||great c then
  (let t:=(c::r).takeWhile nameB
   if isWord t then .ok (⟨5,t⟩,t.length) else if isName t then .ok (⟨1,t⟩,t.length) else if isUpper t then .ok (⟨2,t⟩,t.length) else .error (60,0))
 else if digit c then
  (let t:=(c::r).takeWhile lumpB
   if number t then .ok (⟨3,t⟩,t.length) else if (Sem.parse t).isSome then .ok (⟨7,t⟩,t.length) else .error (60,0))
 else if c=34 then quoted (c::r)
 else if decide (2<=(c::r).length)&&isSign ((c::r).take 2) then .ok (⟨6,(c::r).take 2⟩,2)
 else if isSign [c] then .ok (⟨6,[c]⟩,1)
 else .error (60,0):=rfl
theorem Z37 (c:UInt8) (r:List UInt8):longest (c::r)=if small c||great c then (c::r).takeWhile nameB else if digit c then (c::r).takeWhile lumpB else if isSign ((c::r).take 2) then (c::r).take 2 else [c]:=rfl
theorem Zcz {c:UInt8} {r:List UInt8} (h34:c≠34):token (c::r)=match kindR (longest (c::r)) with
 | some k=> .ok (⟨k,longest (c::r)⟩,(longest (c::r)).length)
 | none=> .error (60,0):=by
 obtain ⟨k1,k2,k3⟩:=classes c;rw[Z2Q,Z37];by_cases h1: (small c||great c)=true
 {rw[if_pos h1,if_pos h1];have hn:nameB c=true:=by unfold nameB; rw[h1]; rfl
  have hd:digit c=false:=by
   rcases Bool.or_eq_true _ _▸h1 with h | h
   {exact (k2 h).1}
   {exact (k3 h).1}
  have hs: (small c||great c||digit c)=true:=by rw[h1]; rfl
  rw[List.takeWhile_cons_of_pos hn];unfold kindR;simp only;rw[Zat hs,Z6Y hd,Z8d hd];split
  {rfl}
  split
  {rfl}
  split
  {rfl}
  {rfl}}
 {rw[if_neg h1,if_neg h1];have hsm:small c=false:=by simpa using (fun h=>h1 (by rw[h]; rfl):small c≠true)
  have hgr:great c=false:=by simpa using (fun h=>h1 (by rw[h]; simp):great c≠true)
  have hname: ∀t,isName (c::t)=false:=fun t=>by show (decide ((c::t).length<=24)&&small c&&(c::t).all nameB&& !isWord (c::t))=false; rw[hsm]; simp
  have hupper: ∀t,isUpper (c::t)=false:=fun t=>by show (decide ((c::t).length<=24)&&great c&&(c::t).all nameB)=false; rw[hgr]; simp
  by_cases h2:digit c=true
  {rw[if_pos h2,if_pos h2];have hn:lumpB c=true:=by unfold lumpB; rw[h2]; simp
   have hs: (small c||great c||digit c)=true:=by rw[h2]; simp
   rw[List.takeWhile_cons_of_pos hn];unfold kindR;rw[Zas hsm,hname,hupper,Zat hs];simp only[Bool.false_eq_true,if_false];split
   {rfl}
   split
   {rfl}
   {rfl}}
  {rw[if_neg h2,if_neg h2,if_neg h34];have hdg:digit c=false:=by simpa using h2
   have hk: ∀t,kindR (c::t)=if isSign (c::t) then some 6 else none:=fun t=>by
    unfold kindR;rw[Zas hsm,hname,hupper,Z6Y hdg,Z8d hdg];simp
   cases r with
   | nil=>
    have ht: ([c]:List UInt8).take 2= [c]:=rfl;rw[ht];simp only[ite_self,List.length_cons,List.length_nil];rw[hk];by_cases hsg:isSign [c]=true
    {simp[hsg]}
    {simp[hsg]}
   | cons d q=>
    have ht: (c::d::q).take 2= [c,d]:=rfl;rw[ht];have hl:decide (2<=(c::d::q).length)=true:=by simp
    rw[hl,Bool.true_and];by_cases hsg:isSign [c,d]=true
    {rw[if_pos hsg,if_pos hsg,hk,if_pos hsg]; rfl}
    {rw[if_neg hsg,if_neg hsg,hk];by_cases hs1:isSign [c]=true
     {rw[if_pos hs1,if_pos hs1]; rfl}
     {rw[if_neg hs1,if_neg hs1]}}}}
def unesc (d:UInt8):Option UInt8:=if d=110 then some 10 else if d=116 then some 9 else if d=34 then some 34 else if d=92 then some 92 else none
def unq:List UInt8->List UInt8×Nat×Bool
 | []=>([],0,false)
 | c::r=>if c=34 then ([],1,true) else if c=92 then
  (match r with
  | []=>([],0,false)
  | d::q=>match unesc d with
   | none=>([],0,false)
   | some x=>(x::(unq q).1,(unq q).2.1+2,(unq q).2.2))
  else if c.toNat < 32 then ([],0,false) else (c::(unq r).1,(unq r).2.1+1,(unq r).2.2)
theorem Z14 (c:UInt8) (r:List UInt8):unq (c::r)=if c=34 then ([],1,true) else if c=92 then
 (match r with
 | []=>([],0,false)
 | d::q=>match unesc d with
  | none=>([],0,false)
  | some x=>(x::(unq q).1,(unq q).2.1+2,(unq q).2.2))
 else if c.toNat < 32 then ([],0,false) else (c::(unq r).1,(unq r).2.1+1,(unq r).2.2):=by cases r <;> rfl
theorem Z6v: ∀(k:Nat) (l:List UInt8),l.length<=k->(unq l).2.1<=l.length/\(unq l).1.length<=(unq l).2.1
 | _,[],_=>⟨Nat.le_refl _,Nat.le_refl _⟩
 | 0,c::r,h=>by simp at h
 | k+1,c::r,h=>by
  rw[List.length_cons] at h;rw[Z14];split
  {simp}
  split
  {cases r with
   | nil=>simp
   | cons d q=>
    rw[List.length_cons] at h;simp only;have:=Z6v k q (by omega);split
    {simp}
    {simp only[List.length_cons]; omega}}
  split
  {simp}
  {have:=Z6v k r (by omega);simp only[List.length_cons]; omega}
theorem Z6Z: ∀(b l:List UInt8),(∀x∈b,x≠34/\x≠92/\32<=x.toNat)->unq (b++l)=(b++(unq l).1,(unq l).2.1+b.length,(unq l).2.2)
 | [],l,_=>by simp
 | x::b,l,h=>by
  obtain ⟨h1,h2,h3⟩:=h x (by simp);rw[List.cons_append,Z14,if_neg h1,if_neg h2,if_neg (by omega),Z6Z b l (fun y hy=>h y (List.mem_cons_of_mem _ hy))];simp only[List.cons_append,List.length_cons];congr 2
theorem ZcA {p:Int} (h:Utf.pt p=true) (h32:32<=p) (n1:p≠34) (n2:p≠92): ∀x∈Utf.bytes p,x≠34/\x≠92/\32<=x.toNat:=by
 obtain ⟨a,r,e,h1,h2,h3⟩:=Z2t h h32 n1 n2;obtain ⟨a',r',e',_,_,h4⟩:=Utf.Z0X p h;rw[e] at e';obtain ⟨rfl,rfl⟩:=List.cons.inj e';rw[e];intro x hx;rcases List.mem_cons.1 hx with rfl | hx
 {exact ⟨h1,h3,by omega⟩}
 {have:=(h4 x hx).1;refine ⟨?_, ?_,by omega⟩
  {rintro rfl; revert this; decide}
  {rintro rfl; revert this; decide}}
theorem Zff {p:Int} (h:okP p=true) (l:List UInt8):unq (escP p++l)=(Utf.bytes p++(unq l).1,(unq l).2.1+(escP p).length,(unq l).2.2):=by
 simp only[okP,Bool.and_eq_true,Bool.or_eq_true,decide_eq_true_eq] at h;obtain ⟨h1,h2⟩:=h;unfold escP;by_cases e1:p=10
 {subst e1; rw[if_pos rfl]; show unq (92::110::l)=_; rw[Z14]; simp[unesc]; rfl}
 rw[if_neg e1];by_cases e2:p=9
 {subst e2; rw[if_pos rfl]; show unq (92::116::l)=_; rw[Z14]; simp[unesc]; rfl}
 rw[if_neg e2];by_cases e3:p=34
 {subst e3; rw[if_pos rfl]; show unq (92::34::l)=_; rw[Z14]; simp[unesc]; rfl}
 rw[if_neg e3];by_cases e4:p=92
 {subst e4; rw[if_pos rfl]; show unq (92::92::l)=_; rw[Z14]; simp[unesc]; rfl}
 rw[if_neg e4];exact Z6Z _ _ (ZcA h1 (by omega) e3 e4)
theorem Z8e: ∀(ps:List Int) (l:List UInt8),(∀p∈ps,okP p=true)->unq (esc ps++l)=(Utf.enc ps++(unq l).1,(unq l).2.1+(esc ps).length,(unq l).2.2)
 | [],l,_=>by simp[esc,Utf.enc]
 | p::ps,l,h=>by
  have e:esc (p::ps)++l=escP p++(esc ps++l):=by simp[esc]
  have e2: (esc (p::ps)).length=(escP p).length+(esc ps).length:=by simp[esc]
  rw[e,Zff (h p (by simp)),Z8e ps l (fun q hq=>h q (List.mem_cons_of_mem _ hq)),Utf.Z0H,e2];simp only[List.append_assoc];congr 2;omega
theorem Zau: ∀(ps:List Int),(∀p∈ps,okP p=true)-> ∃qs,esc ps=Utf.enc qs/\ ∀q∈qs,Utf.pt q=true
 | [],_=>⟨[],rfl,by simp⟩
 | p::ps,h=>by
  obtain ⟨qs,h1,h2⟩:=Zau ps (fun q hq=>h q (List.mem_cons_of_mem _ hq));have hp:=h p (by simp);simp only[okP,Bool.and_eq_true,Bool.or_eq_true,decide_eq_true_eq] at hp;have e:esc (p::ps)=escP p++esc ps:=by simp[esc]
  have two: ∀x:Int,x=110\/x=116\/x=34\/x=92->escP p=Utf.bytes 92++Utf.bytes x-> ∃qs,esc (p::ps)=Utf.enc qs/\ ∀q∈qs,Utf.pt q=true:=fun x hx he=>by
   refine ⟨92::x::qs,by rw[e,he,h1,Utf.Z0H,Utf.Z0H,List.append_assoc],fun q hq=> ?_⟩;rcases List.mem_cons.1 hq with rfl | hq
   {rfl}
   rcases List.mem_cons.1 hq with rfl | hq
   {rcases hx with rfl | rfl | rfl | rfl <;> rfl}
   {exact h2 q hq}
  by_cases e1:p=10
  {exact two 110 (by simp) (by subst e1; rfl)}
  by_cases e2:p=9
  {exact two 116 (by simp) (by subst e2; rfl)}
  by_cases e3:p=34
  {exact two 34 (by simp) (by subst e3; rfl)}
  by_cases e4:p=92
  {exact two 92 (by simp) (by subst e4; rfl)}
  {have he:escP p=Utf.bytes p:=by unfold escP; rw[if_neg e1,if_neg e2,if_neg e3,if_neg e4]
   refine ⟨p::qs,by rw[e,he,h1,Utf.Z0H],fun q hq=> ?_⟩;rcases List.mem_cons.1 hq with rfl | hq
   {exact hp.1}
   {exact h2 q hq}}
theorem Zb3 (r:List UInt8): ∃ps rest,Utf.Reads ((34::r).take (1+(unq r).2.1)) ps rest/\
 quoted (34::r)=if rest≠ [] then .error (30,(Utf.enc ps).length) else if (unq r).2.2 then .ok (⟨4,(unq r).1⟩,1+(unq r).2.1) else .error (60,0):=by
 obtain ⟨b1,b2,b3⟩:=Z1u (34::r).length r (by simp);have hq:quoted (34::r)=finish (body (34::r).length r):=rfl;rcases hx:body (34::r).length r with ⟨ps,tl⟩;rw[hx] at b1 b2 b3 hq;simp only at b1 b2 b3;rw[hq,b2,Z8e ps tl b1];obtain ⟨qs,hqs,hpt⟩:=Zau ps b1;have hpt34: ∀q∈34::qs,Utf.pt q=true:=fun q hq=>by
  rcases List.mem_cons.1 hq with rfl | hq
  {rfl}
  {exact hpt q hq}
 have h34:Utf.enc (34::qs)=34::Utf.enc qs:=rfl
 -- how far the bytes go
 have htake: ∀n,(34::(esc ps++tl)).take (1+(n+(esc ps).length))=Utf.enc (34::qs)++tl.take n:=fun n=>by
  rw[show 1+(n+(esc ps).length)=((esc ps).length+n)+1 by omega,List.take_succ_cons,List.take_length_add_append,h34, <-hqs];rfl
 have stop:tl.length=0\/(∃c q,tl=c::q/\c≠34/\(c=92\/c.toNat < 32))->unq tl=([],0,false)->finish (ps,tl)= .error (60,0)-> ∃ps_1 rest,Utf.Reads ((34::(esc ps++tl)).take (1+((unq tl).2.1+(esc ps).length))) ps_1 rest/\
  finish (ps,tl)=if rest≠ [] then .error (30,(Utf.enc ps_1).length) else if (unq tl).2.2 then .ok (⟨4,Utf.enc ps++(unq tl).1⟩,1+((unq tl).2.1+(esc ps).length)) else .error (60,0):=fun _ hu hf=>by
  refine ⟨34::qs,[],⟨hpt34, ?_,rfl⟩, ?_⟩
  {rw[hu,htake]; rfl}
  {rw[hu,hf]; rfl}
 cases tl with
 | nil=>exact stop (Or.inl rfl) rfl rfl
 | cons c q=>
  by_cases c34:c=34
  {have hu:unq (c::q)=([],1,true):=by rw[Z14,if_pos c34]
   have hf:finish (ps,c::q)= .ok (⟨4,Utf.enc ps⟩,(esc ps).length+2):=by unfold finish; simp only; rw[if_pos c34]
   rw[hu,hf];refine ⟨34::qs++ [34],[],⟨fun p hp=> ?_, ?_,rfl⟩, ?_⟩
   {rcases List.mem_append.1 hp with hp | hp
    {exact hpt34 p hp}
    {obtain rfl:p=34:=by simpa using hp
     rfl}}
   {rw[htake,c34,List.append_nil,Utf.Z3U]; rfl}
   {simp only[ne_eq,not_true_eq_false,if_false,List.append_nil,if_true];rw[show 1+(1+(esc ps).length)=(esc ps).length+2 by omega]}}
  {have hf:finish (ps,c::q)=if c.toNat < 32\/c=92 then .error (60,0) else .error (30,(esc ps).length+1):=by unfold finish; simp only; rw[if_neg c34]
   by_cases c92:c=92
   {refine stop (Or.inr ⟨c,q,rfl,c34,Or.inl c92⟩) ?_ (by rw[hf,if_pos (Or.inr c92)]);rw[Z1T,if_neg (by rintro (h | h); exact c34 h; rw[c92] at h; revert h; decide),if_pos c92] at b3;rw[Z14,if_neg c34,if_pos c92];cases q with
    | nil=>rfl
    | cons d u=>
     simp only at b3 ⊢;have:unesc d=none:=by
      unfold unesc;by_cases d1:d=110
      {rw[if_pos d1] at b3; cases b3}
      rw[if_neg d1] at b3 ⊢;by_cases d2:d=116
      {rw[if_pos d2] at b3; cases b3}
      rw[if_neg d2] at b3 ⊢;by_cases d3:d=34
      {rw[if_pos d3] at b3; cases b3}
      rw[if_neg d3] at b3 ⊢;by_cases d4:d=92
      {rw[if_pos d4] at b3; cases b3}
      rw[if_neg d4]
     rw[this]}
   {by_cases c32:c.toNat < 32
    {exact stop (Or.inr ⟨c,q,rfl,c34,Or.inr c32⟩) (by rw[Z14,if_neg c34,if_neg c92,if_pos c32]) (by rw[hf,if_pos (Or.inl c32)])}
    {have hu:unq (c::q)=(c::(unq q).1,(unq q).2.1+1,(unq q).2.2):=by rw[Z14,if_neg c34,if_neg c92,if_neg c32]
     rw[hf,if_neg (by rintro (h | h); exact c32 h; exact c92 h)];rw[Z1T,if_neg (by rintro (h | h); exact c34 h; exact c32 h),if_neg c92] at b3;have hno: (Utf.first (c::q)).2=0:=by
      by_cases h: (Utf.first (c::q)).2=0
      {exact h}
      {rw[if_neg h] at b3; cases b3}
     have hl: (unq (c::q)).2.1=(unq q).2.1+1:=by rw[hu]
     refine ⟨34::qs,(c::q).take ((unq q).2.1+1),⟨hpt34,by rw[hl,htake], ?_⟩, ?_⟩
     {apply Utf.Z24;by_cases h: (Utf.first ((c::q).take ((unq q).2.1+1))).2=0
      {exact h}
      {have:=Z41 h ((c::q).drop ((unq q).2.1+1));rw[List.take_append_drop] at this;rw[this] at hno; exact absurd hno h}}
     {rw[if_pos (by simp),h34,List.length_cons,hqs]}}}}
theorem Z61: ∀(f:Nat) (l:List UInt8),l.length<=f-> ∃ps rest,Utf.Reads (l.takeWhile (· !=10)) ps rest/\
 remark f l=if rest≠ [] then .error (Utf.enc ps).length else .ok (l.takeWhile (· !=10)).length
 | 0,l,h=>by
  obtain rfl:l= []:=List.eq_nil_of_length_eq_zero (by omega);exact ⟨[],[],⟨by simp,rfl,rfl⟩,rfl⟩
 | f+1,[],_=>⟨[],[],⟨by simp,rfl,rfl⟩,rfl⟩
 | f+1,c::r,h=>by
  rw[List.length_cons] at h;by_cases c10:c=10
  {subst c10;exact ⟨[],[],⟨by simp,rfl,rfl⟩,by rw[remark,if_pos rfl]; rfl⟩}
  {have hp: (c !=10)=true:=by simpa using c10
   obtain ⟨t,ht⟩: ∃t,t=(c::r).takeWhile (· !=10):=⟨_,rfl⟩
   obtain ⟨d,hd⟩: ∃d,c::r=t++d:=⟨_,by rw[ht]; exact (List.takeWhile_append_dropWhile).symm⟩;by_cases hk: (Utf.first (c::r)).2=0
   {refine ⟨[],t,⟨by simp,by rw[<-ht]; rfl, ?_⟩, ?_⟩
    {apply Utf.Z24;by_cases h: (Utf.first t).2=0
     {exact h}
     {have:=Z41 h d;rw[<-hd] at this;rw[this] at hk; exact absurd hk h}}
    {have hne:t≠ []:=by rw[ht,List.takeWhile_cons,if_pos hp]; simp
     rw[if_pos hne,remark,if_neg c10,if_pos hk]; rfl}}
   {rcases hf:Utf.first (c::r) with ⟨p,k⟩;rw[hf] at hk;simp only at hk;obtain ⟨h1,h2,h3,h4⟩:=Utf.Z0E hf hk;obtain ⟨ps,rest,i1,i2⟩:=Z61 f ((c::r).drop k) (by rw[List.length_drop,List.length_cons]; omega);have hb10: ∀x∈Utf.bytes p,(x !=10)=true:=by
     obtain ⟨a,q,e,_,_,h5⟩:=Utf.Z0X p h1;rw[e] at h3 ⊢;intro x hx;rcases List.mem_cons.1 hx with rfl | hx
     {rw[List.cons_append] at h3;rw[<-(List.cons.inj h3).1]; exact hp}
     {have:=(h5 x hx).1;have:x≠10:=by rintro rfl; revert this; decide
      simpa using this}
    have htw: (c::r).takeWhile (· !=10)=Utf.bytes p++((c::r).drop k).takeWhile (· !=10):=by
     conv=>lhs; rw[h3]
     rw[List.takeWhile_append_of_pos hb10]
    refine ⟨p::ps,rest,⟨fun x hx=> ?_, ?_,i1.none⟩, ?_⟩
    {rcases List.mem_cons.1 hx with rfl | hx
     {exact h1}
     {exact i1.pts x hx}}
    {rw[htw,Utf.Z0H,List.append_assoc, <-i1.text]}
    {rw[remark,if_neg c10,hf];simp only;rw[if_neg hk,i2,htw,Utf.Z0H,List.length_append,List.length_append,Utf.Z0c, <-h2];by_cases hr:rest= []
     {subst hr; simp}
     {rw[if_pos hr,if_pos hr]}}}}
end
end Lex
namespace Lex
def letter (c:UInt8):Bool:=small c||great c
theorem Z8f (c:UInt8):nameB c=(letter c||digit c||c==95):=rfl
theorem Z8g (c:UInt8):lumpB c=(letter c||digit c||c==46||c==45):=rfl
end Lex
namespace Go.Proofs.YtkncdbaoaeeoiaaGreatDoor
open Go.RowKit
section
variable (c : UInt8)
include c
theorem Zfg: ((c.toNat:Int)==46)=(c==46):=by
 rw[Bool.eq_iff_iff,beq_iff_eq,beq_iff_eq];constructor
 {intro h; apply UInt8.toNat_inj.1; show c.toNat=46; omega}
 {rintro rfl; rfl}
theorem Zfh: ((c.toNat:Int)==45)=(c==45):=by
 rw[Bool.eq_iff_iff,beq_iff_eq,beq_iff_eq];constructor
 {intro h; apply UInt8.toNat_inj.1; show c.toNat=45; omega}
 {rintro rfl; rfl}
theorem Z1N (w:World):
 Calls Tryz.prog 162 #[.int .u8 (c.toNat:Int)] w fun e w'=>e= .returned (.bool (Lex.small c))/\w=w':=by
 have hlt:=c.toNat_lt;have H:c.toNat<=96\/(97<=c.toNat/\c.toNat<=122)\/123<=c.toNat:=by omega
 have HB:Hid (Lex.small c=(decide (97<=c.toNat)&&decide (c.toNat<=122))):=Y1 rfl;obtain ⟨n,hn⟩: ∃n,n=c.toNat:=⟨_,rfl⟩;rw[<-hn] at H HB hlt ⊢;clear hn;rcases H with h1 | ⟨h1,h2⟩ | h1
 {have h3:decide ((97:Int)<=(n:Int))=false:=decide_eq_false (by omega);go_enter Tryz.func162,Tryz.ntmps162;go_wp2;go_ret;exact ⟨by rw[HB.out,decide_eq_false (by omega)]; rfl,rfl⟩}
 {have h3:decide ((n:Int)<=122)=true:=decide_eq_true (by omega);have h4:decide ((97:Int)<=(n:Int))=true:=decide_eq_true (by omega);go_enter Tryz.func162,Tryz.ntmps162;go_wp2;go_ret;exact ⟨by rw[HB.out,decide_eq_true h1,decide_eq_true h2]; rfl,rfl⟩}
 {have h3:decide ((n:Int)<=122)=false:=decide_eq_false (by omega);have h4:decide ((97:Int)<=(n:Int))=true:=decide_eq_true (by omega);go_enter Tryz.func162,Tryz.ntmps162;go_wp2;go_ret;exact ⟨by rw[HB.out,decide_eq_false (p:=n<=122) (by omega),Bool.and_false]; rfl,rfl⟩}
theorem Z3p (w:World):
 Calls Tryz.prog 167 #[.int .u8 (c.toNat:Int)] w fun e w'=>e= .returned (.bool (Lex.great c))/\w=w':=by
 have hlt:=c.toNat_lt;have H:c.toNat<=64\/(65<=c.toNat/\c.toNat<=90)\/91<=c.toNat:=by omega
 have HB:Hid (Lex.great c=(decide (65<=c.toNat)&&decide (c.toNat<=90))):=Y1 rfl;obtain ⟨n,hn⟩: ∃n,n=c.toNat:=⟨_,rfl⟩;rw[<-hn] at H HB hlt ⊢;clear hn;rcases H with h1 | ⟨h1,h2⟩ | h1
 {have h3:decide ((65:Int)<=(n:Int))=false:=decide_eq_false (by omega);go_enter Tryz.func167,Tryz.ntmps167;go_wp2;go_ret;exact ⟨by rw[HB.out,decide_eq_false (by omega)]; rfl,rfl⟩}
 {have h3:decide ((n:Int)<=90)=true:=decide_eq_true (by omega);have h4:decide ((65:Int)<=(n:Int))=true:=decide_eq_true (by omega);go_enter Tryz.func167,Tryz.ntmps167;go_wp2;go_ret;exact ⟨by rw[HB.out,decide_eq_true h1,decide_eq_true h2]; rfl,rfl⟩}
 {have h3:decide ((n:Int)<=90)=false:=decide_eq_false (by omega);have h4:decide ((65:Int)<=(n:Int))=true:=decide_eq_true (by omega);go_enter Tryz.func167,Tryz.ntmps167;go_wp2;go_ret;exact ⟨by rw[HB.out,decide_eq_false (p:=n<=90) (by omega),Bool.and_false]; rfl,rfl⟩}
theorem Z0z (w:World):
 Calls Tryz.prog 155 #[.int .u8 (c.toNat:Int)] w fun e w'=>e= .returned (.bool (Lex.digit c))/\w=w':=by
 have hlt:=c.toNat_lt;have H:c.toNat<=47\/(48<=c.toNat/\c.toNat<=57)\/58<=c.toNat:=by omega
 have HB:Hid (Lex.digit c=(decide (48<=c.toNat)&&decide (c.toNat<=57))):=Y1 rfl;obtain ⟨n,hn⟩: ∃n,n=c.toNat:=⟨_,rfl⟩;rw[<-hn] at H HB hlt ⊢;clear hn;rcases H with h1 | ⟨h1,h2⟩ | h1
 {have h3:decide ((48:Int)<=(n:Int))=false:=decide_eq_false (by omega);go_enter Tryz.func155,Tryz.ntmps155;go_wp2;go_ret;exact ⟨by rw[HB.out,decide_eq_false (by omega)]; rfl,rfl⟩}
 {have h3:decide ((n:Int)<=57)=true:=decide_eq_true (by omega);have h4:decide ((48:Int)<=(n:Int))=true:=decide_eq_true (by omega);go_enter Tryz.func155,Tryz.ntmps155;go_wp2;go_ret;exact ⟨by rw[HB.out,decide_eq_true h1,decide_eq_true h2]; rfl,rfl⟩}
 {have h3:decide ((n:Int)<=57)=false:=decide_eq_false (by omega);have h4:decide ((48:Int)<=(n:Int))=true:=decide_eq_true (by omega);go_enter Tryz.func155,Tryz.ntmps155;go_wp2;go_ret;exact ⟨by rw[HB.out,decide_eq_false (p:=n<=57) (by omega),Bool.and_false]; rfl,rfl⟩}
theorem Z0m (w:World):
 Calls Tryz.prog 152 #[.int .u8 (c.toNat:Int)] w fun e w'=>e= .returned (.bool (Lex.letter c))/\w=w':=by
 have HM:Hid (Lex.letter c=(Lex.small c||Lex.great c)):=Y1 rfl;cases h1:Lex.small c
 {have HF:Hid (Lex.letter c=Lex.great c):=Y1 (by rw[HM.out,h1]; rfl);go_enter Tryz.func152,Tryz.ntmps152
  go_wp2_with fail
  refine (Z1N c _).mono ?_;rintro e w2 ⟨rfl,rfl⟩;rw[h1]
  go_wp2_with fail
  refine (Z3p c _).mono ?_;rintro e w2 ⟨rfl,rfl⟩;go_wp2;go_ret;exact ⟨by rw[HF.out]; rfl,rfl⟩}
 {have HF:Hid (Lex.letter c=true):=Y1 (by rw[HM.out,h1]; rfl);go_enter Tryz.func152,Tryz.ntmps152
  go_wp2_with fail
  refine (Z1N c _).mono ?_;rintro e w2 ⟨rfl,rfl⟩;rw[h1];go_wp2;go_ret;exact ⟨by rw[HF.out]; rfl,rfl⟩}
theorem Z2w (w:World):
 Calls Tryz.prog 154 #[.int .u8 (c.toNat:Int)] w fun e w'=>e= .returned (.bool (Lex.nameB c))/\w=w':=by
 have HM:=Y1 (Lex.Z8f c);have b95:=Zap c;cases h1:Lex.letter c
 {cases h2:Lex.digit c
  {cases g95: (c==95)
   {rw[g95] at b95;have HF:Hid (Lex.nameB c=false):=Y1 (by rw[HM.out,h1,h2,g95]; rfl);clear HM;go_enter Tryz.func154,Tryz.ntmps154
    go_wp2_with fail
    refine (Z0m c _).mono ?_;rintro e w2 ⟨rfl,rfl⟩;rw[h1]
    go_wp2_with fail
    refine (Z0z c _).mono ?_;rintro e w2 ⟨rfl,rfl⟩;rw[h2];go_wp2;go_ret;exact ⟨by rw[HF.out]; rfl,rfl⟩}
   {rw[g95] at b95;have HF:Hid (Lex.nameB c=true):=Y1 (by rw[HM.out,h1,h2,g95]; rfl);clear HM;go_enter Tryz.func154,Tryz.ntmps154
    go_wp2_with fail
    refine (Z0m c _).mono ?_;rintro e w2 ⟨rfl,rfl⟩;rw[h1]
    go_wp2_with fail
    refine (Z0z c _).mono ?_;rintro e w2 ⟨rfl,rfl⟩;rw[h2];go_wp2;go_ret;exact ⟨by rw[HF.out]; rfl,rfl⟩}}
  {have HF:Hid (Lex.nameB c=true):=Y1 (by rw[HM.out,h1,h2]; rfl);clear HM;go_enter Tryz.func154,Tryz.ntmps154
   go_wp2_with fail
   refine (Z0m c _).mono ?_;rintro e w2 ⟨rfl,rfl⟩;rw[h1]
   go_wp2_with fail
   refine (Z0z c _).mono ?_;rintro e w2 ⟨rfl,rfl⟩;rw[h2];go_wp2;go_ret;exact ⟨by rw[HF.out]; rfl,rfl⟩}}
 {have HF:Hid (Lex.nameB c=true):=Y1 (by rw[HM.out,h1]; rfl);clear HM;go_enter Tryz.func154,Tryz.ntmps154
  go_wp2_with fail
  refine (Z0m c _).mono ?_;rintro e w2 ⟨rfl,rfl⟩;rw[h1];go_wp2;go_ret;exact ⟨by rw[HF.out]; rfl,rfl⟩}
theorem Z5m (w:World):
 Calls Tryz.prog 156 #[.int .u8 (c.toNat:Int)] w fun e w'=>e= .returned (.bool (Lex.lumpB c))/\w=w':=by
 have HM:=Y1 (Lex.Z8g c);have b46:=Zfg c;have b45:=Zfh c;cases h1:Lex.letter c
 {cases h2:Lex.digit c
  {cases g46: (c==46)
   {cases g45: (c==45)
    {rw[g46] at b46;rw[g45] at b45;have HF:Hid (Lex.lumpB c=false):=Y1 (by rw[HM.out,h1,h2,g46,g45]; rfl);clear HM;go_enter Tryz.func156,Tryz.ntmps156
     go_wp2_with fail
     refine (Z0m c _).mono ?_;rintro e w2 ⟨rfl,rfl⟩;rw[h1]
     go_wp2_with fail
     refine (Z0z c _).mono ?_;rintro e w2 ⟨rfl,rfl⟩;rw[h2];go_wp2;go_ret;exact ⟨by rw[HF.out]; rfl,rfl⟩}
    {rw[g46] at b46;rw[g45] at b45;have HF:Hid (Lex.lumpB c=true):=Y1 (by rw[HM.out,h1,h2,g46,g45]; rfl);clear HM;go_enter Tryz.func156,Tryz.ntmps156
     go_wp2_with fail
     refine (Z0m c _).mono ?_;rintro e w2 ⟨rfl,rfl⟩;rw[h1]
     go_wp2_with fail
     refine (Z0z c _).mono ?_;rintro e w2 ⟨rfl,rfl⟩;rw[h2];go_wp2;go_ret;exact ⟨by rw[HF.out]; rfl,rfl⟩}}
   {rw[g46] at b46;have HF:Hid (Lex.lumpB c=true):=Y1 (by rw[HM.out,h1,h2,g46]; rfl);clear HM;go_enter Tryz.func156,Tryz.ntmps156
    go_wp2_with fail
    refine (Z0m c _).mono ?_;rintro e w2 ⟨rfl,rfl⟩;rw[h1]
    go_wp2_with fail
    refine (Z0z c _).mono ?_;rintro e w2 ⟨rfl,rfl⟩;rw[h2];go_wp2;go_ret;exact ⟨by rw[HF.out]; rfl,rfl⟩}}
  {have HF:Hid (Lex.lumpB c=true):=Y1 (by rw[HM.out,h1,h2]; rfl);clear HM;go_enter Tryz.func156,Tryz.ntmps156
   go_wp2_with fail
   refine (Z0m c _).mono ?_;rintro e w2 ⟨rfl,rfl⟩;rw[h1]
   go_wp2_with fail
   refine (Z0z c _).mono ?_;rintro e w2 ⟨rfl,rfl⟩;rw[h2];go_wp2;go_ret;exact ⟨by rw[HF.out]; rfl,rfl⟩}}
 {have HF:Hid (Lex.lumpB c=true):=Y1 (by rw[HM.out,h1]; rfl);clear HM;go_enter Tryz.func156,Tryz.ntmps156
  go_wp2_with fail
  refine (Z0m c _).mono ?_;rintro e w2 ⟨rfl,rfl⟩;rw[h1];go_wp2;go_ret;exact ⟨by rw[HF.out]; rfl,rfl⟩}
end
theorem Z19 (s:List UInt8) (w:World):
 Calls Tryz.prog 158 #[.string ⟨s.toArray⟩] w fun e w'=>e= .returned (.bool (Lex.isWord s))/\w=w':=by
 cases hq:Lex.isWord s
 {have HN: ∀t∈Lex.words,(s==t)=false:=fun t ht=>by
   cases h: (s==t) with
   | false=>rfl
   | true=>
    obtain rfl:=beq_iff_eq.1 h;unfold Lex.isWord at hq;rw[List.contains_iff_mem.2 ht] at hq; cases hq
  have n0: (s== [109,111,100,117,108,101])=false:=HN _ (by decide);have n1: (s== [105,109,112,111,114,116])=false:=HN _ (by decide);have n2: (s== [112,105,110])=false:=HN _ (by decide);have n3: (s== [114,97,110,103,101])=false:=HN _ (by decide);have n4: (s== [116,121,112,101])=false:=HN _ (by decide);have n5: (s== [111,112,97,113,117,101])=false:=HN _ (by decide);have n6: (s== [108,101,116])=false:=HN _ (by decide);have n7: (s== [105,110])=false:=HN _ (by decide);have n8: (s== [101,120,112,111,114,116])=false:=HN _ (by decide);have n9: (s== [102,117,110])=false:=HN _ (by decide);have n10: (s== [105,102])=false:=HN _ (by decide);have n11: (s== [116,104,101,110])=false:=HN _ (by decide);have n12: (s== [101,108,115,101])=false:=HN _ (by decide);have n13: (s== [99,97,115,101])=false:=HN _ (by decide);have n14: (s== [111,102])=false:=HN _ (by decide);have n15: (s== [97,115])=false:=HN _ (by decide);have n16: (s== [110,101,119])=false:=HN _ (by decide);have n17: (s== [114,97,119])=false:=HN _ (by decide);have n18: (s== [116,114,117,101])=false:=HN _ (by decide);have n19: (s== [102,97,108,115,101])=false:=HN _ (by decide);clear HN hq;go_enter Tryz.func158,Tryz.ntmps158;go_wp2;go_ret;exact ⟨rfl,rfl⟩}
 {have hm:s∈Lex.words:=List.contains_iff_mem.1 hq;clear hq;unfold Lex.words at hm;simp only[List.mem_cons,List.not_mem_nil,or_false] at hm;rcases hm with rfl | rfl | rfl | rfl | rfl | rfl | rfl | rfl | rfl | rfl | rfl | rfl | rfl | rfl | rfl | rfl | rfl | rfl | rfl | rfl
  all_goals
   go_enter Tryz.func158,Tryz.ntmps158;go_wp2;go_ret;exact ⟨rfl,rfl⟩}
theorem Z1H (s:List UInt8) (w:World):
 Calls Tryz.prog 157 #[.string ⟨s.toArray⟩] w fun e w'=>e= .returned (.bool (Lex.isSign s))/\w=w':=by
 cases hq:Lex.isSign s
 {have HN: ∀t∈Lex.signs,(s==t)=false:=fun t ht=>by
   cases h: (s==t) with
   | false=>rfl
   | true=>
    obtain rfl:=beq_iff_eq.1 h;unfold Lex.isSign at hq;rw[List.contains_iff_mem.2 ht] at hq; cases hq
  have n0: (s== [40])=false:=HN _ (by decide);have n1: (s== [41])=false:=HN _ (by decide);have n2: (s== [123])=false:=HN _ (by decide);have n3: (s== [125])=false:=HN _ (by decide);have n4: (s== [91])=false:=HN _ (by decide);have n5: (s== [93])=false:=HN _ (by decide);have n6: (s== [60])=false:=HN _ (by decide);have n7: (s== [62])=false:=HN _ (by decide);have n8: (s== [60,61])=false:=HN _ (by decide);have n9: (s== [62,61])=false:=HN _ (by decide);have n10: (s== [61])=false:=HN _ (by decide);have n11: (s== [94])=false:=HN _ (by decide);have n12: (s== [42])=false:=HN _ (by decide);have n13: (s== [44])=false:=HN _ (by decide);have n14: (s== [58])=false:=HN _ (by decide);have n15: (s== [46])=false:=HN _ (by decide);have n16: (s== [47])=false:=HN _ (by decide);have n17: (s== [64])=false:=HN _ (by decide);have n18: (s== [124])=false:=HN _ (by decide);have n19: (s== [45,62])=false:=HN _ (by decide);clear HN hq;go_enter Tryz.func157,Tryz.ntmps157;go_wp2;go_ret;exact ⟨rfl,rfl⟩}
 {have hm:s∈Lex.signs:=List.contains_iff_mem.1 hq;clear hq;unfold Lex.signs at hm;simp only[List.mem_cons,List.not_mem_nil,or_false] at hm;rcases hm with rfl | rfl | rfl | rfl | rfl | rfl | rfl | rfl | rfl | rfl | rfl | rfl | rfl | rfl | rfl | rfl | rfl | rfl | rfl | rfl
  all_goals
   go_enter Tryz.func157,Tryz.ntmps157;go_wp2;go_ret;exact ⟨rfl,rfl⟩}
end Go.Proofs.YtkncdbaoaeeoiaaGreatDoor
namespace Lex
def named (l:List UInt8):Bool:=decide (l.length<=24)&&l.tail.all nameB
section
variable {p : UInt8 -> Bool} {l : List UInt8}
include p l
theorem Ze8 (h: ∀j (hj:j < l.length),1<=j->p (l[j]'hj)=true):l.tail.all p=true:=by
 cases l with
 | nil=>rfl
 | cons c r=>
  refine List.all_eq_true.2 (fun x hx=> ?_);obtain ⟨j,hj,rfl⟩:=List.mem_iff_getElem.1 hx;exact h (j+1) (by simpa using hj) (by omega)
theorem Zfi {j:Nat} (hj:j < l.length) (h1:1<=j) (h:p (l[j]'hj)=false):l.tail.all p=false:=by
 cases l with
 | nil=>simp at hj
 | cons c r=>
  obtain ⟨k,rfl⟩: ∃k,j=k+1:=⟨j - 1,by omega⟩;have hm: (r[k]'(by simpa using hj))∈r:=List.getElem_mem _;cases hq: (c::r).tail.all p with
  | false=>rfl
  | true=>
   have:=List.all_eq_true.1 hq _ hm;have h':p (r[k]'(by simpa using hj))=false:=h;rw[h'] at this; cases this
theorem ZfO (h: ∀j (hj:j < l.length),p (l[j]'hj)=true):l.all p=true:=
 List.all_eq_true.2 (fun x hx=>by obtain ⟨j,hj,rfl⟩:=List.mem_iff_getElem.1 hx; exact h j hj)
theorem ZfP {j:Nat} (hj:j < l.length) (h:p (l[j]'hj)=false):l.all p=false:=by
 cases hq:l.all p with
 | false=>rfl
 | true=>
  have:=List.all_eq_true.1 hq _ (List.getElem_mem hj);rw[h] at this; cases this
end
theorem Zb4 (c:UInt8) (r:List UInt8):isName (c::r)=(small c&&named (c::r)&& !isWord (c::r)):=by
 show (decide ((c::r).length<=24)&&small c&&(c::r).all nameB&& !isWord (c::r))=_;cases h:small c with
 | false=>simp
 | true=>
  have:nameB c=true:=by unfold nameB; rw[h]; rfl
  unfold named;simp[this]
theorem Z9x (c:UInt8) (r:List UInt8):isUpper (c::r)=(great c&&named (c::r)):=by
 show (decide ((c::r).length<=24)&&great c&&(c::r).all nameB)=_;cases h:great c with
 | false=>simp
 | true=>
  have:nameB c=true:=by unfold nameB; rw[h]; simp
  unfold named;simp[this]
end Lex
namespace Go.Proofs.YtkncdbaoaeeoiaaGreatDoor
open Go.RowKit
section
variable (l : List UInt8) (hl : l.length <= 9223372036854775807) (w : World)
include l hl w
theorem Z3q:
 Calls Tryz.prog 163 #[.string ⟨l.toArray⟩] w fun e w'=>e= .returned (.bool (Lex.named l))/\w=w':=by
 have hz: (⟨l.toArray⟩:ByteArray).size=l.length:=Z07 _;have HM:Hid (Lex.named l=(decide (l.length<=24)&&l.tail.all Lex.nameB)):=Y1 rfl;by_cases h24:l.length<=24
 {have h24d: ¬((24:Int) < (l.length:Int)):=by omega
  go_enter Tryz.func163,Tryz.ntmps163
  go_wp2_with fail
  go_loopw [3] (fun ii wr=> ∃n:Nat,ii= .int .i64 n/\1<=n/\(n<=l.length\/n=1)/\Hid (∀j (hj:j < l.length),1<=j->j < n->Lex.nameB (l[j]'hj)=true)/\w=wr)
   (fun i _=>l.length - (intOf i).toNat)
  case atStart=>exact ⟨1,rfl,Nat.le_refl _,Or.inr rfl,Y1 (fun j _ h1 hj=>absurd hj (by omega)),rfl⟩
  case round=>
   obtain ⟨n,rfl,h1,hn,HN,rfl⟩:=hrel;by_cases hlt:n < l.length
   {have hi1: (n:Int) < (l.length:Int):=by omega
    obtain ⟨c,hc⟩: ∃c,c=l[n]'hlt:=⟨_,rfl⟩;have hidx: ∀W,(Instr.index 9 (.string ⟨l.toArray⟩) (.int .i64 (n:Int))).run Tryz.prog W= .ok (.int .u8 c.toNat) W:=fun W=>by
     rw[hc]; exact Z0i ⟨l.toArray⟩ n (by omega) W
    have HC:=Y1 hc;clear hc;cases hb:Lex.nameB c
    {have HF:Hid (Lex.named l=false):=Y1 (by rw[HM.out,Lex.Zfi hlt h1 (by rw[<-HC.out]; exact hb)]; simp)
     go_wp2_with fail
     refine (Z2w c _).mono ?_;rintro e w2 ⟨rfl,rfl⟩;rw[hb];go_wp2;go_ret;exact ⟨by rw[HF.out]; rfl,rfl⟩}
    {have HN2:Hid (∀j (hj:j < l.length),1<=j->j < n+1->Lex.nameB (l[j]'hj)=true):=Y1 (fun j hj h1 hji=>by
      rcases Nat.lt_succ_iff_lt_or_eq.1 hji with h' | rfl
      {exact HN.out j hj h1 h'}
      · rw[<-HC.out]; exact hb)
     go_wp2_with fail
     refine (Z2w c _).mono ?_;rintro e w2 ⟨rfl,rfl⟩;rw[hb];go_wp2
     go_roundw
     case rel=>exact ⟨n+1,by go_num,by omega,Or.inl (by omega),HN2,trivial⟩
     case measure=>simp[intOf]; omega}}
   {have hi1: ¬(n:Int) < (l.length:Int):=by omega
    have HF:Hid (Lex.named l=true):=Y1 (by rw[HM.out,decide_eq_true h24,Lex.Ze8 (fun j hj h1=>HN.out j hj h1 (by omega))]; rfl);go_wp2;go_ret;exact ⟨by rw[HF.out]; rfl,rfl⟩}}
 {have h24d: (24:Int) < (l.length:Int):=by omega
  have HF:Hid (Lex.named l=false):=Y1 (by rw[HM.out,decide_eq_false h24]; rfl);go_enter Tryz.func163,Tryz.ntmps163;go_wp2;go_ret;exact ⟨by rw[HF.out]; rfl,rfl⟩}
theorem Z0s:
 Calls Tryz.prog 126 #[.string ⟨l.toArray⟩] w fun e w'=>e= .returned (.bool (Lex.isName l))/\w=w':=by
 cases l with
 | nil=>
  have HM:Hid (Lex.isName []=false):=Y1 rfl;go_enter Tryz.func126,Tryz.ntmps126;go_wp2;go_ret;exact ⟨by rw[HM.out]; rfl,rfl⟩
 | cons c r=>
  have HM:=Y1 (Lex.Zb4 c r);obtain ⟨l,hll⟩: ∃l:List UInt8,l=c::r:=⟨_,rfl⟩;rw[<-hll] at hl HM ⊢;have hz: (⟨l.toArray⟩:ByteArray).size=l.length:=Z07 _;have he:l.isEmpty=false:=by rw[hll]; rfl
  have he2: (l== [])=false:=by rw[hll]; rfl
  have he3: (l != [])=true:=by rw[hll]; rfl
  have hidx: ∀W,(Instr.index 9 (.string ⟨l.toArray⟩) (.int .i64 0)).run Tryz.prog W= .ok (.int .u8 c.toNat) W:=fun W=>by rw[hll]; rfl
  clear hll;cases h1:Lex.small c
  {have HF:Hid (Lex.isName l=false):=Y1 (by rw[HM.out,h1]; rfl);go_enter Tryz.func126,Tryz.ntmps126
   go_wp2_with fail
   refine (Z1N c _).mono ?_;rintro e w2 ⟨rfl,rfl⟩;rw[h1];go_wp2;go_ret;exact ⟨by rw[HF.out]; rfl,rfl⟩}
  {cases h2:Lex.named l
   {have HF:Hid (Lex.isName l=false):=Y1 (by rw[HM.out,h1,h2]; rfl);go_enter Tryz.func126,Tryz.ntmps126
    go_wp2_with fail
    refine (Z1N c _).mono ?_;rintro e w2 ⟨rfl,rfl⟩;rw[h1]
    go_wp2_with fail
    refine (Z3q l hl _).mono ?_;rintro e w2 ⟨rfl,rfl⟩;rw[h2];go_wp2;go_ret;exact ⟨by rw[HF.out]; rfl,rfl⟩}
   {have HF:Hid (Lex.isName l= !Lex.isWord l):=Y1 (by rw[HM.out,h1,h2]; rfl);go_enter Tryz.func126,Tryz.ntmps126
    go_wp2_with fail
    refine (Z1N c _).mono ?_;rintro e w2 ⟨rfl,rfl⟩;rw[h1]
    go_wp2_with fail
    refine (Z3q l hl _).mono ?_;rintro e w2 ⟨rfl,rfl⟩;rw[h2]
    go_wp2_with fail
    refine (Z19 l _).mono ?_;rintro e w2 ⟨rfl,rfl⟩;go_wp2;go_ret;exact ⟨by rw[HF.out]; rfl,rfl⟩}}
theorem Z0R:
 Calls Tryz.prog 137 #[.string ⟨l.toArray⟩] w fun e w'=>e= .returned (.bool (Lex.isUpper l))/\w=w':=by
 cases l with
 | nil=>
  have HM:Hid (Lex.isUpper []=false):=Y1 rfl;go_enter Tryz.func137,Tryz.ntmps137;go_wp2;go_ret;exact ⟨by rw[HM.out]; rfl,rfl⟩
 | cons c r=>
  have HM:=Y1 (Lex.Z9x c r);obtain ⟨l,hll⟩: ∃l:List UInt8,l=c::r:=⟨_,rfl⟩;rw[<-hll] at hl HM ⊢;have hz: (⟨l.toArray⟩:ByteArray).size=l.length:=Z07 _;have he:l.isEmpty=false:=by rw[hll]; rfl
  have he2: (l== [])=false:=by rw[hll]; rfl
  have he3: (l != [])=true:=by rw[hll]; rfl
  have hidx: ∀W,(Instr.index 9 (.string ⟨l.toArray⟩) (.int .i64 0)).run Tryz.prog W= .ok (.int .u8 c.toNat) W:=fun W=>by rw[hll]; rfl
  clear hll;cases h1:Lex.great c
  {have HF:Hid (Lex.isUpper l=false):=Y1 (by rw[HM.out,h1]; rfl);go_enter Tryz.func137,Tryz.ntmps137
   go_wp2_with fail
   refine (Z3p c _).mono ?_;rintro e w2 ⟨rfl,rfl⟩;rw[h1];go_wp2;go_ret;exact ⟨by rw[HF.out]; rfl,rfl⟩}
  {have HF:Hid (Lex.isUpper l=Lex.named l):=Y1 (by rw[HM.out,h1]; rfl);go_enter Tryz.func137,Tryz.ntmps137
   go_wp2_with fail
   refine (Z3p c _).mono ?_;rintro e w2 ⟨rfl,rfl⟩;rw[h1]
   go_wp2_with fail
   refine (Z3q l hl _).mono ?_;rintro e w2 ⟨rfl,rfl⟩;go_wp2;go_ret;exact ⟨by rw[HF.out]; rfl,rfl⟩}
end
theorem Z9y (c:UInt8) (r:List UInt8):Lex.number (c::r)=((c::r).all Lex.digit&&decide (1<=(c::r).length)&&decide ((c::r).length<=15)&&(decide ((c::r).length=1)||(c !=48))):=by
 show (_&&_&&_&&(_||decide ((c::r).head? ≠some 48)))=_;congr 2;by_cases h:c=48
 {subst h; rfl}
 {simp[h]}
theorem Z8h (l:List UInt8) (h0: (l== [])=false) (h15:l.length<=15) (c:UInt8) (hidx0: ∀W,(Instr.index 9 (.string ⟨l.toArray⟩) (.int .i64 0)).run Tryz.prog W= .ok (.int .u8 c.toNat) W) (hc: ¬(1 < l.length)\/(c==48)=false) (w:World):
 Calls Tryz.prog 159 #[.string ⟨l.toArray⟩] w fun e w'=>e= .returned (.bool (l.all Lex.digit))/\w=w':=by
 have hz: (⟨l.toArray⟩:ByteArray).size=l.length:=Z07 _;have he:l.isEmpty=false:=by cases l with | nil=>cases h0 | cons c r=>rfl
 have h15d: ¬((15:Int) < (l.length:Int)):=by omega
 have hq:Hid ((((1:Int) < (l.length:Int))/\((c.toNat:Int)==48)=false)\/ ¬((1:Int) < (l.length:Int))):=Y1 (by
  by_cases h:1 < l.length
  {left;refine ⟨by omega, ?_⟩;rcases hc with h' | h'
   {exact absurd h h'}
   {rw[show ((c.toNat:Int)==48)=(c==48) from by
     rw[Bool.eq_iff_iff,beq_iff_eq,beq_iff_eq];exact ⟨fun h=>UInt8.toNat_inj.1 (by show c.toNat=48; omega),fun h=>by rw[h]; rfl⟩]
    exact h'}}
  · right; omega)
 clear hc;rcases hq.out with ⟨q1,q2⟩ | q1
 all_goals
  go_enter Tryz.func159,Tryz.ntmps159
  go_wp2_with fail
  go_loopw [23] (fun ii wr=> ∃n:Nat,ii= .int .i64 n/\n<=l.length/\Hid (∀j (hj:j < l.length),j < n->Lex.digit (l[j]'hj)=true)/\w=wr)
   (fun i _=>l.length - (intOf i).toNat)
  case atStart=>exact ⟨0,rfl,Nat.zero_le _,Y1 (fun j _ hj=>absurd hj (by omega)),rfl⟩
  case round=>
   obtain ⟨n,rfl,hn,HN,rfl⟩:=hrel;by_cases hlt:n < l.length
   {have hi1: (n:Int) < (l.length:Int):=by omega
    obtain ⟨d,hd⟩: ∃d,d=l[n]'hlt:=⟨_,rfl⟩;have hidx: ∀W,(Instr.index 9 (.string ⟨l.toArray⟩) (.int .i64 (n:Int))).run Tryz.prog W= .ok (.int .u8 d.toNat) W:=fun W=>by
     rw[hd]; exact Z0i ⟨l.toArray⟩ n (by omega) W
    have HC:=Y1 hd;clear hd;cases hb:Lex.digit d
    {have HF:Hid (l.all Lex.digit=false):=Y1 (Lex.ZfP hlt (by rw[<-HC.out]; exact hb))
     go_wp2_with fail
     refine (Z0z d _).mono ?_;rintro e w2 ⟨rfl,rfl⟩;rw[hb];go_wp2;go_ret;exact ⟨by rw[HF.out]; rfl,rfl⟩}
    {have HN2:Hid (∀j (hj:j < l.length),j < n+1->Lex.digit (l[j]'hj)=true):=Y1 (fun j hj hji=>by
      rcases Nat.lt_succ_iff_lt_or_eq.1 hji with h' | rfl
      {exact HN.out j hj h'}
      · rw[<-HC.out]; exact hb)
     go_wp2_with fail
     refine (Z0z d _).mono ?_;rintro e w2 ⟨rfl,rfl⟩;rw[hb];go_wp2
     go_roundw
     case rel=>exact ⟨n+1,by go_num,by omega,HN2,trivial⟩
     case measure=>simp[intOf]; omega}}
   {have hi1: ¬(n:Int) < (l.length:Int):=by omega
    have HF:Hid (l.all Lex.digit=true):=Y1 (Lex.ZfO (fun j hj=>HN.out j hj (by omega)));go_wp2;go_ret;exact ⟨by rw[HF.out]; rfl,rfl⟩}
theorem Z38 (l:List UInt8) (hl:l.length<=9223372036854775807) (w:World):
 Calls Tryz.prog 159 #[.string ⟨l.toArray⟩] w fun e w'=>e= .returned (.bool (Lex.number l))/\w=w':=by
 cases l with
 | nil=>
  have HM:Hid (Lex.number []=false):=Y1 rfl;go_enter Tryz.func159,Tryz.ntmps159;go_wp2;go_ret;exact ⟨by rw[HM.out]; rfl,rfl⟩
 | cons c r=>
  have HM:=Y1 (Z9y c r);have hidx0: ∀W,(Instr.index 9 (.string ⟨(c::r).toArray⟩) (.int .i64 0)).run Tryz.prog W= .ok (.int .u8 c.toNat) W:=fun W=>rfl;have h1:decide (1<=(c::r).length)=true:=by simp
  by_cases h15: (c::r).length<=15
  {by_cases hc: ¬(1 < (c::r).length)\/(c==48)=false
   {refine (Z8h (c::r) rfl h15 c hidx0 hc w).mono ?_;rintro e w' ⟨rfl,rfl⟩;refine ⟨?_,rfl⟩;have: (decide ((c::r).length=1)||(c !=48))=true:=by
     rcases hc with h | h
     {rw[decide_eq_true (by rw[List.length_cons] at h ⊢; omega)]; rfl}
     {rw[bne,h]; simp}
    rw[HM.out,h1,decide_eq_true h15,this]; simp}
   {have h48: (c==48)=true:=by cases h: (c==48) with | true=>rfl | false=>exact absurd (Or.inr h) hc
    have hlt:1 < (c::r).length:=Decidable.byContradiction (fun h=>hc (Or.inl h));have HF:Hid (Lex.number (c::r)=false):=Y1 (by rw[HM.out,bne,h48,decide_eq_false (p:=(c::r).length=1) (by omega)]; simp);obtain rfl:=beq_iff_eq.1 h48;obtain ⟨l,hll⟩: ∃l:List UInt8,l=48::r:=⟨_,rfl⟩;rw[<-hll] at hl HF hidx0 h15 hlt ⊢;have hz: (⟨l.toArray⟩:ByteArray).size=l.length:=Z07 _;have he:l.isEmpty=false:=by rw[hll]; rfl
    have he2: (l== [])=false:=by rw[hll]; rfl
    have h15d: ¬((15:Int) < (l.length:Int)):=by omega
    have q1: (1:Int) < (l.length:Int):=by omega
    clear hll HM h1 hc h48;go_enter Tryz.func159,Tryz.ntmps159;go_wp2;go_ret;exact ⟨by rw[HF.out]; rfl,rfl⟩}}
  {have HF:Hid (Lex.number (c::r)=false):=Y1 (by rw[HM.out,decide_eq_false h15]; simp);obtain ⟨l,hll⟩: ∃l:List UInt8,l=c::r:=⟨_,rfl⟩;rw[<-hll] at hl HF h15 ⊢;have hz: (⟨l.toArray⟩:ByteArray).size=l.length:=Z07 _;have he:l.isEmpty=false:=by rw[hll]; rfl
   have he2: (l== [])=false:=by rw[hll]; rfl
   have h15d: (15:Int) < (l.length:Int):=by omega
   clear hll HM h1 hidx0;go_enter Tryz.func159,Tryz.ntmps159;go_wp2;go_ret;exact ⟨by rw[HF.out]; rfl,rfl⟩}
end Go.Proofs.YtkncdbaoaeeoiaaGreatDoor
