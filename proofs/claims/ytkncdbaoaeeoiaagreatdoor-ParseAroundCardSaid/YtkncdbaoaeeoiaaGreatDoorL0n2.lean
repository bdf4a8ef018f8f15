/- What the proofs of ParseAround want, part 2. -/
import Derived.Test.YtkncdbaoaeeoiaaGreatDoorL0n1
set_option linter.unusedVariables false
set_option linter.unusedSimpArgs false
set_option linter.unusedSectionVars false
set_option maxRecDepth 100000
set_option maxHeartbeats 16000000
namespace Shp
section
theorem Z1G {s:List UInt8} (h:Lex.isName s=true):s.length<=24:=by
 cases s with
 | nil=>simp
 | cons c r=>
  have:Lex.isName (c::r)=(decide ((c::r).length<=24)&&Lex.small c&&(c::r).all Lex.nameB&& !Lex.isWord (c::r)):=rfl;rw[this] at h;simp only[Bool.and_eq_true,decide_eq_true_eq] at h;exact h.1.1.1
theorem Z9g {s:List UInt8} (h:Lex.isUpper s=true):s.length<=24:=by
 cases s with
 | nil=>simp
 | cons c r=>
  have:Lex.isUpper (c::r)=(decide ((c::r).length<=24)&&Lex.great c&&(c::r).all Lex.nameB):=rfl;rw[this] at h;simp only[Bool.and_eq_true,decide_eq_true_eq] at h;exact h.1.1
theorem ZaR {t:Sh} (h:fits t=true):
 (1<=t.kind/\t.kind<=4/\t.names= []/\t.parts= [])\/(t.kind=5/\t.names= []/\t.parts.length=1)\/((t.kind=6\/t.kind=7)/\t.names.length=t.parts.length/\areNames t.names=true)\/
 (t.kind=8/\t.names= []/\1<=t.parts.length)\/((t.kind=9\/t.kind=10)/\t.names= []/\t.parts= []/\t.name.length<=24/\t.of_.length<=24):=by
 by_cases c:t.kind=9\/t.kind=10
 {rw[Z4u c] at h;simp only[Bool.and_eq_true,decide_eq_true_eq] at h;obtain ⟨⟨⟨j,d⟩,k⟩,l⟩:=h;refine Or.inr (Or.inr (Or.inr (Or.inr ⟨c,List.eq_nil_of_length_eq_zero k,List.eq_nil_of_length_eq_zero l,Z9g j, ?_⟩)));unfold ofOk at d;cases b:Lex.isName t.of_ with
  | true=>exact Z1G b
  | false=>
   rw[b] at d;simp at d;rw[d.1.1]; simp}
 {cases a:bare t with
  | false=>rw[Z20 c a] at h; cases h
  | true=>
   by_cases e:t.kind=6\/t.kind=7
   {rw[Z7X a e,Bool.and_eq_true,decide_eq_true_eq] at h;exact Or.inr (Or.inr (Or.inl ⟨e,h.2,h.1⟩))}
   {by_cases f:0 < t.names.length
    {rw[Z2E c a e f] at h; cases h}
    {have b:t.names= []:=List.eq_nil_of_length_eq_zero (by omega);by_cases i:t.kind=8
     {rw[Z7Y a i f,decide_eq_true_eq] at h;exact Or.inr (Or.inr (Or.inr (Or.inl ⟨i,b,h⟩)))}
     {by_cases g:t.kind=5
      {rw[Z6P a g f,decide_eq_true_eq] at h;exact Or.inr (Or.inl ⟨g,b,h⟩)}
      {rw[Z4v a c e f i g] at h;simp only[Bool.and_eq_true,decide_eq_true_eq] at h;exact Or.inl ⟨h.1.1,h.1.2,b,List.eq_nil_of_length_eq_zero h.2⟩}}}}}
def total (l:List (List UInt8)):Nat:=(l.map List.length).sum
theorem join_len (c:List UInt8) (l:List (List UInt8)): (join c l).length<=total l+c.length * l.length:=by
 unfold join total
 match l with
 | []=>simp[List.intercalate]
 | [a]=>simp[List.intercalate]
 | a::b::r=>
  have d:=join_len c (b::r);unfold join total at d;have e:c.intercalate (a::b::r)=a++c++c.intercalate (b::r):=by simp[List.intercalate]
  rw[e];simp only[List.length_append,List.map_cons,List.sum_cons,List.length_cons] at d ⊢;rw[Nat.mul_succ];omega
end
end Shp
namespace Lex
section
theorem Z3B {p:UInt8->Bool} {c:UInt8} (h:p c=false) (b:List UInt8): ∀s:List UInt8,(s++c::b).takeWhile p=s.takeWhile p
 | []=>by simp[h]
 | x::r=>by
  rw[List.cons_append];by_cases a:p x=true
  {rw[List.takeWhile_cons_of_pos a,List.takeWhile_cons_of_pos a,Z3B h b r]}
  {rw[List.takeWhile_cons_of_neg a,List.takeWhile_cons_of_neg a]}
theorem Z1g (p:UInt8->Bool): ∀s:List UInt8,(s.takeWhile p).length<=s.length/\s.take (s.takeWhile p).length=s.takeWhile p
 | []=>⟨Nat.le_refl _,rfl⟩
 | x::r=>by
  obtain ⟨c,b⟩:=Z1g p r;by_cases a:p x=true
  {rw[List.takeWhile_cons_of_pos a,List.length_cons,List.length_cons,List.take_succ_cons,b]; exact ⟨by omega,rfl⟩}
  {rw[List.takeWhile_cons_of_neg a]; exact ⟨Nat.zero_le _,rfl⟩}
theorem Z9r {s:List UInt8} (h:s≠ []) (b:List UInt8):quoted (s++10::b)=quoted s:=by
 obtain ⟨x,r,rfl⟩: ∃x r,s=x::r:=by cases s with
  | nil=>exact absurd rfl h
  | cons x r=>exact ⟨x,r,rfl⟩
 obtain ⟨a,d,f⟩:=Z1u (x::r).length r (by simp);have g:body ((x::r)++10::b).length ((x::r)++10::b).tail=((body (x::r).length r).1,(body (x::r).length r).2++10::b):=by
  have e: ((x::r)++10::b).tail=esc (body (x::r).length r).1++((body (x::r).length r).2++10::b):=by
   show r++10::b=_
   conv=>lhs; rw[d]
   rw[List.append_assoc]
  rw[e];refine Z3z _ a (ZdQ f b) ?_;rw[<-e]; simp
 unfold quoted;rw[g];show _=finish (body (x::r).length r);rcases i:body (x::r).length r with ⟨ps,rest⟩;cases rest with
 | nil=>simp[finish]
 | cons c q=>rfl
theorem Z6X (x:UInt8):isSign [x,10]=false/\isSign [x,32]=false:=by
 constructor <;> simp[isSign,signs]
theorem Z5Y {s:List UInt8} (a:s≠ []) (b:List UInt8):token (s++10::b)=token s:=by
 cases s with
 | nil=>exact absurd rfl a
 | cons x r=>
  rw[List.cons_append];unfold token;simp only;rw[<-List.cons_append,Z3B (p:=nameB) (c:=10) (by decide),Z3B (p:=lumpB) (c:=10) (by decide),Z9r (by simp)];have e: (decide (2<=((x::r)++10::b).length)&&isSign (((x::r)++10::b).take 2))=(decide (2<=(x::r).length)&&isSign ((x::r).take 2)):=by
   cases r with
   | nil=>simp[(Z6X x).1]
   | cons y q=>simp
  rw[e];cases r with
  | nil=>simp
  | cons y q=>simp
theorem Z85 {s:List UInt8} (f:s≠ []) {c:UInt8} (e:c≠45) (b:List UInt8):hasRemark (s++c::b)=hasRemark s:=by
 match s with
 | []=>exact absurd rfl f
 | [x]=>
  have:hasRemark [x]=false:=by
   unfold hasRemark; split
   {rename_i h; simp at h}
   {rfl}
  rw[this];unfold hasRemark;split
  {rename_i h; simp at h; exact absurd h.2.1 e}
  {rfl}
 | x::y::r=> 
  rw[List.cons_append,List.cons_append];by_cases a:x=45
  {by_cases d:y=45
   {subst a; subst d; rfl}
   {have:hasRemark (x::y::r)=false:=by
     unfold hasRemark; split
     {rename_i h; simp at h; exact absurd h.2.1 d}
     {rfl}
    rw[this];unfold hasRemark; split
    {rename_i h; simp at h; exact absurd h.2.1 d}
    {rfl}}}
  {have:hasRemark (x::y::r)=false:=by
    unfold hasRemark; split
    {rename_i h; simp at h; exact absurd h.1 a}
    {rfl}
   rw[this];unfold hasRemark; split
   {rename_i h; simp at h; exact absurd h.1 a}
   {rfl}}
theorem Z41 {l:List UInt8} (h: (Utf.first l).2≠0) (m:List UInt8):Utf.first (l++m)=Utf.first l:=by
 rcases a:Utf.first l with ⟨p,n⟩;rw[a] at h;obtain ⟨b,c,d,e⟩:=Utf.Z0E a h;rw[d,List.append_assoc,Utf.Z0D p b, <-c]
theorem ZaU {c:UInt8} {r:List UInt8} (s:c≠10) (h: (Utf.first (c::r)).2=0) (b:List UInt8): (Utf.first ((c::r)++10::b)).2=0:=by
 rcases u:Utf.first ((c::r)++10::b) with ⟨p,n⟩;by_cases o:n=0
 {exact o}
 {exfalso;obtain ⟨m,h2,g,v⟩:=Utf.Z0E u o;have i:=Utf.Z0c p;by_cases l:n<=(c::r).length
  {have e: (c::r)=Utf.bytes p++(c::r).drop n:=by
    have d:=congrArg (List.take n) g;rw[List.take_append_of_le_length l,h2, <-i,List.take_left] at d;rw[i, <-h2] at d
    conv=>lhs; rw[<-List.take_append_drop n (c::r)]
    rw[d]
   rw[e,Utf.Z0D p m] at h;simp only at h;omega}
  {have f: (10:UInt8)∈Utf.bytes p:=by
    have d:=congrArg (List.take n) g;rw[h2, <-i,List.take_left,i, <-h2] at d;rw[<-d];have:n=(c::r).length+1+(n - (c::r).length - 1):=by omega
    rw[this,List.take_append];refine List.mem_append.2 (Or.inr ?_);rw[show (c::r).length+1+(n - (c::r).length - 1) - (c::r).length=(n - (c::r).length - 1)+1 from by omega];simp
   obtain ⟨a,q,e,_,_,t⟩:=Utf.Z0X p m;have k:c=a:=by
    rw[e,List.cons_append,List.cons_append] at g;exact (List.cons.inj g).1
   rw[e] at f;rcases List.mem_cons.1 f with j | j
   {exact s (k.trans j.symm)}
   {have:=(t 10 j).1;revert this; decide}}}
theorem Z3n: ∀(f g:Nat) (l b:List UInt8),l.length<=f->l.length+1+b.length<=g->remark g (l++10::b)=remark f l
 | f,g,[],b,hf,hg=>by
  cases g with
  | zero=>omega
  | succ g=>cases f <;> simp[remark]
 | f,g,c::r,b,hf,hg=>by
  rw[List.length_cons] at hf hg;cases f with
  | zero=>omega
  | succ f=>
   cases g with
   | zero=>omega
   | succ g=>
    rw[List.cons_append,remark,remark];by_cases e:c=10
    {rw[if_pos e,if_pos e]}
    {rw[if_neg e,if_neg e];by_cases a: (Utf.first (c::r)).2=0
     {have d:=ZaU e a b;rw[List.cons_append] at d;rw[if_pos a,if_pos d]}
     {have d:=Z41 a (10::b);rw[List.cons_append] at d;rw[d,if_neg a,if_neg a];rcases h:Utf.first (c::r) with ⟨p,n⟩;rw[h] at a;obtain ⟨_,_,_,i⟩:=Utf.Z0E h a;simp only at a ⊢;rw[<-List.cons_append,List.drop_append_of_le_length i];rw[Z3n f g ((c::r).drop n) b (by rw[List.length_drop,List.length_cons]; omega) (by rw[List.length_drop,List.length_cons]; omega)]}}
termination_by f=>f
theorem Z0I {s:List UInt8} {t:Tok} {n:Nat} (h:token s= .ok (t,n)):1<=n/\n<=s.length/\(t.kind≠4->t.text=s.take n)/\1<=t.kind/\t.kind<=7:=by
 cases s with
 | nil=>cases h
 | cons x r=>
  unfold token at h;simp only at h;have e: ∀p:UInt8->Bool,p x=true->1<=((x::r).takeWhile p).length:=fun p d=>by
   rw[List.takeWhile_cons_of_pos d]; simp
  split at h
  {rename_i b
   have g:nameB x=true:=by
    simp only[Bool.or_eq_true] at b;unfold nameB;rcases b with b | b <;> simp[b]
   have a:=Z1g nameB (x::r);have d:=e nameB g;split at h
   {obtain ⟨rfl,rfl⟩:=Prod.mk.inj (Except.ok.inj h);exact ⟨d,a.1,fun _=>a.2.symm,by simp,by simp⟩}
   split at h
   {obtain ⟨rfl,rfl⟩:=Prod.mk.inj (Except.ok.inj h);exact ⟨d,a.1,fun _=>a.2.symm,by simp,by simp⟩}
   split at h
   {obtain ⟨rfl,rfl⟩:=Prod.mk.inj (Except.ok.inj h);exact ⟨d,a.1,fun _=>a.2.symm,by simp,by simp⟩}
   {cases h}}
  split at h
  {rename_i b
   have g:lumpB x=true:=by unfold lumpB; simp[b]
   have a:=Z1g lumpB (x::r);have d:=e lumpB g;split at h
   {obtain ⟨rfl,rfl⟩:=Prod.mk.inj (Except.ok.inj h);exact ⟨d,a.1,fun _=>a.2.symm,by simp,by simp⟩}
   split at h
   {obtain ⟨rfl,rfl⟩:=Prod.mk.inj (Except.ok.inj h);exact ⟨d,a.1,fun _=>a.2.symm,by simp,by simp⟩}
   {cases h}}
  split at h
  {obtain ⟨b,f,k⟩:=Z1u (x::r).length r (by simp);unfold quoted finish at h;rw[List.tail_cons] at h;rcases j:body (x::r).length r with ⟨ps,rest⟩;rw[j] at h f;simp only at h f;cases rest with
   | nil=>cases h
   | cons c q=>
    simp only at h;split at h
    {obtain ⟨rfl,rfl⟩:=Prod.mk.inj (Except.ok.inj h);have:=congrArg List.length f;rw[List.length_append,List.length_cons] at this;exact ⟨by omega,by rw[List.length_cons]; omega,fun h=>absurd rfl h,by simp,by simp⟩}
    {split at h <;> cases h}}
  split at h
  {rename_i i
   obtain ⟨rfl,rfl⟩:=Prod.mk.inj (Except.ok.inj h);simp only[Bool.and_eq_true,decide_eq_true_eq] at i;exact ⟨by omega,i.1,fun _=>rfl,by simp,by simp⟩}
  split at h
  {obtain ⟨rfl,rfl⟩:=Prod.mk.inj (Except.ok.inj h);exact ⟨by omega,by simp,fun _=>rfl,by simp,by simp⟩}
  {cases h}
theorem Z1m: ∀(f:Nat) (l:List UInt8) (n:Nat),remark f l= .ok n->n<=l.length
 | 0,l,n,h=>by
  obtain rfl:0=n:=Except.ok.inj h;omega
 | f+1,[],n,h=>by
  obtain rfl:0=n:=Except.ok.inj h;omega
 | f+1,c::r,n,h=>by
  rw[remark] at h;split at h
  {obtain rfl:0=n:=Except.ok.inj h;omega}
  split at h
  {cases h}
  {rename_i a
   rcases b:Utf.first (c::r) with ⟨p,k⟩;rw[b] at h a;obtain ⟨_,_,_,e⟩:=Utf.Z0E b a;simp only at h;split at h
   {rename_i m d
    obtain rfl:k+m=n:=Except.ok.inj h;have:=Z1m f _ m d;rw[List.length_drop] at this;omega}
   {cases h}}
theorem Z0Q {l:List UInt8} (a:hasRemark l=true) {f n:Nat} (h:remark (f+1) l= .ok n):1<=n:=by
 unfold hasRemark at a;split at a
 {rename_i q
  rw[remark,if_neg (by decide)] at h;have b:Utf.first (45::45::q)=(45,1):=Utf.Z0D 45 (by decide) (45::q);rw[b,if_neg (by decide)] at h;simp only at h;split at h
  {obtain rfl:=Except.ok.inj h;omega}
  {cases h}}
 {cases a}
theorem Z2G (f:Nat) (c:UInt8) (r:List UInt8) (i:Nat):scan (f+1) (c::r) i=if blank c then scan f r (i+1)
 else if hasRemark (c::r) then (match remark (c::r).length (c::r) with
  | .error k=> .error (30,i+k)
  | .ok n=>scan f ((c::r).drop n) (i+n))
 else match token (c::r) with
  | .error (e,k)=> .error (e,i+k)
  | .ok (t,n)=>(scan f ((c::r).drop n) (i+n)).map ((t,i):: ·):=rfl
theorem Z86 (f i:Nat):scan f [] i= .ok []:=by cases f <;> rfl
theorem Z2H: ∀(f g:Nat) (l:List UInt8) (i:Nat),l.length<=f->l.length<=g->scan f l i=scan g l i
 | f,g,[],i,_,_=>by rw[Z86,Z86]
 | 0,_,c::r,_,h,_=>by simp at h
 | f+1,0,c::r,_,_,h=>by simp at h
 | f+1,g+1,c::r,i,hf,hg=>by
  rw[Z2G,Z2G];rw[List.length_cons] at hf hg;split
  {exact Z2H f g r (i+1) (by omega) (by omega)}
  split
  {rename_i d
   cases b:remark (c::r).length (c::r) with
   | error k=>rfl
   | ok n=>
    have a:=Z0Q d (f:=r.length) b;exact Z2H f g _ _ (by rw[List.length_drop,List.length_cons]; omega) (by rw[List.length_drop,List.length_cons]; omega)}
  {cases e:token (c::r) with
   | error x=>rfl
   | ok x=>
    obtain ⟨t,n⟩:=x;have a:=Z0I e;simp only;rw[Z2H f g _ _ (by rw[List.length_drop,List.length_cons]; omega) (by rw[List.length_drop,List.length_cons]; omega)]}
def toks (l:List UInt8) (i:Nat):Except (Int×Nat) (List (Tok×Nat)):=scan l.length l i
theorem Z36 (i:Nat):toks [] i= .ok []:=rfl
theorem Z0l {c:UInt8} (h:blank c=true) (r:List UInt8) (i:Nat):toks (c::r) i=toks r (i+1):=by
 unfold toks; rw[List.length_cons,Z2G,if_pos h]
theorem Z0y {l:List UInt8} (d: ∀c∈l.head?,blank c=false) (b:hasRemark l=true) (i:Nat):toks l i=match remark l.length l with
 | .error k=> .error (30,i+k)
 | .ok n=>toks (l.drop n) (i+n):=by
 cases l with
 | nil=>cases b
 | cons c r=>
  have e:blank c=false:=d c rfl;unfold toks;rw[List.length_cons,Z2G,if_neg (by rw[e]; simp),if_pos b];rw[<-List.length_cons (a:=c)];cases g:remark (c::r).length (c::r) with
  | error k=>rfl
  | ok n=>
   have h:=Z0Q b (f:=r.length) g;exact Z2H _ _ _ _ (by rw[List.length_drop,List.length_cons]; omega) (Nat.le_refl _)
theorem Z0G {l:List UInt8} (d:l≠ []) (a: ∀c∈l.head?,blank c=false) (f:hasRemark l=false) (i:Nat):toks l i=match token l with
 | .error (e,k)=> .error (e,i+k)
 | .ok (t,n)=>(toks (l.drop n) (i+n)).map ((t,i):: ·):=by
 cases l with
 | nil=>exact absurd rfl d
 | cons c r=>
  have b:blank c=false:=a c rfl;unfold toks;rw[List.length_cons,Z2G,if_neg (by rw[b]; simp),if_neg (by rw[f]; simp)];cases g:token (c::r) with
  | error x=>rfl
  | ok x=>
   obtain ⟨t,n⟩:=x;have h:=Z0I g;simp only;rw[Z2H r.length ((c::r).drop n).length _ _ (by rw[List.length_drop,List.length_cons]; omega) (Nat.le_refl _)]
theorem Z2O: ∀(k:Nat) (a b:List UInt8) (i:Nat),a.length<=k->toks (a++10::b) i=match toks a i with
    | .error e=> .error e
    | .ok l=>(toks b (i+a.length+1)).map (l++ ·)
  | _,[],b,i,_=>by
    rw[List.nil_append,Z0l (by decide),Z36];simp only[List.length_nil,Nat.add_zero];cases toks b (i+1) <;> simp[Except.map]
  | 0,c::r,_,_,h=>by simp at h
  | k+1,c::r,b,i,hk=>by
    rw[List.length_cons] at hk;by_cases hb:blank c=true
    · rw[List.cons_append,Z0l hb,Z0l hb,Z2O k r b (i+1) (by omega)]
      rw[show i+1+r.length+1=i+(c::r).length+1 from by rw[List.length_cons]; omega]
    · have hbf:blank c=false:=by simpa using hb
      have hh1: ∀x∈(c::r).head?,blank x=false:=fun x hx=>by
        obtain rfl:c=x:=by simpa using hx
        exact hbf
      have hh2: ∀x∈((c::r)++10::b).head?,blank x=false:=fun x hx=>by
        obtain rfl:c=x:=by simpa using hx
        exact hbf
      have hrs:=Z85 (s:=c::r) (by simp) (c:=10) (by decide) b;cases hr:hasRemark (c::r) with
      | true=>
        rw[hr] at hrs;rw[Z0y hh2 hrs,Z0y hh1 hr];rw[Z3n (c::r).length _ (c::r) b (Nat.le_refl _) (by simp; omega)];cases hm:remark (c::r).length (c::r) with
        | error j=>rfl
        | ok n=>
          have h1:=Z0Q hr (f:=r.length) hm;have h2:=Z1m _ _ _ hm;simp only;rw[List.drop_append_of_le_length h2,Z2O k ((c::r).drop n) b (i+n) (by rw[List.length_drop,List.length_cons]; omega)];rw[show i+n+((c::r).drop n).length+1=i+(c::r).length+1 from by rw[List.length_drop]; omega]
      | false=>
        rw[hr] at hrs;rw[Z0G (by simp) hh2 hrs,Z0G (by simp) hh1 hr,Z5Y (by simp)];cases ht:token (c::r) with
        | error x=>rfl
        | ok x=>
          obtain ⟨t,n⟩:=x;obtain ⟨h1,h2,_⟩:=Z0I ht;simp only;rw[List.drop_append_of_le_length h2,Z2O k ((c::r).drop n) b (i+n) (by rw[List.length_drop,List.length_cons]; omega)];rw[show i+n+((c::r).drop n).length+1=i+(c::r).length+1 from by rw[List.length_drop]; omega];cases toks ((c::r).drop n) (i+n) with
          | error e=>rfl
          | ok l=>cases toks b (i+(c::r).length+1) <;> simp[Except.map]
theorem Z2P: ∀(k:Nat) (a:List UInt8) (i d:Nat),a.length<=k->toks a (i+d)=match toks a i with
    | .error (e,j)=> .error (e,j+d)
    | .ok l=> .ok (l.map fun x=>(x.1,x.2+d))
  | _,[],i,d,_=>rfl
  | 0,c::r,_,_,h=>by simp at h
  | k+1,c::r,i,d,hk=>by
    rw[List.length_cons] at hk;by_cases hb:blank c=true
    · rw[Z0l hb,Z0l hb,show i+d+1=(i+1)+d from by omega,Z2P k r (i+1) d (by omega)]
    · have hbf:blank c=false:=by simpa using hb
      have hh1: ∀x∈(c::r).head?,blank x=false:=fun x hx=>by
        obtain rfl:c=x:=by simpa using hx
        exact hbf
      cases hr:hasRemark (c::r) with
      | true=>
        rw[Z0y hh1 hr,Z0y hh1 hr];cases hm:remark (c::r).length (c::r) with
        | error j=>simp only; rw[show i+d+j=i+j+d from by omega]
        | ok n=>
          have h1:=Z0Q hr (f:=r.length) hm;simp only;rw[show i+d+n=(i+n)+d from by omega,Z2P k _ (i+n) d (by rw[List.length_drop,List.length_cons]; omega)]
      | false=>
        rw[Z0G (by simp) hh1 hr,Z0G (by simp) hh1 hr];cases ht:token (c::r) with
        | error x=>obtain ⟨e,j⟩:=x; simp only; rw[show i+d+j=i+j+d from by omega]
        | ok x=>
          obtain ⟨t,n⟩:=x;obtain ⟨h1,h2,_⟩:=Z0I ht;simp only;rw[show i+d+n=(i+n)+d from by omega,Z2P k _ (i+n) d (by rw[List.length_drop,List.length_cons]; omega)];cases toks ((c::r).drop n) (i+n) with
          | error e=>rfl
          | ok l=>simp[Except.map]
def escB (c:UInt8):List UInt8:=if c=10 then [92,110] else if c=9 then [92,116] else if c=34\/c=92 then [92,c] else [c]
def written (t:Tok):List UInt8:=if t.kind=4 then 34::(t.text.flatMap escB++ [34]) else t.text
theorem Zct {l:List UInt8} (h: ∀b∈l,128<=b.toNat):l.flatMap escB=l:=by
 induction l with
 | nil=>rfl
 | cons b r ih=>
  have a:=h b (by simp);have d:b≠10:=by rintro rfl; revert a; decide
  have g:b≠9:=by rintro rfl; revert a; decide
  have e:b≠34:=by rintro rfl; revert a; decide
  have f:b≠92:=by rintro rfl; revert a; decide
  rw[List.flatMap_cons,ih (fun c hc=>h c (List.mem_cons_of_mem _ hc))];simp[escB,d,g,e,f]
theorem ZdV {p:Int} (h:Utf.pt p=true): (Utf.bytes p).flatMap escB=escP p:=by
 have A:=(Utf.Z1f p).1 h;by_cases u:p < 128
 {have f:Utf.bytes p= [Utf.byte p]:=by unfold Utf.bytes; rw[if_pos u]
  have z:p % 256=p:=Int.emod_eq_of_lt (by omega) (by omega);have C:=Utf.Z0a p;rw[z] at C;have key: ∀n:Nat,n < 256->(p=(n:Int) ↔ Utf.byte p=UInt8.ofNat n):=fun n hn=>by
   constructor
   {intro e;apply UInt8.toNat_inj.1;have: (UInt8.ofNat n).toNat=n:=by simp; omega
    rw[this]; omega}
   {intro e;have: (UInt8.ofNat n).toNat=n:=by simp; omega
    rw[<-e] at this; omega}
  have k:p=10 ↔ Utf.byte p=10:=key 10 (by decide);have v:p=9 ↔ Utf.byte p=9:=key 9 (by decide);have c:p=34 ↔ Utf.byte p=34:=key 34 (by decide);have d:p=92 ↔ Utf.byte p=92:=key 92 (by decide);unfold escP;rw[f];simp only[List.flatMap_cons,List.flatMap_nil,List.append_nil];unfold escB;by_cases l:p=10
  {rw[if_pos l,if_pos (k.1 l)]}
  rw[if_neg l,if_neg (fun h=>l (k.2 h))];by_cases m:p=9
  {rw[if_pos m,if_pos (v.1 m)]}
  rw[if_neg m,if_neg (fun h=>m (v.2 h))];by_cases g:p=34
  {rw[if_pos g,if_pos (Or.inl (c.1 g)),c.1 g]}
  rw[if_neg g];by_cases i:p=92
  {rw[if_pos i,if_pos (Or.inr (d.1 i)),d.1 i]}
  rw[if_neg i,if_neg (by rintro (h | h); exact g (c.2 h); exact i (d.2 h))]}
 {have j: ∀b∈Utf.bytes p,128<=b.toNat:=by
   obtain ⟨a,r,e,o,_,B⟩:=Utf.Z0X p h;intro b f;rw[e] at f;rcases List.mem_cons.1 f with rfl | f
   {rcases o with o | o
    {exfalso;have D:=Utf.Z0c p;obtain ⟨w,r',q,s,F⟩:=Utf.Z4p p h;rw[e] at q;obtain ⟨rfl,rfl⟩:b=w/\r=r':=by simpa using q
     have E:2<=Utf.width p:=by unfold Utf.width; rw[if_neg u]; split; omega; split <;> omega
     rcases Utf.Z3S b.toNat with ⟨_,y⟩ | ⟨t,_,_⟩ | ⟨t,_,_⟩ | ⟨t,_⟩
     {rw[y] at s;rw[e,List.length_cons] at D;simp only at s;omega}
     all_goals omega}
    {omega}}
   {exact (B b f).1}
  rw[Zct j];unfold escP;rw[if_neg (by omega),if_neg (by omega),if_neg (by omega),if_neg (by omega)]}
theorem Z87: ∀ {ps:List Int},(∀p∈ps,okP p=true)->(Utf.enc ps).flatMap escB=esc ps
 | [],_=>rfl
 | p::ps,h=>by
  have a:=h p (by simp);simp only[okP,Bool.and_eq_true] at a;rw[Utf.Z0H,List.flatMap_append,ZdV a.1,Z87 (fun q hq=>h q (List.mem_cons_of_mem _ hq))];simp[esc]
theorem Z6u (p:UInt8->Bool): ∀s:List UInt8,(s.takeWhile p).takeWhile p=s.takeWhile p
 | []=>rfl
 | x::r=>by
  by_cases a:p x=true
  {rw[List.takeWhile_cons_of_pos a,List.takeWhile_cons_of_pos a,Z6u p r]}
  {rw[List.takeWhile_cons_of_neg a]; rfl}
theorem Z42 {s:List UInt8} {t:Tok} {n:Nat} (h:token s= .ok (t,n)):token (s.take n)= .ok (t,n)/\written t=s.take n:=by
 obtain ⟨E,F,z,C,D⟩:=Z0I h;cases s with
 | nil=>cases h
 | cons x r=>
  obtain ⟨m,rfl⟩: ∃m,n=m+1:=⟨n - 1,by omega⟩;have p:t.kind≠4->written t=(x::r).take (m+1):=fun hk=>by unfold written; rw[if_neg hk,z hk]
  have f: (x::r).take (m+1)=x::r.take m:=rfl;have b: ∀(y:UInt8) (q:List UInt8),token (y::q)=if small y||great y then
   (let t:=(y::q).takeWhile nameB
    if isWord t then .ok (⟨5,t⟩,t.length) else if isName t then .ok (⟨1,t⟩,t.length) else if isUpper t then .ok (⟨2,t⟩,t.length) else .error (60,0))
  else if digit y then
   (let t:=(y::q).takeWhile lumpB
    if number t then .ok (⟨3,t⟩,t.length) else if (Sem.parse t).isSome then .ok (⟨7,t⟩,t.length) else .error (60,0))
  else if y=34 then quoted (y::q)
  else if decide (2<=(y::q).length)&&isSign ((y::q).take 2) then .ok (⟨6,(y::q).take 2⟩,2)
  else if isSign [y] then .ok (⟨6,[y]⟩,1)
  else .error (60,0):=fun _ _=>rfl
  by_cases g: (small x||great x)=true
  {have a:=h;rw[b,if_pos g] at a;simp only at a;have w:=Z1g nameB (x::r);have d:m+1=((x::r).takeWhile nameB).length/\t.kind≠4:=by
    split at a
    {obtain ⟨rfl,e⟩:=Prod.mk.inj (Except.ok.inj a); exact ⟨e.symm,by simp⟩}
    split at a
    {obtain ⟨rfl,e⟩:=Prod.mk.inj (Except.ok.inj a); exact ⟨e.symm,by simp⟩}
    split at a
    {obtain ⟨rfl,e⟩:=Prod.mk.inj (Except.ok.inj a); exact ⟨e.symm,by simp⟩}
    {cases a}
   refine ⟨?_,p d.2⟩;have e: (x::r).take (m+1)=(x::r).takeWhile nameB:=by rw[d.1]; exact w.2
   have j: ((x::r).take (m+1)).takeWhile nameB=(x::r).takeWhile nameB:=by rw[e,Z6u]
   rw[f] at j ⊢;rw[b,if_pos g,j];exact a}
  {by_cases i:digit x=true
   {have a:=h;rw[b,if_neg g,if_pos i] at a;simp only at a;have w:=Z1g lumpB (x::r);have d:m+1=((x::r).takeWhile lumpB).length/\t.kind≠4:=by
     split at a
     {obtain ⟨rfl,e⟩:=Prod.mk.inj (Except.ok.inj a); exact ⟨e.symm,by simp⟩}
     split at a
     {obtain ⟨rfl,e⟩:=Prod.mk.inj (Except.ok.inj a); exact ⟨e.symm,by simp⟩}
     {cases a}
    refine ⟨?_,p d.2⟩;have e: (x::r).take (m+1)=(x::r).takeWhile lumpB:=by rw[d.1]; exact w.2
    have j: ((x::r).take (m+1)).takeWhile lumpB=(x::r).takeWhile lumpB:=by rw[e,Z6u]
    rw[f] at j ⊢;rw[b,if_neg g,if_pos i,j];exact a}
   {by_cases l:x=34
    {subst l;have a:=h;rw[b,if_neg g,if_neg i,if_pos rfl] at a;obtain ⟨k,u,H⟩:=Z1u ((34:UInt8)::r).length r (by simp);unfold quoted finish at a;rw[List.tail_cons] at a;rcases G:body ((34:UInt8)::r).length r with ⟨ps,rest⟩;rw[G] at a k u;simp only at a k u;cases rest with
     | nil=>cases a
     | cons c q=>
      simp only at a;split at a
      {rename_i B
       subst B;obtain ⟨rfl,e⟩:=Prod.mk.inj (Except.ok.inj a);have A: (34::r).take (m+1)=34::(esc ps++ [34]):=by
        rw[List.take_succ_cons,u];have:m=(esc ps).length+1:=by omega
        rw[this,List.take_append,List.take_of_length_le (by omega)];simp
       constructor
       {rw[A,b,if_neg g,if_neg i,if_pos rfl];unfold quoted;rw[List.tail_cons,Z3z ((34:UInt8)::(esc ps++ [34])).length k (by rw[Z1T,if_pos (Or.inl rfl)]) (by simp)];unfold finish;simp only[if_true];rw[e]}
       {rw[A];unfold written;rw[if_pos rfl];simp only;rw[Z87 k]}}
      {split at a <;> cases a}}
    {have a:=h;rw[b,if_neg g,if_neg i,if_neg l] at a;split at a
     {rename_i o
      obtain ⟨rfl,e⟩:=Prod.mk.inj (Except.ok.inj a);obtain rfl:m=1:=by omega
      simp only[Bool.and_eq_true,decide_eq_true_eq] at o;refine ⟨?_,p (by simp)⟩;cases r with
      | nil=>simp at o
      | cons y q=>
       have v:isSign [x,y]=true:=o.2;show token [x,y]=_;rw[b,if_neg g,if_neg i,if_neg l,if_pos (by simp[v])];rfl}
     split at a
     {rename_i o v
      obtain ⟨rfl,e⟩:=Prod.mk.inj (Except.ok.inj a);obtain rfl:m=0:=by omega
      refine ⟨?_,p (by simp)⟩;show token [x]=_;rw[b,if_neg g,if_neg i,if_neg l,if_neg (by simp),if_pos v]}
     {cases a}}}}
def good (t:Tok):Prop:= ∃c r,written t=c::r/\(c::r).length<=4096/\blank c=false/\token (c::r)= .ok (t,(c::r).length)
theorem Z4z {s:List UInt8} {t:Tok} {n:Nat} (h:token s= .ok (t,n)):hasRemark s=false:=by
 cases a:hasRemark s with
 | false=>rfl
 | true=>
  exfalso;unfold hasRemark at a;split at a
  {rename_i q
   unfold token at h;simp[small,great,digit,isSign,signs] at h}
  {cases a}
def join:List (List UInt8)->List UInt8
 | []=> []
 | [p]=>p
 | p::q::ps=>p++32::join (q::ps)
theorem Z3f: ∀(k:Nat) (a:List UInt8) (i:Nat) (l:List (Tok×Nat)),a.length<=k->a.length<=4096->toks a i= .ok l-> ∀x∈l,good x.1/\1<=x.1.kind
 | _,[],i,l,_,_,h=>by
  obtain rfl: []=l:=Except.ok.inj h;intro x d; cases d
 | 0,c::r,_,_,h,_,_=>by simp at h
 | k+1,c::r,i,l,hk,h4,h=>by
  rw[List.length_cons] at hk h4;by_cases w:blank c=true
  {rw[Z0l w] at h;exact Z3f k r (i+1) l (by omega) (by omega) h}
  {have g:blank c=false:=by simpa using w
   have o: ∀x∈(c::r).head?,blank x=false:=fun x d=>by
    obtain rfl:c=x:=by simpa using d
    exact g
   cases u:hasRemark (c::r) with
   | true=>
    rw[Z0y o u] at h;cases q:remark (c::r).length (c::r) with
    | error j=>rw[q] at h; cases h
    | ok n=>
     rw[q] at h;have A:=Z0Q u (f:=r.length) q;exact Z3f k _ _ l (by rw[List.length_drop,List.length_cons]; omega) (by rw[List.length_drop,List.length_cons]; omega) h
   | false=>
    rw[Z0G (by simp) o u] at h;cases p:token (c::r) with
    | error x=>rw[p] at h; cases h
    | ok x=>
     obtain ⟨t,n⟩:=x;rw[p] at h;simp only at h;obtain ⟨A,v,_,B,_⟩:=Z0I p;cases s:toks ((c::r).drop n) (i+n) with
     | error e=>rw[s] at h; cases h
     | ok m=>
      rw[s] at h;obtain rfl: (t,i)::m=l:=Except.ok.inj h;intro x d;rcases List.mem_cons.1 d with rfl | d
      {obtain ⟨y,z⟩:=Z42 p;obtain ⟨j,rfl⟩: ∃j,n=j+1:=⟨n - 1,by omega⟩;rw[List.take_succ_cons] at y z;have b: (c::r.take j).length=j+1:=by
        rw[List.length_cons,List.length_take]; rw[List.length_cons] at v; omega
       refine ⟨⟨c,r.take j,z, ?_,g, ?_⟩,B⟩
       {rw[b]; rw[List.length_cons] at v; omega}
       {rw[b]; exact y}}
      {exact Z3f k _ _ m (by rw[List.length_drop,List.length_cons]; omega) (by rw[List.length_drop,List.length_cons]; omega) s x d}}
end
end Lex
namespace Tms
section
open Shp (Sh join field total)
def quoteT (s:List UInt8):List UInt8:= [34]++s.flatMap Lex.escB++ [34]
def oper (k:Int) (x:List UInt8):List UInt8:=if k=1\/k=6\/k=11\/k=12\/k=13\/k=14 then [40]++x++ [41] else x
def Z3g:List Tm->Int
 | []=>0
 | p::_=>p.kind
def rfield (n x:List UInt8):List UInt8:=n++ [32,61,32]++x
def way (n v s x:List UInt8):List UInt8:=n++ [40]++field v s++ [41,32,45,62,32]++x
def binds (ns ss:List (List UInt8)):List (List UInt8):=(List.range ns.length).map fun i=>field (ns.getD i []) (ss.getD i [])
def recs (ns xs:List (List UInt8)):List (List UInt8):=(List.range ns.length).map fun i=>rfield (ns.getD i []) (xs.getD i [])
def ways (ns vs ss xs:List (List UInt8)):List (List UInt8):=(List.range ns.length).map fun i=>way (ns.getD i []) (vs.getD i []) (ss.getD i []) (xs.getD (i+1) [])
def textOf (t:Tm) (k0:Int) (ss xs:List (List UInt8)):List UInt8:=
 if t.kind=1 then Sem.dec t.n.toNat
 else if t.kind=2 then quoteT t.name
 else if t.kind=3 then [116,114,117,101]
 else if t.kind=4 then [102,97,108,115,101]
 else if t.kind=5 then (if t.of_= [] then t.name else t.of_++ [47]++t.name)
 else if t.kind=6 then [102,117,110,32,40]++join [44,32] (binds t.names ss)++ [41,32,45,62,32]++xs.getD 0 []
 else if t.kind=7 then oper k0 (xs.getD 0 [])++ [40]++join [44,32] xs.tail++ [41]
 else if t.kind=8 then [123]++join [44,32] (recs t.names xs)++ [125]
 else if t.kind=9 then oper k0 (xs.getD 0 [])++ [46]++t.name
 else if t.kind=10 then [64]++t.name++ [40]++xs.getD 0 []++ [41]
 else if t.kind=11 then [91]++join [44,32] xs++ [93,32,111,102,32]++ss.getD 0 []
 else if t.kind=12 then [105,102,32]++xs.getD 0 []++ [32,116,104,101,110,32]++xs.getD 1 []++ [32,101,108,115,101,32]++xs.getD 2 []++ [32,97,115,32]++ss.getD 0 []
 else if t.kind=13 then [99,97,115,101,32]++xs.getD 0 []++ [32,111,102,32,123]++join [32,124,32] (ways t.names t.vars ss xs)++ [125,32,97,115,32]++ss.getD t.names.length []
 else if t.kind=14 then [108,101,116,32]++t.name++ [32,61,32]++xs.getD 0 []++ [32,105,110,32]++xs.getD 1 []
 else if t.kind=15 then [40]++xs.getD 0 []++ [32,97,115,32]++ss.getD 0 []++ [41]
 else if t.kind=16 then [110,101,119,32]++t.name++ [40]++xs.getD 0 []++ [41]
 else [114,97,119,32]++t.name++ [40]++xs.getD 0 []++ [41]
mutual
def text:Tm->List UInt8
 | ⟨k,o,na,n,ns,vs,ss,ps,a⟩=>textOf ⟨k,o,na,n,ns,vs,ss,ps,a⟩ (Z3g ps) (ss.map Shp.text) (texts ps)
def texts:List Tm->List (List UInt8)
 | []=> []
 | p::ps=>text p::texts ps
end
theorem Z18 {t:Tm} {n v s p:Nat}:lists t n v s p=true ↔ t.names.length=n/\t.vars.length=v/\t.shapes.length=s/\t.parts.length=p:=by
 unfold lists; simp[and_assoc]
theorem ZaW {t:Tm} (a:fits t=true): (∀x∈t.names,Lex.isName x=true)/\(∀x∈t.vars,Lex.isName x=true)/\(∀s∈t.shapes,Shp.check s=0/\hasOpaque s=false):=by
 unfold fits names shapesOk at a;simp only[Bool.and_eq_true,List.all_eq_true,decide_eq_true_eq,Bool.not_eq_true'] at a;exact ⟨a.1.1.1.1.1.2.1,a.1.1.1.1.2.1,a.1.1.1.2⟩
theorem Ze4 {t:Sh} (h:Shp.check t=0):Shp.size t<=400/\Shp.right t=true:=by
 unfold Shp.check at h;by_cases b:400 < Shp.size t
 {rw[if_pos b] at h; omega}
 {rw[if_neg b] at h;by_cases a:40 < Shp.deep t
  {rw[if_pos a] at h; omega}
  {rw[if_neg a] at h;cases c:Shp.right t with
   | false=>rw[c] at h; simp at h
   | true=>exact ⟨by omega,rfl⟩}}
end
section
open Shp (Sh)
def numB (t:Tm):Bool:=t.n==0||(t.kind==1&&decide (0 < t.n)&&decide (t.n<=999999999999999))
def ofB (t:Tm):Bool:=t.of_== []||(t.kind==5&&Lex.isName t.of_)
def nameB (t:Tm):Bool:=
 if t.kind=2 then textOk t.name else if t.kind=5\/t.kind=9\/t.kind=10\/t.kind=14 then Lex.isName t.name else if t.kind=16\/t.kind=17 then Lex.isUpper t.name else t.name== []
def cntN (k:Int) (n v s p:Nat):Bool:=
 if k=1\/k=2\/k=3\/k=4\/k=5 then decide (n=0/\v=0/\s=0/\p=0)
 else if k=6 then decide (v=0/\s=n/\p=1)
 else if k=7 then decide (n=0/\v=0/\s=0/\1<=p)
 else if k=8 then decide (v=0/\s=0/\p=n)
 else if k=9\/k=10\/k=16\/k=17 then decide (n=0/\v=0/\s=0/\p=1)
 else if k=11 then decide (n=0/\v=0/\s=1)
 else if k=12 then decide (n=0/\v=0/\s=1/\p=3)
 else if k=13 then decide (v=n/\s=n+1/\p=n+1)
 else if k=14 then decide (n=0/\v=0/\s=0/\p=2)
 else if k=15 then decide (n=0/\v=0/\s=1/\p=1)
 else false
def cntB (t:Tm):Bool:=cntN t.kind t.names.length t.vars.length t.shapes.length t.parts.length
def fitsP (t:Tm):Bool:=decide (0<=t.at_)&&numB t&&ofB t&&nameB t&&cntB t&&t.names.all Lex.isName&&Shp.noDup t.names&&t.vars.all Lex.isName&&shapesOk t.shapes
theorem Zcx (t:Tm): ((decide (t.kind=1)||decide (t.n=0))&&(decide (t.kind=5)||t.of_== [])&&fitsK t)=(numB t&&ofB t&&nameB t&&cntB t):=by
 unfold numB ofB nameB cntB cntN fitsK lists;generalize t.names.length=n;generalize t.vars.length=v;generalize t.shapes.length=s;generalize t.parts.length=p;generalize hN:Lex.isName t.name=bn;generalize hU:Lex.isUpper t.name=bu;generalize hO:Lex.isName t.of_=bo;generalize hT:textOk t.name=bt;generalize (t.name== [])=be;generalize (t.of_== [])=bf;generalize t.n=N;generalize t.kind=k;clear hN hU hO hT;by_cases h:k < 1\/17 < k
 {rw[if_neg (by omega),if_neg (by omega),if_neg (by omega),if_neg (by omega),if_neg (by omega),if_neg (by omega),if_neg (by omega),if_neg (by omega),if_neg (by omega),if_neg (by omega),if_neg (by omega),if_neg (by omega),if_neg (by omega),if_neg (by omega)];rw[if_neg (by omega),if_neg (by omega),if_neg (by omega)];rw[if_neg (by omega),if_neg (by omega),if_neg (by omega),if_neg (by omega),if_neg (by omega),if_neg (by omega),if_neg (by omega),if_neg (by omega),if_neg (by omega),if_neg (by omega)];simp}
 {have:k=1\/k=2\/k=3\/k=4\/k=5\/k=6\/k=7\/k=8\/k=9\/k=10\/k=11\/k=12\/k=13\/k=14\/k=15\/k=16\/k=17:=by omega
  clear h;rcases this with h | h | h | h | h | h | h | h | h | h | h | h | h | h | h | h | h
  all_goals
   subst h;rw[Bool.eq_iff_iff];simp;cases bn <;> cases bu <;> cases bo <;> cases bt <;> cases be <;> cases bf <;> simp <;> omega}
theorem Ze6 (t:Tm):fitsP t=fits t:=by
 have h:=Zcx t;unfold fitsP fits names;rw[Bool.eq_iff_iff];have k:=Bool.eq_iff_iff.1 h;simp only[Bool.and_eq_true,Bool.or_eq_true,Bool.not_true,Bool.not_false,decide_eq_true_eq] at k ⊢;constructor
 {rintro ⟨⟨⟨⟨⟨⟨⟨⟨a,b⟩,c⟩,d⟩,e⟩,f⟩,g⟩,i⟩,j⟩;obtain ⟨⟨x,y⟩,z⟩:=k.2 ⟨⟨⟨b,c⟩,d⟩,e⟩;exact ⟨⟨⟨⟨⟨⟨a,f,Or.inr g⟩,i,Or.inl trivial⟩,j⟩,x⟩,y⟩,z⟩}
 {rintro ⟨⟨⟨⟨⟨⟨a,f,g⟩,i,_⟩,j⟩,x⟩,y⟩,z⟩;obtain ⟨⟨⟨b,c⟩,d⟩,e⟩:=k.1 ⟨⟨x,y⟩,z⟩;refine ⟨⟨⟨⟨⟨⟨⟨⟨a,b⟩,c⟩,d⟩,e⟩,f⟩, ?_⟩,i⟩,j⟩;rcases g with g | g
  {cases g}
  {exact g}}
mutual
def few:Tm->Bool
 | ⟨_,_,_,_,ns,_,_,ps,_⟩=>decide (ns.length<=9223372036854775806)&&fews ps
def fews:List Tm->Bool
 | []=>true
 | p::ps=>few p&&fews ps
end
theorem Z3C (t:Tm):few t=(decide (t.names.length<=9223372036854775806)&&fews t.parts):=by cases t; rfl
theorem Z43 (l:List Tm):fews l=l.all few:=by
 induction l with
 | nil=>rfl
 | cons a l ih=>simp[fews,ih]
theorem Zfe {t:Tm} (h:few t=true):t.names.length<=9223372036854775806:=by
 rw[Z3C,Bool.and_eq_true,decide_eq_true_eq] at h; exact h.1
theorem Ze7 {t p:Tm} (h:few t=true) (a:p∈t.parts):few p=true:=by
 rw[Z3C,Z43,Bool.and_eq_true,List.all_eq_true] at h; exact h.2 p a
end
end Tms
namespace Lex
section
def Placed (s:List UInt8):Nat->List (Tok×Nat)->Prop
 | a,[]=>a<=s.length
 | a,(t,p)::r=>a<=p/\p<=s.length/\1<=t.kind/\t.kind<=7/\(t.kind=4->Placed s (p+2) r)/\(t.kind≠4->p+t.text.length<=s.length/\(s.drop p).take t.text.length=t.text/\Placed s (p+t.text.length) r)
theorem Placed.less {s:List UInt8} {a b:Nat} (c:b<=a): ∀ {l:List (Tok×Nat)},Placed s a l->Placed s b l
 | [],h=>Nat.le_trans c h
 | (t,p)::r,h=>by
  obtain ⟨d,e⟩:=h;exact ⟨Nat.le_trans c d,e⟩
theorem Zb2 {s:List UInt8} {t:Tok} {n:Nat} (h:token s= .ok (t,n)) (b:t.kind=4):2<=n:=by
 obtain ⟨_,a⟩:=Z42 h;obtain ⟨c,d,_⟩:=Z0I h;have:=congrArg List.length a;unfold written at this;rw[if_pos b,List.length_take,List.length_cons,List.length_append] at this;simp only[List.length_cons,List.length_nil] at this;omega
theorem Z1M (s:List UInt8): ∀(k i:Nat) (l:List (Tok×Nat)),s.length - i<=k->i<=s.length->toks (s.drop i) i= .ok l->Placed s i l
 | k,i,l,hk,hi,h=>by
  cases a:s.drop i with
  | nil=>
   rw[a] at h;obtain rfl: []=l:=Except.ok.inj h;exact hi
  | cons c r=>
   have g: (s.drop i).length=r.length+1:=by rw[a]; rfl
   rw[List.length_drop] at g;cases k with
   | zero=>omega
   | succ k=>
    have A:s.drop (i+1)=r:=by
     have:=congrArg List.tail a;simpa[List.tail_drop] using this
    by_cases B:blank c=true
    {rw[a,Z0l B, <-A] at h;exact (Z1M s k (i+1) l (by omega) (by omega) h).less (by omega)}
    {have w:blank c=false:=by simpa using B
     have d: ∀x∈(c::r).head?,blank x=false:=fun x hx=>by
      obtain rfl:c=x:=by simpa using hx
      exact w
     have b: ∀n,(c::r).drop n=s.drop (i+n):=fun n=>by rw[<-a,List.drop_drop]
     cases z:hasRemark (c::r) with
     | true=>
      rw[a,Z0y d z] at h;cases q:remark (c::r).length (c::r) with
      | error j=>rw[q] at h; cases h
      | ok n=>
       rw[q] at h;have D:=Z0Q z (f:=r.length) q;have h2:=Z1m _ _ _ q;rw[List.length_cons] at h2;simp only at h;rw[b] at h;exact (Z1M s k (i+n) l (by omega) (by omega) h).less (by omega)
     | false=>
      rw[a,Z0G (by simp) d z] at h;cases u:token (c::r) with
      | error x=>rw[u] at h; cases h
      | ok x=>
       obtain ⟨t,n⟩:=x;rw[u] at h;simp only at h;rw[b] at h;obtain ⟨D,h2,h3,h4,h5⟩:=Z0I u;have v:=fun hk4=>Zb2 u hk4;rw[List.length_cons] at h2;cases y:toks (s.drop (i+n)) (i+n) with
       | error e=>rw[y] at h; cases h
       | ok m=>
        rw[y] at h;obtain rfl: (t,i)::m=l:=Except.ok.inj h;have C:=Z1M s k (i+n) m (by omega) (by omega) y;refine ⟨Nat.le_refl _,hi,h4,h5,fun hk4=>C.less (by have:=v hk4; omega),fun hk4=> ?_⟩;have p:=h3 hk4;have o:t.text.length=n:=by rw[p,List.length_take,List.length_cons]; omega
        refine ⟨by omega, ?_,by rw[o]; exact C⟩;rw[o,a];exact p.symm}
def scanR (s:List UInt8):Except (Int×Nat) (List (Tok×Nat)):=if 4096 < s.length then .error (3,4096) else match toks s 0 with
 | .error x=> .error x
 | .ok l=> .ok (l++ [(⟨0,[]⟩,s.length)])
theorem Zcy {s:List UInt8} {e:Int} {k:Nat} (h:token s= .error (e,k)):k<=s.length/\(e=60\/e=30):=by
 cases s with
 | nil=>
  obtain ⟨rfl,rfl⟩:=Prod.mk.inj (Except.error.inj h);exact ⟨Nat.zero_le _,Or.inl rfl⟩
 | cons x r=>
  unfold token at h;simp only at h;have a: ∀ {e:Int} {k:Nat},(Except.error (60,0):Except (Int×Nat) (Tok×Nat))= .error (e,k)->k<=(x::r).length/\(e=60\/e=30):=fun h=>by
   obtain ⟨rfl,rfl⟩:=Prod.mk.inj (Except.error.inj h);exact ⟨Nat.zero_le _,Or.inl rfl⟩
  split at h
  {split at h
   {cases h}
   split at h
   {cases h}
   split at h
   {cases h}
   {exact a h}}
  split at h
  {split at h
   {cases h}
   split at h
   {cases h}
   {exact a h}}
  split at h
  {obtain ⟨f,b,g⟩:=Z1u (x::r).length r (by simp);unfold quoted finish at h;rw[List.tail_cons] at h;rcases d:body (x::r).length r with ⟨ps,rest⟩;rw[d] at h b;simp only at h b;cases rest with
   | nil=>exact a h
   | cons c q=>
    simp only at h;split at h
    {cases h}
    split at h
    {exact a h}
    {obtain ⟨rfl,rfl⟩:=Prod.mk.inj (Except.error.inj h);have:=congrArg List.length b;rw[List.length_append,List.length_cons] at this;exact ⟨by rw[List.length_cons]; omega,Or.inr rfl⟩}}
  split at h
  {cases h}
  split at h
  {cases h}
  {exact a h}
theorem Z60: ∀(f:Nat) (l:List UInt8) (n:Nat),remark f l= .error n->n<=l.length
 | 0,l,n,h=>by cases h
 | f+1,[],n,h=>by cases h
 | f+1,c::r,n,h=>by
  rw[remark] at h;split at h
  {cases h}
  split at h
  {obtain rfl:=Except.error.inj h;omega}
  {rename_i a
   rcases b:Utf.first (c::r) with ⟨p,k⟩;rw[b] at h a;obtain ⟨_,_,_,e⟩:=Utf.Z0E b a;simp only at h;split at h
   {cases h}
   {rename_i m d
    obtain rfl:k+m=n:=Except.error.inj h;have:=Z60 f _ m d;rw[List.length_drop] at this;omega}}
theorem Z1d: ∀(k:Nat) (a:List UInt8) (i:Nat) (e:Int) (j:Nat),a.length<=k->toks a i= .error (e,j)->j<=i+a.length/\(e=60\/e=30)
 | _,[],_,_,_,_,h=>by cases h
 | 0,c::r,_,_,_,h,_=>by simp at h
 | k+1,c::r,i,e,j,hk,h=>by
  rw[List.length_cons] at hk ⊢;by_cases q:blank c=true
  {rw[Z0l q] at h;have:=Z1d k r (i+1) e j (by omega) h;exact ⟨by omega,this.2⟩}
  {have l:blank c=false:=by simpa using q
   have b: ∀x∈(c::r).head?,blank x=false:=fun x hx=>by
    obtain rfl:c=x:=by simpa using hx
    exact l
   cases p:hasRemark (c::r) with
   | true=>
    rw[Z0y b p] at h;cases d:remark (c::r).length (c::r) with
    | error n=>
     rw[d] at h;obtain ⟨rfl,rfl⟩:=Prod.mk.inj (Except.error.inj h);have:=Z60 _ _ _ d;rw[List.length_cons] at this;exact ⟨by omega,Or.inr rfl⟩
    | ok n=>
     rw[d] at h;have s:=Z0Q p (f:=r.length) d;have h2:=Z1m _ _ _ d;rw[List.length_cons] at h2;have:=Z1d k _ (i+n) e j (by rw[List.length_drop,List.length_cons]; omega) h;rw[List.length_drop,List.length_cons] at this;exact ⟨by omega,this.2⟩
   | false=>
    rw[Z0G (by simp) b p] at h;cases g:token (c::r) with
    | error x=>
     obtain ⟨u,n⟩:=x;rw[g] at h;obtain ⟨rfl,rfl⟩:=Prod.mk.inj (Except.error.inj h);have:=Zcy g;rw[List.length_cons] at this;exact ⟨by omega,this.2⟩
    | ok x=>
     obtain ⟨t,n⟩:=x;rw[g] at h;simp only at h;obtain ⟨s,h2,_⟩:=Z0I g;rw[List.length_cons] at h2;cases o:toks ((c::r).drop n) (i+n) with
     | ok m=>rw[o] at h; cases h
     | error y=>
      rw[o] at h;obtain rfl:y=(e,j):=Except.error.inj h;have:=Z1d k _ (i+n) e j (by rw[List.length_drop,List.length_cons]; omega) o;rw[List.length_drop,List.length_cons] at this;exact ⟨by omega,this.2⟩}
def up (k:Nat):Except Nat Nat->Except Nat Nat
 | .ok n=> .ok (k+n)
 | .error n=> .error (k+n)
theorem Z4j (x y:UInt8) (q:List UInt8):hasRemark (x::y::q)=(x==45&&y==45):=by
 by_cases a:x=45
 {by_cases b:y=45
  {subst a; subst b; rfl}
  {have: (y==45)=false:=beq_eq_false_iff_ne.2 b;rw[this,Bool.and_false];unfold hasRemark; split
   {rename_i h; simp at h; exact absurd h.2.1 b}
   {rfl}}}
 {have: (x==45)=false:=beq_eq_false_iff_ne.2 a;rw[this,Bool.false_and];unfold hasRemark; split
  {rename_i h; simp at h; exact absurd h.1 a}
  {rfl}}
end
end Lex
