/- What the proofs of ParsePlaces want, part 18. -/
import Derived.Shelf.Strings.Builder1
import Derived.Test.YtkncdbaoaeeoiaaGreatDoorK0n17
set_option linter.unusedVariables false
set_option linter.unusedSimpArgs false
set_option linter.unusedSectionVars false
set_option maxRecDepth 100000
set_option maxHeartbeats 16000000
namespace Pse
section
open Pso
open Prs (look sign no Flt upper tm num)
open Go.Proofs.YtkncdbaoaeeoiaaGreatDoor (Tk)
open Shp (Sh)
open Tms (Tm)
def Ends (l:List Tk):Prop:=0 < l.length/\ ∀i,l.length - 1<=i->(look l i).t.kind=0
theorem sign_lt {l:List Tk} {i:Nat} {s:List UInt8} (h:sign l i s=true): (look l i).t.kind≠0:=by
 unfold sign at h;simp only[Bool.and_eq_true,Bool.or_eq_true,decide_eq_true_eq] at h;rcases h.2 with h | h <;> rw[h] <;> decide
theorem kind_lt {l:List Tk} {i:Nat} (h: (look l i).t.kind≠0): (look l i).t.kind≠0:=h
def Ok (l:List Tk) (σ:St):Prop:=Ends l/\σ.1<=l.length/\(σ.2.1≠0->σ.1=l.length)/\(σ.2.1=0->σ.1 < l.length)
def To (l:List Tk) (σ τ:St):Prop:=Ok l τ/\σ.1<=τ.1/\(σ.2.1≠0->τ.2=σ.2)
section
variable {l : List Tk}
include l
theorem To.trans {a b c:St} (h:To l a b) (k:To l b c):To l a c:=
 ⟨k.1,Nat.le_trans h.2.1 k.2.1,fun hf=>by have:=h.2.2 hf; rw[k.2.2 (by rw[this]; exact hf),this]⟩
theorem To.refl {a:St} (h:Ok l a):To l a a:=⟨h,Nat.le_refl _,fun _=>rfl⟩
theorem to_fail {σ:St} (h:Ok l σ) {e:Int} (he:e≠0) (a:Int):To l σ (fail l σ e a):=by
 have hne: (fail l σ e a).2.1≠0:=by
  unfold fail;by_cases hf:σ.2.1=0
  {rw[if_pos hf]; exact he}
  {rw[if_neg hf]; exact hf}
 refine ⟨⟨h.1,Nat.le_refl _,fun _=>rfl,fun h0=>absurd h0 hne⟩,h.2.1,fun hf=> ?_⟩;unfold fail; rw[if_neg hf]
theorem to_misfit {σ:St} (h:Ok l σ):To l σ (misfit l σ):=to_fail h (by decide) _
theorem to_next {σ:St} (h:Ok l σ) (hl: (look l σ.1).t.kind≠0):To l σ (σ.1+1,σ.2):=by
 have h1:σ.1+1 < l.length:=by
  rcases Nat.lt_or_ge σ.1 (l.length - 1) with h1 | h1
  {omega}
  {exact absurd (h.1.2 _ h1) hl}
 exact ⟨⟨h.1,Nat.le_of_lt h1,fun hf=>absurd (h.2.2.1 hf) (by omega),fun _=>h1⟩,Nat.le_succ _,fun _=>rfl⟩
theorem to_want {σ:St} (h:Ok l σ) (s:List UInt8):To l σ (want l σ s):=by
 unfold want;split
 {next hs=>exact to_next h (sign_lt hs)}
 {exact to_misfit h}
theorem to_text {σ:St} (h:Ok l σ) {k:Int} (hk:k≠0) (ok:List UInt8->Bool):To l σ (textOf l σ k ok).2:=by
 unfold textOf;split
 {next hs=>
  simp only[Bool.and_eq_true,decide_eq_true_eq] at hs;exact to_next h (kind_lt (by rw[hs.1]; exact hk))}
 {exact to_misfit h}
theorem to_name {σ:St} (h:Ok l σ):To l σ (name l σ).2:=to_text h (by decide) _
theorem to_upper {σ:St} (h:Ok l σ):To l σ (upperN l σ).2:=to_text h (by decide) _
theorem to_another {σ:St} (h:Ok l σ) (ns:List (List UInt8)):To l σ (another l σ ns).2:=by
 unfold another;simp only;split
 {exact (to_name h).trans (to_fail (to_name h).1 (by decide) _)}
 {exact to_name h}
end
section
variable {α : Type} {l : List Tk}
def Goes (l:List Tk) (f:St->α->St×α):Prop:= ∀σ a,Ok l σ->To l σ (f σ a).1
theorem to_loop {s:List UInt8} {f:St->α->St×α} (hf:Goes l f): ∀n σ a,Ok l σ->To l σ (loop l s f n σ a).1
 | 0,σ,a,h=>To.refl h
 | n+1,σ,a,h=>by
  unfold loop;split
  {next hs=>
   have h1:=to_next h (sign_lt hs);have h2:=hf _ a h1.1;exact (h1.trans h2).trans (to_loop hf n _ _ h2.1)}
  {exact To.refl h}
theorem to_betw {o s e:List UInt8} {f:St->α->St×α} (hf:Goes l f) {σ:St} (a:α) (h:Ok l σ):To l σ (betw l o s e f σ a).1:=by
 unfold betw;have h1:=to_want h o;simp only;split
 {next hs=>exact h1.trans (to_next h1.1 (sign_lt hs))}
 {have h2:=hf _ a h1.1;have h3:=to_loop (s:=s) hf (l.length+1) _ (f (want l σ o) a).2 h2.1;exact ((h1.trans h2).trans h3).trans (to_want h3.1 e)}
end
def Ty (l:List Tk) {α:Type} (ty:St->α×St):Prop:= ∀σ,Ok l σ->To l σ (ty σ).2
variable {l : List Tk} {ty : St -> Sh × St} {ex : St -> Tm × St}
theorem goes_fields (h:Ty l ty):Goes l (fieldsR l ty):=fun σ a hs=>by
 have h1:=to_another hs a.1;have h2:=to_want h1.1 [58];exact (h1.trans h2).trans (h _ h2.1)
theorem goes_parts (h:Ty l ty):Goes l (partsR l ty):=fun σ a hs=>h σ hs
theorem to_bodyT (h:Ty l ty):Ty l (bodyT l ty):=fun σ hs=>by
 unfold bodyT;split
 {next hx=>
  have h1:=to_next hs (sign_lt hx);have h2:=h _ h1.1;exact (h1.trans h2).trans (to_want h2.1 _)}
 {split
  {exact to_betw (goes_fields h) _ hs}
  {split
   {exact to_betw (goes_fields h) _ hs}
   {split
    {unfold funT;have h1:=to_betw (o:= [40]) (s:= [44]) (e:= [41]) (goes_parts h) [] hs;have h2:=to_want h1.1 [45,62];exact (h1.trans h2).trans (h _ h2.1)}
    {split
     {unfold othersT;have h1:=to_name hs;have h2:=to_want h1.1 [47];exact (h1.trans h2).trans (to_upper h2.1)}
     {exact to_upper hs}}}}}
theorem to_anyT: ∀n,Ty l (anyT l n)
 | 0=>fun σ h=>to_misfit h
 | n+1=>to_bodyT (to_anyT n)
theorem to_wholeT:Ty l (wholeT l):=fun σ h=>by
 have h1:=to_anyT (l.length+1) σ h;unfold wholeT;simp only;split
 {exact h1}
 {next hc=>exact h1.trans (to_fail h1.1 hc _)}
theorem to_begin {σ:St} (h:Ok l σ):To l σ (begin_ l σ):=by
 unfold begin_;split
 {exact to_misfit h}
 {exact To.refl h}
theorem goes_binds:Goes l (bindsR l):=fun σ a hs=>by
 have h1:=to_another hs a.1;have h2:=to_want h1.1 [58];exact (h1.trans h2).trans (to_wholeT _ h2.1)
section
variable (h : Ty l ex)
include h
theorem goes_args:Goes l (argsR l ex):=fun σ a hs=>h σ hs
theorem goes_rec:Goes l (recR l ex):=fun σ a hs=>by
 have h1:=to_another hs a.1;have h2:=to_want h1.1 [61];exact (h1.trans h2).trans (h _ h2.1)
theorem goes_way:Goes l (wayR l ex):=fun σ a hs=>by
 have h1:=to_another hs a.names;have h2:=to_want h1.1 [40];have h3:=to_name h2.1;have h4:=to_want h3.1 [58];have h5:=to_wholeT _ h4.1;have h6:=to_want h5.1 [41];have h7:=to_want h6.1 [45,62];exact ((((((h1.trans h2).trans h3).trans h4).trans h5).trans h6).trans h7).trans (h _ h7.1)
theorem to_fun (a:Int):Ty l (fun σ=>funE l ex σ a):=fun σ hs=>by
 have h1:=to_betw (o:= [40]) (s:= [44]) (e:= [41]) (goes_binds (l:=l)) ([],[]) hs;have h2:=to_want h1.1 [45,62];exact (h1.trans h2).trans (h _ h2.1)
theorem to_let (a:Int):Ty l (fun σ=>letE l ex σ a):=fun σ hs=>by
 have h1:=to_name hs;have h2:=to_want h1.1 [61];have h3:=h _ h2.1;have h4:=to_want h3.1 [105,110];exact (((h1.trans h2).trans h3).trans h4).trans (h _ h4.1)
theorem to_choice (a:Int):Ty l (fun σ=>choiceE l ex σ a):=fun σ hs=>by
 have h1:=h _ hs;have h2:=to_want h1.1 [116,104,101,110];have h3:=h _ h2.1;have h4:=to_want h3.1 [101,108,115,101];have h5:=h _ h4.1;have h6:=to_want h5.1 [97,115];exact (((((h1.trans h2).trans h3).trans h4).trans h5).trans h6).trans (to_wholeT _ h6.1)
theorem to_match (a:Int):Ty l (fun σ=>matchE l ex σ a):=fun σ hs=>by
 have h1:=h _ hs;have h2:=to_want h1.1 [111,102];have h3:=to_betw (o:= [123]) (s:= [124]) (e:= [125]) (goes_way h) ⟨[],[],[],[(ex σ).1]⟩ h2.1;have h4:=to_want h3.1 [97,115];exact (((h1.trans h2).trans h3).trans h4).trans (to_wholeT _ h4.1)
theorem to_list (a:Int):Ty l (fun σ=>listE l ex σ a):=fun σ hs=>by
 have h1:=to_betw (o:= [91]) (s:= [44]) (e:= [93]) (goes_args h) [] hs;have h2:=to_want h1.1 [111,102];exact (h1.trans h2).trans (to_wholeT _ h2.1)
theorem to_of (k:Int) (nm:List UInt8) (a:Int):Ty l (fun σ=>ofE l ex k nm σ a):=fun σ hs=>by
 have h1:=to_want hs [40];have h2:=h _ h1.1;exact (h1.trans h2).trans (to_want h2.1 _)
theorem to_enclosed (a:Int):Ty l (fun σ=>enclosedE l ex σ a):=fun σ hs=>by
 have h1:=h _ hs;show To l σ (enclosedE l ex σ a).2;unfold enclosedE;simp only;split
 {next hx=>
  have h2:=to_next h1.1 (sign_lt hx);have h3:=to_wholeT _ h2.1;exact ((h1.trans h2).trans h3).trans (to_want h3.1 _)}
 {exact h1.trans (to_want h1.1 _)}
end
theorem to_value (a:Int):Ty l (fun σ=>valueE l σ a):=fun σ hs=>by
 have h1:=to_name hs;show To l σ (valueE l σ a).2;unfold valueE;simp only;split
 {next hx=>
  have h2:=to_next h1.1 (sign_lt hx);exact (h1.trans h2).trans (to_name h2.1)}
 {exact h1}
theorem to_atom (h:Ty l ex) (a:Int):Ty l (fun σ=>atomE l ex σ a):=fun σ hs=>by
 show To l σ (atomE l ex σ a).2;unfold atomE;simp only;split
 {next hx=>exact to_next hs (sign_lt hx)}
 split
 {next hx=>exact to_next hs (sign_lt hx)}
 split
 {next hx=>
  have h1:=to_next hs (sign_lt hx);exact h1.trans (to_enclosed h a _ h1.1)}
 split
 {exact to_betw (goes_rec h) ([],[]) hs}
 split
 {next hx=>
  have h1:=to_next hs (sign_lt hx);have h2:=to_name h1.1;exact (h1.trans h2).trans (to_of h _ _ a _ h2.1)}
 split
 {next hx=>
  have h1:=to_next hs (sign_lt hx);have h2:=to_upper h1.1;exact (h1.trans h2).trans (to_of h _ _ a _ h2.1)}
 split
 {next hx=>
  have h1:=to_next hs (sign_lt hx);have h2:=to_upper h1.1;exact (h1.trans h2).trans (to_of h _ _ a _ h2.1)}
 split
 {exact to_text hs (by decide) _}
 split
 {exact to_text hs (by decide) _}
 {exact to_value a _ hs}
theorem to_chainL (h:Ty l ex) (a:Int): ∀n σ t,Ok l σ->To l σ (chainL l ex a n σ t).2
 | 0,σ,t,hs=>To.refl hs
 | n+1,σ,t,hs=>by
  unfold chainL;split
  {have h1:=to_betw (o:= [40]) (s:= [44]) (e:= [41]) (goes_args h) [t] hs;exact h1.trans (to_chainL h a n _ _ h1.1)}
  {split
   {next hx=>
    have h1:=to_next hs (sign_lt hx);have h2:=to_name h1.1;exact (h1.trans h2).trans (to_chainL h a n _ _ h2.1)}
   {exact To.refl hs}}
theorem to_chain (h:Ty l ex) (a:Int):Ty l (fun σ=>chainE l ex σ a):=fun σ hs=>by
 have h1:=to_atom h a _ hs;exact h1.trans (to_chainL h a _ _ _ h1.1)
theorem to_bodyE (h:Ty l ex):Ty l (bodyE l ex):=fun σ hs=>by
 have h0:=to_begin hs;unfold bodyE;simp only;split
 {next hx=>
  have h1:=to_next h0.1 (sign_lt hx);exact (h0.trans h1).trans (to_fun h _ _ h1.1)}
 split
 {next hx=>
  have h1:=to_next h0.1 (sign_lt hx);exact (h0.trans h1).trans (to_let h _ _ h1.1)}
 split
 {next hx=>
  have h1:=to_next h0.1 (sign_lt hx);exact (h0.trans h1).trans (to_choice h _ _ h1.1)}
 split
 {next hx=>
  have h1:=to_next h0.1 (sign_lt hx);exact (h0.trans h1).trans (to_match h _ _ h1.1)}
 split
 {exact h0.trans (to_list h _ _ h0.1)}
 {exact h0.trans (to_chain h _ _ h0.1)}
theorem to_expr: ∀n,Ty l (expr l n)
 | 0=>fun σ h=>to_misfit h
 | n+1=>to_bodyE (to_expr n)
end
end Pse
namespace Lex
theorem Z3x: ∀(k:Nat) (a:List UInt8) (i:Nat) (l:List (Tok×Nat)),a.length<=k->toks a i= .ok l->l.length<=a.length
 | _,[],i,l,_,h=>by obtain rfl:=Except.ok.inj h; exact Nat.le_refl _
 | 0,c::r,_,_,h,_=>by simp at h
 | k+1,c::r,i,l,hk,h=>by
  rw[List.length_cons] at hk;by_cases hb:blank c=true
  {rw[Z0l hb] at h;have:=Z3x k r (i+1) l (by omega) h;rw[List.length_cons]; omega}
  {have hp:=Z4d (l:=c::r) (by simp) (fun x hx=>by
    obtain rfl:c=x:=by simpa using hx
    simpa using hb) i
   cases hq:piece (c::r) with
   | error x=>
    obtain ⟨x,j⟩:=x;rw[hq] at hp;simp only at hp;rw[hp] at h; cases h
   | ok x=>
    obtain ⟨ts,n⟩:=x;rw[hq] at hp;simp only at hp;obtain ⟨h1,h2,h3,h4⟩:=hp;rw[h1] at h;cases ht:toks ((c::r).drop n) (i+n) with
    | error x=>rw[ht] at h; cases h
    | ok m=>
     rw[ht] at h;obtain rfl:=Except.ok.inj h;have:=Z3x k _ _ m (by rw[List.length_drop,List.length_cons]; omega) ht;rw[List.length_drop] at this;rw[List.length_append,List.length_map]; omega}
theorem Z4V {s:List UInt8} {m:List (Tok×Nat)} (h:scanR s= .ok m):s.length<=4096/\ ∃l,toks s 0= .ok l/\m=l++ [(endTok,s.length)]:=by
 unfold scanR at h;split at h
 {cases h}
 {refine ⟨by omega, ?_⟩;cases ht:toks s 0 with
  | error x=>rw[ht] at h; cases h
  | ok l=>rw[ht] at h; obtain rfl:=Except.ok.inj h; exact ⟨l,rfl,rfl⟩}
theorem Zdn: ∀l:List UInt8,l.length<=(l.flatMap escB).length
 | []=>Nat.le_refl _
 | c::r=>by
  have h1:=Zdn r;have h2:1<=(escB c).length:=by
   unfold escB; repeat (split; simp)
   simp
  rw[List.flatMap_cons,List.length_append,List.length_cons]; omega
theorem Z7z (t:Tok):t.text.length<=(written t).length:=by
 unfold written;split
 {have:=Zdn t.text;simp only[List.length_cons,List.length_append,List.length_nil]; omega}
 {exact Nat.le_refl _}
theorem Z2D {s:List UInt8}: ∀(m:List (Tok×Nat)) (a:Nat),Placed s a m-> ∀x∈m,x.2<=s.length
 | [],_,_,x,hx=>by simp at hx
 | (t,p)::r,a,h,x,hx=>by
  obtain ⟨_,h2,_,_,h4,h5⟩:=h;rcases List.mem_cons.1 hx with rfl | hx
  {exact h2}
  {by_cases hk:t.kind=4
   {exact Z2D r _ (h4 hk) x hx}
   {exact Z2D r _ (h5 hk).2.2 x hx}}
end Lex
namespace Go.Proofs.YtkncdbaoaeeoiaaGreatDoor
open Go.RowKit
section
variable {s : List UInt8} {w w' : World} {e : Ending} (h : ScanV s w e w')
include s w w' e h
theorem Z4W {m:List (Lex.Tok×Nat)} (hm:Lex.scanR s= .ok m):
 ∃A cap,e= .returned (.tuple #[.slice A (tkOf m).length cap,.agg #[.int .i64 0,.int .i64 0]])/\Tks w' w'.heap.size A (tkOf m)/\w'.ownsRow w.heap.size 54 3 (.slice A (tkOf m).length cap) (tkOf m).length (cellsT (tkOf m))/\Below w.heap.size w w':=by
 obtain ⟨A,cap,l,a,b,rfl,ho,hb,hc⟩:=h;rw[hm] at hc;obtain ⟨rfl,rfl,rfl⟩:=hc;obtain ⟨A',cap',hv,_,ht⟩:=ZbE ho;have hA:A=A':=by simp at hv; exact hv.1
 subst hA;exact ⟨A,cap,rfl,ht,ho,hb⟩
theorem Z6j {x:Int} {k:Nat} (hm:Lex.scanR s= .error (x,k)):
 ∃A cap,e= .returned (.tuple #[.slice A 0 cap,.agg #[.int .i64 x,.int .i64 (k:Int)]])/\Below w.heap.size w w':=by
 obtain ⟨A,cap,l,a,b,rfl,ho,hb,hc⟩:=h;rw[hm] at hc;obtain ⟨rfl,rfl,rfl⟩:=hc;exact ⟨A,cap,rfl,hb⟩
end
structure Scanned (l:List Tk):Prop where
 len:l.length<=4097
 tok: ∀b∈l,b.t.text.length<=4096/\0<=b.at_/\b.at_<=4096
 ends:Pse.Ends l
theorem scanned {s:List UInt8} {m:List (Lex.Tok×Nat)} (h:Lex.scanR s= .ok m):Scanned (tkOf m):=by
 obtain ⟨h4,l,hl,rfl⟩:=Lex.Z4V h;have hc:=Lex.Z3x s.length s 0 l (Nat.le_refl _) hl;have hlen: (tkOf (l++ [(Lex.endTok,s.length)])).length=l.length+1:=by rw[Z1D]; simp
 refine ⟨by omega,fun b hb=> ?_,by omega,fun i hi=> ?_⟩
 {unfold tkOf at hb;obtain ⟨x,hx,rfl⟩:=List.mem_map.1 hb;rcases List.mem_append.1 hx with hx | hx
  {have hg:=(Lex.Z3f s.length s 0 l (Nat.le_refl _) h4 hl x hx).1;have hp:=Lex.Z2D l 0 (Lex.Z1M s s.length 0 l (by omega) (Nat.zero_le _) hl) x hx;exact ⟨Nat.le_trans (Lex.Z7z x.1) (Lex.Z5x (Or.inr hg)),by show (0:Int)<=(x.2:Int); omega,by show (x.2:Int)<=4096; omega⟩}
  {obtain rfl:x=(Lex.endTok,s.length):=by simpa using hx
   exact ⟨by show (0:Nat)<=4096; omega,by show (0:Int)<=(s.length:Int); omega,by show (s.length:Int)<=4096; omega⟩}}
 {rw[hlen] at hi;rcases Nat.lt_or_ge i (l.length+1) with h1 | h1
  {obtain rfl:i=l.length:=by omega
   unfold Prs.look tkOf;simp[Lex.endTok]}
  {by_cases hk: (Prs.look (tkOf (l++ [(Lex.endTok,s.length)])) i).t.kind=0
   {exact hk}
   {have:=Pso.kind_lt hk;omega}}}
end Go.Proofs.YtkncdbaoaeeoiaaGreatDoor
namespace Lex
def sow (l:List UInt8) (n:Nat):List UInt8:=34::(l.take n).flatMap escB
theorem ZeB (c:UInt8): (escB c).length<=2:=by
 unfold escB; repeat (split; simp)
 simp
theorem Z8I: ∀l:List UInt8,(l.flatMap escB).length<=2 * l.length
 | []=>by simp
 | c::r=>by
  have:=ZeB c;have:=Z8I r;rw[List.flatMap_cons,List.length_append,List.length_cons]; omega
theorem ZfB (l:List UInt8) (n:Nat): (sow l n).length<=1+2 * n:=by
 have h1:=Z8I (l.take n);have h2:=List.length_take_le n l;unfold sow; rw[List.length_cons]; omega
theorem ZeC {l:List UInt8} {n:Nat} (h:n < l.length):sow l (n+1)=sow l n++escB (l[n]'h):=by
 unfold sow;rw[List.take_succ_eq_append_getElem h,List.flatMap_append]; simp
end Lex
namespace Go.Proofs.YtkncdbaoaeeoiaaGreatDoor
open Go.RowKit
def BoxT (W:World) (g:Nat) (k:Int) (l:List UInt8):Prop:=W.cell? ⟨g,0,none⟩=some (.int .i64 k)/\W.cell? ⟨g,1,none⟩=some (.string ⟨l.toArray⟩)
end Go.Proofs.YtkncdbaoaeeoiaaGreatDoor
namespace Go.Proofs.YtkncdbaoaeeoiaaGreatDoor
section
open Go.RowKit
theorem Z9Y (c:UInt8): (∃(j:Nat) (x:UInt8),j < 4/\Lib.indexByte [10,9,34,92] c=(j:Int)/\Lex.escB c= [92,x]/\(∀W,(Instr.index 9 (.string ⟨#[110,116,34,92]⟩) (.int .i64 (j:Int))).run Tryz.prog W= .ok (.int .u8 x.toNat) W))\/(Lib.indexByte [10,9,34,92] c= -1/\Lex.escB c= [c]):=by
 have hk: ∀(j:Nat) (hj:j < 4) (W:World),(Instr.index 9 (.string ⟨#[110,116,34,92]⟩) (.int .i64 (j:Int))).run Tryz.prog W= .ok (.int .u8 ((⟨#[110,116,34,92]⟩:ByteArray)[j]'hj).toNat) W:=fun j hj W=>Z0i ⟨#[110,116,34,92]⟩ j hj W;by_cases h1:c=10
 {subst h1; exact Or.inl ⟨0,110,by decide,by decide,rfl,hk 0 (by decide)⟩}
 by_cases h2:c=9
 {subst h2; exact Or.inl ⟨1,116,by decide,by decide,rfl,hk 1 (by decide)⟩}
 by_cases h3:c=34
 {subst h3; exact Or.inl ⟨2,34,by decide,by decide,rfl,hk 2 (by decide)⟩}
 by_cases h4:c=92
 {subst h4; exact Or.inl ⟨3,92,by decide,by decide,rfl,hk 3 (by decide)⟩}
 {refine Or.inr ⟨?_, ?_⟩
  {have g1: ((10:UInt8)==c)=false:=beq_eq_false_iff_ne.2 (Ne.symm h1);have g2: ((9:UInt8)==c)=false:=beq_eq_false_iff_ne.2 (Ne.symm h2);have g3: ((34:UInt8)==c)=false:=beq_eq_false_iff_ne.2 (Ne.symm h3);have g4: ((92:UInt8)==c)=false:=beq_eq_false_iff_ne.2 (Ne.symm h4);simp[Lib.indexByte,g1,g2,g3,g4]}
  {unfold Lex.escB; rw[if_neg h1,if_neg h2,if_neg (by rintro (h | h); exact h3 h; exact h4 h)]}}
theorem Z7A (p:List UInt8) (a b:UInt8):Lib.byteCells (p++ [a,b])=Lib.byteCells p++ [.int .u8 (a.toNat:Int),.int .u8 (b.toNat:Int)]:=by simp[Lib.byteCells]
def Enq (l:List UInt8) (w wr:World) (v:Value) (n:Nat):Prop:=wr.ownsRow w.heap.size 5 1 v (Lex.sow l n).length (Lib.byteCells (Lex.sow l n))/\Below w.heap.size w wr
theorem Z8J (l:List UInt8) (hl:l.length<=1000000) (w:World):
 Y9 210 #[.string ⟨l.toArray⟩] w (.string ⟨(34::(l.flatMap Lex.escB++ [34])).toArray⟩):=by
 obtain ⟨i0,hi,hz0,hz1,hz2⟩:=info_parts (P:=Tryz.prog) (e:=5) (z:= .int .u8 0) (size:=1) (bytes:=1) (by kernel_rfl);have hz: (⟨l.toArray⟩:ByteArray).size=l.length:=Z07 _;have hsow: ∀n,(Lex.sow l n).length<=1+2 * n:=Lex.ZfB l;have HE0:Hid (Enq l w (w.alloc (.cells #[.int .u8 34] 5)) (.slice (some ⟨w.heap.size,0,none⟩) 1 1) 0):=Y1
  ⟨World.ownsRow_lit (base:=w.heap.size) (e:=5) (size:=1) w #[Value.int .u8 34] 1 (Nat.le_refl _) (by simp[maxLen]) rfl,Z01 _ _⟩
 go_enter Tryz.func210,Tryz.ntmps210
 go_wp2_with fail
 go_loopw [3,9] (fun v ii wr=> ∃n:Nat,ii= .int .i64 n/\n<=l.length/\Hid (Enq l w wr v n))
  (fun _ ii _=>l.length - (intOf ii).toNat)
 case atStart=>exact ⟨0,rfl,Nat.zero_le _,HE0⟩
 case round=>
  obtain ⟨n,rfl,hn,HE⟩:=hrel;have hsz:=hsow n;have hbw:=HE.out.2.size;by_cases hlt:n < l.length
  {have hi1: (n:Int) < (l.length:Int):=by omega
   obtain ⟨c,hc⟩: ∃c,c=l[n]'hlt:=⟨_,rfl⟩;have hidx: ∀W,(Instr.index 9 (.string ⟨l.toArray⟩) (.int .i64 (n:Int))).run Tryz.prog W= .ok (.int .u8 c.toNat) W:=fun W=>by
    rw[hc]; exact Z0i ⟨l.toArray⟩ n (by omega) W
   have HS:Hid (Lex.sow l (n+1)=Lex.sow l n++Lex.escB c):=Y1 (by rw[hc]; exact Lex.ZeC hlt);clear hc;rcases Z9Y c with ⟨j,x,hj,hix,hesc,hjx⟩ | ⟨hix,hesc⟩
   {have HIX:=Y1 hix;have HSE:Hid (Lex.sow l (n+1)=Lex.sow l n++ [92,x]):=Y1 (by rw[HS.out,hesc]);have hj0: (0:Int)<=(j:Int):=by omega
    have hj4: (j:Int) < 4:=by omega
    have hx0:=x.toNat_lt;clear hix hesc HS
    go_wp2_with fail
    refine (Z6E [10,9,34,92] c _).mono ?_;rintro e w2 ⟨he,rfl⟩;rw[HIX.out] at he;subst he
    go_wp2_with (at_builtin; refine wpList_append_own _ rfl _ _ 137 rfl w.heap.size 5 i0 (.int .u8 0) 1 1 Tryz.underlying137 hi hz0 hz1 hz2 rfl (by decide) _ _ _ rfl (HE.out.1.alloc _) ⟨wr.heap.size,0,none⟩ 2 2 [.int .u8 92,.int .u8 (x.toNat:Int)] rfl rfl (World.news_of_block (heap_alloc_new wr _)) (by intro u hu; simp at hu; rcases hu with rfl | rfl <;> rfl) (by unfold maxLen; omega) (by omega) (by simp; omega) ?_)
    intro v' w3 hown3 hgrow _;have hb3:=(HE.out.2.alloc hbw (.cells #[.int .u8 92,.int .u8 (x.toNat:Int)] 5)).grown hgrow (by simp; omega) (fun k hk=>(HE.out.1.lt k hk).1);have HE3:Hid (Enq l w w3 v' (n+1)):=Y1 ⟨by rw[HSE.out,Z7A,List.length_append]; exact hown3,hb3⟩;clear hown3 hgrow hb3;go_wp2
    go_roundw
    case rel=>exact ⟨n+1,by go_num,by omega,HE3⟩
    case measure=>simp[intOf]; omega}
   {have HIX:=Y1 hix;have HSE:Hid (Lex.sow l (n+1)=Lex.sow l n++ [c]):=Y1 (by rw[HS.out,hesc]);have hx0:=c.toNat_lt;clear hix hesc HS
    go_wp2_with fail
    refine (Z6E [10,9,34,92] c _).mono ?_;rintro e w2 ⟨he,rfl⟩;rw[HIX.out] at he;subst he
    go_wp2_with (at_builtin; refine wpList_append_own _ rfl _ _ 137 rfl w.heap.size 5 i0 (.int .u8 0) 1 1 Tryz.underlying137 hi hz0 hz1 hz2 rfl (by decide) _ _ _ rfl (HE.out.1.alloc _) ⟨wr.heap.size,0,none⟩ 1 1 [.int .u8 (c.toNat:Int)] rfl rfl (World.news_of_block (heap_alloc_new wr _)) (by intro u hu; simp at hu; subst hu; rfl) (by unfold maxLen; omega) (by omega) (by simp; omega) ?_)
    intro v' w3 hown3 hgrow _;have hb3:=(HE.out.2.alloc hbw (.cells #[.int .u8 (c.toNat:Int)] 5)).grown hgrow (by simp; omega) (fun k hk=>(HE.out.1.lt k hk).1);have HE3:Hid (Enq l w w3 v' (n+1)):=Y1 ⟨by rw[HSE.out,Z1K,List.length_append]; exact hown3,hb3⟩;clear hown3 hgrow hb3;go_wp2
    go_roundw
    case rel=>exact ⟨n+1,by go_num,by omega,HE3⟩
    case measure=>simp[intOf]; omega}}
  {have hi1: ¬(n:Int) < (l.length:Int):=by omega
   have HF:Hid (Lex.sow l n++ [34]=34::(l.flatMap Lex.escB++ [34])):=Y1 (by unfold Lex.sow; rw[List.take_of_length_le (by omega)]; rfl)
   go_wp2_with (at_builtin; refine wpList_append_own _ rfl _ _ 137 rfl w.heap.size 5 i0 (.int .u8 0) 1 1 Tryz.underlying137 hi hz0 hz1 hz2 rfl (by decide) _ _ _ rfl (HE.out.1.alloc _) ⟨wr.heap.size,0,none⟩ 1 1 [.int .u8 34] rfl rfl (World.news_of_block (heap_alloc_new wr _)) (by intro u hu; simp at hu; subst hu; rfl) (by unfold maxLen; omega) (by omega) (by simp; omega) ?_)
   intro v' w3 hown3 hgrow _;have hb3:=(HE.out.2.alloc hbw (.cells #[.int .u8 34] 5)).grown hgrow (by simp; omega) (fun k hk=>(HE.out.1.lt k hk).1);have ho:w3.ownsRow w.heap.size 5 1 v' ((Lex.sow l n).length+1) (Lib.byteCells (34::(l.flatMap Lex.escB++ [34]))):=by rw[<-HF.out,Z1K]; exact hown3
   have hcv:=Z39 ho;have HB3:=Y1 hb3;clear hown3 hgrow hb3 ho;go_wp2;go_ret;exact ⟨rfl,HB3.out⟩}
theorem Z7B (k:Int) (l:List UInt8) (hl:l.length<=1000000) (a:Int) (w:World):
 Y9 198 #[.agg #[.int .i64 k,.string ⟨l.toArray⟩,.int .i64 a]] w (.string ⟨(Lex.written ⟨k,l⟩).toArray⟩):=by
 have HB0:=Y1 (Z01 w (.cells #[.int .i64 k,.string ⟨l.toArray⟩,.int .i64 a] 54));have HX:Hid (BoxT (w.alloc (.cells #[.int .i64 k,.string ⟨l.toArray⟩,.int .i64 a] 54)) w.heap.size k l):=Y1 ⟨by simp[go_sem],by simp[go_sem]⟩;by_cases h4:k=4
 {subst h4;have HE:Hid (Lex.written ⟨4,l⟩=34::(l.flatMap Lex.escB++ [34])):=Y1 (by unfold Lex.written; rw[if_pos rfl]);go_enter Tryz.func198,Tryz.ntmps198
  go_wp2_with fail
  generalize hW:w.alloc (.cells #[.int .i64 4,.string ⟨l.toArray⟩,.int .i64 a] 54)=W0 at HX HB0 ⊢;clear hW;obtain ⟨x0,x1⟩:=HX.out
  go_wp2_with fail
  refine (Z8J l hl _).mono ?_;rintro e w2 ⟨rfl,hb2⟩;go_wp2;go_ret;exact ⟨by rw[HE.out]; rfl,Z00 HB0.out hb2⟩}
 {have hk: (k==4)=false:=by simp[h4]
  have HE:Hid (Lex.written ⟨k,l⟩=l):=Y1 (by unfold Lex.written; rw[if_neg h4]);go_enter Tryz.func198,Tryz.ntmps198
  go_wp2_with fail
  generalize hW:w.alloc (.cells #[.int .i64 k,.string ⟨l.toArray⟩,.int .i64 a] 54)=W0 at HX HB0 ⊢;clear hW;obtain ⟨x0,x1⟩:=HX.out;go_wp2;go_ret;exact ⟨by rw[HE.out]; rfl,HB0.out⟩}
end
end Go.Proofs.YtkncdbaoaeeoiaaGreatDoor
namespace Go.Proofs
open Go.Shelf
def Tryz.lays166_ren:Go.Shelf.Ren:=⟨fun | 166=>201 | 240=>211 | 276=>220 | n=>n,fun | 0=>0 | 3=>3 | 4=>4 | 9=>9 | 20=>20 | 37=>137 | 70=>216 | 72=>218 | 75=>184 | 164=>241 | 5=>5 | 80=>141 | n=>n,fun | n=>n⟩
theorem Tryz.lays166:Go.Proofs.Lays.n166 Tryz.prog Tryz.lays166_ren:= {
 mixed:=by kernel_rfl
 f166:=Tryz.func201.trans (congrArg some (by kernel_rfl))
 f240:=Tryz.func211.trans (congrArg some (by kernel_rfl))
 f276:=Tryz.func220.trans (congrArg some (by kernel_rfl))
 t0:=Tryz.underlying0
 a0:=Tryz.isAgg0
 z0:=Tryz.sizeOf0
 v0:=Tryz.zeroValue0
 t3:=Tryz.underlying3
 a3:=Tryz.isAgg3
 z3:=Tryz.sizeOf3
 v3:=Tryz.zeroValue3
 t4:=Tryz.underlying4
 a4:=Tryz.isAgg4
 z4:=Tryz.sizeOf4
 v4:=Tryz.zeroValue4
 t9:=Tryz.underlying9
 a9:=Tryz.isAgg9
 z9:=Tryz.sizeOf9
 v9:=Tryz.zeroValue9
 t20:=Tryz.underlying20
 a20:=Tryz.isAgg20
 z20:=Tryz.sizeOf20
 v20:=Tryz.zeroValue20
 t37:=Tryz.underlying137
 a37:=Tryz.isAgg137
 z37:=Tryz.sizeOf137
 v37:=Tryz.zeroValue137
 t70:=Tryz.underlying216
 a70:=Tryz.isAgg216
 z70:=Tryz.sizeOf216
 v70:=Tryz.zeroValue216
 t72:=Tryz.underlying218
 a72:=Tryz.isAgg218
 z72:=Tryz.sizeOf218
 v72:=Tryz.zeroValue218
 t75:=Tryz.underlying184
 a75:=Tryz.isAgg184
 z75:=Tryz.sizeOf184
 v75:=Tryz.zeroValue184
 t164:=Tryz.underlying241
 a164:=Tryz.isAgg241
 z164:=Tryz.sizeOf241
 v164:=Tryz.zeroValue241 }
theorem Tryz.x166:Builder.Extra Tryz.prog Tryz.lays166_ren:= {
 sizeBuilder:=by kernel_rfl
 liesBuilder:=by kernel_rfl
 t5:=Tryz.underlying5
 a5:=Tryz.isAgg5
 z5:=Tryz.sizeOf5
 v5:=Tryz.zeroValue5
 infoByte:=by kernel_rfl
 cellsByte:=by kernel_rfl
 sizeByte:=by kernel_rfl
 neB5:=by decide }
def Tryz.lays169_ren:Go.Shelf.Ren:=⟨fun | 169=>202 | n=>n,fun | 0=>0 | 3=>3 | 9=>9 | 37=>137 | 70=>216 | 72=>218 | 127=>194 | 5=>5 | n=>n,fun | n=>n⟩
theorem Tryz.lays169:Go.Proofs.Lays.n169 Tryz.prog Tryz.lays169_ren:= {
 mixed:=by kernel_rfl
 f169:=Tryz.func202.trans (congrArg some (by kernel_rfl))
 t0:=Tryz.underlying0
 a0:=Tryz.isAgg0
 z0:=Tryz.sizeOf0
 v0:=Tryz.zeroValue0
 t3:=Tryz.underlying3
 a3:=Tryz.isAgg3
 z3:=Tryz.sizeOf3
 v3:=Tryz.zeroValue3
 t9:=Tryz.underlying9
 a9:=Tryz.isAgg9
 z9:=Tryz.sizeOf9
 v9:=Tryz.zeroValue9
 t37:=Tryz.underlying137
 a37:=Tryz.isAgg137
 z37:=Tryz.sizeOf137
 v37:=Tryz.zeroValue137
 t70:=Tryz.underlying216
 a70:=Tryz.isAgg216
 z70:=Tryz.sizeOf216
 v70:=Tryz.zeroValue216
 t72:=Tryz.underlying218
 a72:=Tryz.isAgg218
 z72:=Tryz.sizeOf218
 v72:=Tryz.zeroValue218
 t127:=Tryz.underlying194
 a127:=Tryz.isAgg194
 z127:=Tryz.sizeOf194
 v127:=Tryz.zeroValue194 }
theorem Tryz.x169:Builder.Extra Tryz.prog Tryz.lays169_ren:= {
 sizeBuilder:=by kernel_rfl
 liesBuilder:=by kernel_rfl
 t5:=Tryz.underlying5
 a5:=Tryz.isAgg5
 z5:=Tryz.sizeOf5
 v5:=Tryz.zeroValue5
 infoByte:=by kernel_rfl
 cellsByte:=by kernel_rfl
 sizeByte:=by kernel_rfl
 neB5:=by decide }
def Tryz.lays170_ren:Go.Shelf.Ren:=⟨fun | 170=>200 | n=>n,fun | 70=>216 | 3=>3 | 0=>0 | 72=>218 | 37=>137 | 5=>5 | n=>n,fun | n=>n⟩
theorem Tryz.lays170:Go.Proofs.Lays.n170 Tryz.prog Tryz.lays170_ren:= {
 mixed:=by kernel_rfl
 f170:=Tryz.func200.trans (congrArg some (by kernel_rfl))
 t0:=Tryz.underlying0
 a0:=Tryz.isAgg0
 z0:=Tryz.sizeOf0
 v0:=Tryz.zeroValue0
 t3:=Tryz.underlying3
 a3:=Tryz.isAgg3
 z3:=Tryz.sizeOf3
 v3:=Tryz.zeroValue3
 t37:=Tryz.underlying137
 a37:=Tryz.isAgg137
 z37:=Tryz.sizeOf137
 v37:=Tryz.zeroValue137
 t70:=Tryz.underlying216
 a70:=Tryz.isAgg216
 z70:=Tryz.sizeOf216
 v70:=Tryz.zeroValue216
 t72:=Tryz.underlying218
 a72:=Tryz.isAgg218
 z72:=Tryz.sizeOf218
 v72:=Tryz.zeroValue218 }
section
open Go.RowKit
theorem Tryz.builder_write (B b:Nat) (bs:List Value) (s:ByteArray) (w:World) (h:Lib.IsBuilder 218 5 B b bs w) (hlen:bs.length+s.size<=140737488355328) (hBw:B<=w.heap.size):
 Calls Tryz.prog 201 #[.pointer (some ⟨b,0,none⟩),.string s] w fun e w'=>e= .returned (.tuple #[.int .i64 s.size,.nilIface])/\(Lib.BuilderAt 218 5 B b (.pointer (some ⟨b,0,none⟩)) (bs++Lib.strCells s) w'/\Below B w w'):=
 Any.Builder_WriteString Tryz.lays166 Tryz.x166 B b bs s w h hlen hBw
theorem Tryz.builder_text (B b:Nat) (l:List UInt8) (w:World) (h:Lib.IsBuilder 218 5 B b (Lib.byteCells l) w) (hBw:B<=w.heap.size):
 Calls Tryz.prog 202 #[.pointer (some ⟨b,0,none⟩)] w fun e w'=>e= .returned (.string ⟨l.toArray⟩)/\Below B w w':=
 Any.Builder_String_any Tryz.lays169 Tryz.x169 B b l w h hBw
theorem Tryz.builder_len (B b:Nat) (bs:List Value) (w:World) (h:Lib.IsBuilder 218 5 B b bs w):
 Calls Tryz.prog 200 #[.pointer (some ⟨b,0,none⟩)] w fun e w'=>e= .returned (.int .i64 bs.length)/\w'=w:=
 Any.Builder_Len Tryz.lays170 B b bs w h
end
end Go.Proofs
namespace Lex
theorem Z4X {s:List UInt8} {x:Int} {k:Nat} (h:scanR s= .error (x,k)):x≠0:=by
 unfold scanR at h;split at h
 {obtain ⟨rfl,_⟩:=Prod.mk.inj (Except.error.inj h); decide}
 {split at h
  {rename_i y hy
   obtain ⟨e,j⟩:=y;obtain ⟨rfl,_⟩:=Prod.mk.inj (Except.error.inj h);rcases (Z1d _ _ _ _ _ (Nat.le_refl _) hy).2 with h | h <;> rw[h] <;> decide}
  {cases h}}
theorem Z4Y (t:Tok): (written t).length<=2 * t.text.length+2:=by
 unfold written;split
 {have:=Z8I t.text;simp only[List.length_cons,List.length_append,List.length_nil]; omega}
 {omega}
theorem ZeD {t:Tok} (h:t=endTok\/good t): ∃x m,scanR (written t)= .ok (x::m)/\x.1=t:=by
 rcases h with rfl | h
 {exact ⟨_,_,Zex,rfl⟩}
 {exact ⟨_,_,Zdi h,rfl⟩}
end Lex
namespace Go.Proofs.YtkncdbaoaeeoiaaGreatDoor
open Go.RowKit
theorem Zdo (W:World) (b:Tk):TkAt (W.alloc (.cells #[.int .i64 b.t.kind,.string ⟨b.t.text.toArray⟩,.int .i64 b.at_] 54)) W.heap.size 0 b:=
 ⟨by simp[go_sem],by simp[go_sem],by simp[go_sem]⟩
theorem Z9Z (t:Lex.Tok) (a:Int) (ht:t.text.length<=1000000) (b:Bool) (hb:b=true ↔ (t=Lex.endTok\/Lex.good t)) (w:World) (hg:Globs w):
 Y9 199 #[.string ⟨(Lex.written t).toArray⟩,.agg #[.int .i64 t.kind,.string ⟨t.text.toArray⟩,.int .i64 a]] w (.bool b):=by
 have hwl:=Lex.Z4Y t;have hb0:=Z01 w (.cells #[.int .i64 t.kind,.string ⟨t.text.toArray⟩,.int .i64 a] 54);have HX:=Y1 (Zdo w ⟨t,a⟩);have HXL:Hid (w.heap.size < (w.alloc (.cells #[.int .i64 t.kind,.string ⟨t.text.toArray⟩,.int .i64 a] 54)).heap.size):=Y1 (by simp);have HG:=Y1 (hg.next hb0);have HB0:=Y1 hb0;have HBB:=Y1 hb;have HW:=Y1 (Z3w (Lex.written t) (by omega));have hE:=fun h=>Lex.ZeD (t:=t) h;have hI:=fun x m h1 h2=>Lex.Z8H (t:=t) (x:=x) (m:=m) h1 h2;have hN:=fun x k h=>Lex.Z4X (s:=Lex.written t) (x:=x) (k:=k) h;have hne:Lex.scanR (Lex.written t)≠ .ok []:=fun h=>by
  unfold Lex.scanR at h;split at h
  {cases h}
  {split at h
   {cases h}
   {simp at h}}
 obtain ⟨s,hs⟩: ∃s,s=Lex.written t:=⟨_,rfl⟩;rw[<-hs] at HW hE hI hN hne;rw[<-hs];clear hs hb0 hb hg hwl;go_enter Tryz.func199,Tryz.ntmps199
 go_wp2_with fail
 generalize hW:w.alloc (.cells #[.int .i64 t.kind,.string ⟨t.text.toArray⟩,.int .i64 a] 54)=W0 at HX HXL HG HB0 ⊢;clear hW;have HHE:=Y1 hE;have HHI:=Y1 hI;have HHN:=Y1 hN;have HNE:=Y1 hne;clear hE hI hN hne
 go_wp2_with fail
 refine (HW.out _ HG.out).mono ?_;rintro e w2 ⟨A,cap,l,a1,b1,rfl,hown,hb2,hcase⟩;have HB2:=Y1 (Z00 HB0.out hb2);have HX2:=Y1 (HX.out.keep HXL.out hb2);have hx2:=hb2.size;have hxl2:w.heap.size < w2.heap.size:=Nat.lt_of_lt_of_le HXL.out hx2;clear hb2 HX HB0;cases hq:Lex.scanR s with
 | error x=>
  obtain ⟨x,k⟩:=x;rw[hq] at hcase;obtain ⟨rfl,rfl,rfl⟩:=hcase;have hx0:=HHN.out _ _ hq;have hxd: (a1==0)=false:=by simpa using hx0
  have HF:Hid (b=false):=Y1 (by
   cases b with
   | false=>rfl
   | true=>
    obtain ⟨y,m,h,_⟩:=HHE.out (HBB.out.1 rfl);rw[hq] at h; cases h)
  clear hq hx0 hown
  go_wp2_with fail
  go_quiet (fail)
  go_wp2;go_ret;exact ⟨by rw[HF.out]; rfl,Z0b (Z03 HB2.out _) _⟩
 | ok m=>
  cases m with
  | nil=>exact absurd hq HNE.out
  | cons y m=>
   rw[hq] at hcase;obtain ⟨rfl,rfl,rfl⟩:=hcase;obtain ⟨y,j⟩:=y;have hlen: (tkOf ((y,j)::m)).length=m.length+1:=by rw[Z1D]; rfl
   obtain ⟨g1,cap1,hv,_,hg1⟩:=hown.form (by rw[hlen]; omega);obtain ⟨hA,hcap⟩:A=some ⟨g1,0,none⟩/\cap=cap1:=by
    simp at hv;exact hv
   subst hA;have k0:w2.cell? ⟨g1,0,none⟩=some (.int .i64 y.kind):=(hown.cellAt 0 (by rw[hlen]; omega)).trans rfl;have k1:w2.cell? ⟨g1,1,none⟩=some (.string ⟨y.text.toArray⟩):=(hown.cellAt 1 (by rw[hlen]; omega)).trans rfl;obtain ⟨x0,x1,_⟩:=HX2.out;simp only[Nat.zero_add] at x1;rw[hlen];have hl1: (0:Int) < ((m.length+1:Nat):Int):=by omega
   have hl2:0 < m.length+1:=by omega
   cases e0: (y.kind==t.kind)
   {have HF:Hid (b=false):=Y1 (by
     cases b with
     | false=>rfl
     | true=>
      obtain ⟨z,m2,h,h2⟩:=HHE.out (HBB.out.1 rfl);rw[hq] at h;obtain ⟨rfl,_⟩:=List.cons.inj (Except.ok.inj h);simp only at h2;rw[h2] at e0; simp at e0)
    clear hq hown hv hlen
    go_wp2_with fail
    go_quiet (fail)
    go_wp2;go_ret;exact ⟨by rw[HF.out]; rfl,Z0b (Z03 HB2.out _) _⟩}
   {cases e1: (y.text==t.text)
    {have HF:Hid (b=false):=Y1 (by
      cases b with
      | false=>rfl
      | true=>
       obtain ⟨z,m2,h,h2⟩:=HHE.out (HBB.out.1 rfl);rw[hq] at h;obtain ⟨rfl,_⟩:=List.cons.inj (Except.ok.inj h);simp only at h2;rw[h2] at e1; simp at e1)
     clear hq hown hv hlen
     go_wp2_with fail
     go_quiet (fail)
     go_wp2;go_ret;exact ⟨by rw[HF.out]; rfl,Z0b (Z03 HB2.out _) _⟩}
    {have HF:Hid (b=true):=Y1 (HBB.out.2 (HHI.out (y,j) m hq (by
      simp only[beq_iff_eq] at e0 e1;cases t; cases y;simp only at e0 e1;rw[e0,e1])))
     clear hq hown hv hlen
     go_wp2_with fail
     go_quiet (fail)
     go_wp2;go_ret;exact ⟨by rw[HF.out]; rfl,Z0b (Z03 HB2.out _) _⟩}}
end Go.Proofs.YtkncdbaoaeeoiaaGreatDoor
namespace Pso
open Go.Proofs.YtkncdbaoaeeoiaaGreatDoor (Tk tkOf)
open Prs (Flt R)
def close {α:Type} (l:List Tk) (r:R α):Except Flt α:=match r with
 | .error f=> .error f
 | .ok y=>if y.2+1=l.length then .ok y.1 else .error (90,(Prs.look l y.2).at_)
def rdText {α:Type} (s:List UInt8) (whole:List Tk->St->α×St):Except Flt α:=
 match Lex.scanR s with
 | .error x=> .error (x.1,(x.2:Int))
 | .ok m=>close (tkOf m) (rd (tkOf m) 0 (whole (tkOf m)))
section
variable {α : Type} {s : List UInt8} {whole : List Tk -> St -> α × St}
include α s whole
theorem rdText_err {x:Int} {k:Nat} (h:Lex.scanR s= .error (x,k)):rdText s whole= .error (x,(k:Int)):=by
 unfold rdText; rw[h]
theorem rdText_ok {m:List (Lex.Tok×Nat)} (h:Lex.scanR s= .ok m):rdText s whole=close (tkOf m) (rd (tkOf m) 0 (whole (tkOf m))):=by
 unfold rdText; rw[h]
end
section
variable {α : Type} {l : List Tk} {whole : List Tk -> St -> α × St}
include α l whole
theorem rd_lt (hw: ∀σ,Pse.Ok l σ->Pse.To l σ (whole l σ).2) (hE:Pse.Ends l) {y:α×Nat} (h:rd l 0 (whole l)= .ok y):y.2 < l.length:=by
 have h0:=(hw (0,(0,0)) ⟨hE,Nat.zero_le _,fun h=>absurd rfl h,fun _=>hE.1⟩).1;unfold rd at h;split at h
 {cases h}
 {split at h
  {cases h}
  {split at h
   {next hf=>
    cases h;exact h0.2.2.2 hf}
   {cases h}}}
theorem rd_err {a:Int} {f:Flt} (h:rd l a (whole l)= .error f):f.1≠0:=by
 unfold rd at h;split at h
 {cases h; decide}
 {split at h
  {cases h; decide}
  {split at h
   {cases h}
   {next hf=>cases h; exact hf}}}
end
end Pso
namespace Go.Proofs.YtkncdbaoaeeoiaaGreatDoor
open Go.RowKit Tms
open Shp (Sh)
open Pso (St Ok)
open Prs (sign R Flt)
def TySaid (r:Except Flt Sh) (w:World) (e:Ending) (w':World):Prop:=
 Below w.heap.size w w'/\match r with
 | .ok y=> ∃x:ES,e= .returned (.tuple #[valS x,.agg #[.int .i64 0,.int .i64 0]])/\x.Is w'/\w.heap.size<=x.lo/\x.t=y
 | .error f=>e= .returned (.tuple #[.agg #[.int .i64 0,.string ⟨#[]⟩,.string ⟨#[]⟩,.slice none 0 0,.slice none 0 0],.agg #[.int .i64 f.1,.int .i64 f.2]])
def RdFn (fn:Nat) (whole:List Tk->St->Sh×St):Prop:= ∀(A:Option Addr) (c:Nat) (l:List Tk),Scanned l-> ∀(w:World),Tks w w.heap.size A l->Gl w->
 Calls Tryz.prog fn #[.slice A l.length c,.int .i64 0] w (TyOut (Pso.rd l 0 (whole l)) w)
theorem Z2o {F:List Nat} {w V E:World} (hB:Below w.heap.size w V) (hF: ∀b∈F,w.heap.size<=b) (hu:UpT F V E):Below w.heap.size w E:=((Z05 (F:=F) hB).trans hu).low hF
theorem ZfC {F:List Nat} {V E:World} {x:ES} (hx:x.Is V) (hF: ∀b∈F,b < x.lo) (hu:UpT F V E):x.Is E:=New.up hx hu (fun b hb=>Or.inl (hF b hb))
theorem Z6G (s:List UInt8) (hs:s.length<=9223372036854775807) (fn:Nat) (hen: ∀args W,(callFunc fn args).run Tryz.prog W= .ok (.enter fn args) W) (whole:List Tk->St->Sh×St) (hR:RdFn fn whole) (hw: ∀l σ,Pse.Ok l σ->Pse.To l σ (whole l σ).2) (w:World) (hG:Gl w):
 Calls Tryz.prog 23 #[.string ⟨s.toArray⟩,.func (.func fn) #[] #[]] w (TySaid (Pso.rdText s whole) w):=by
 have HB:=Y1 (show Below w.heap.size w (bW w) from Z03 (Z0V w) _);have HZ:=Y1 (show Z1s (bW w) w.heap.size from (Z57 w).next (Z01 _ _));have HX:=Y1 (show Box2 (bW w) (w.heap.size+1) 0 0 from (Z69 w).next (Z01 _ _));have HN:=Y1 (ZaB w);have HG:=Y1 (hG.next HB.out);have HS:=Y1 (Z3w s hs (bW w) HG.out.g);have HRD:=Y1 hR;have HWW:=Y1 hw;clear hR hw hG;cases hm:Lex.scanR s with
 | error xk=>
  obtain ⟨xx,k⟩:=xk;rw[Pso.rdText_err hm];have e1: (xx !=0)=true:=by simpa using Lex.Z4X hm
  have HM:=Y1 hm;clear hm;go_enter Tryz.func23,Tryz.ntmps23
  go_wp2_with fail
  change Calls _ _ _ (bW w) _;refine HS.out.mono ?_;generalize bW w=W0 at HB HZ HX HN HG HS ⊢;rintro e W1 hv;obtain ⟨A,cap,rfl,hb⟩:=Z6j hv HM.out;have hbl:=Z01 W1 (.cells #[.int .i64 xx,.int .i64 (k:Int)] 29);have HB1:=Y1 (Z00 (Z00 HB.out hb) hbl);obtain ⟨z0,⟨z1,z2,z3,z4,z5⟩,zf1,zf2,zf3,zf4,zf5⟩:=(HZ.out.next hb).next hbl;obtain ⟨x0,x1,x2,xf1,xf2⟩:=(HX.out.next hb).next hbl;obtain ⟨n0,⟨n1,n2,n3,n4,n5⟩,nf1,nf2,nf3,nf4,nf5⟩:=(HN.out.next hb).next hbl;obtain ⟨b0,b1,b2,bf1,bf2⟩:=Z0L W1 xx (k:Int);have hN:=HN.out.1;have hsz:=hb.size;have g1:w.heap.size≠W1.heap.size:=by omega
  have g2:w.heap.size+1≠W1.heap.size:=by omega
  have g3:w.heap.size+1+1≠W1.heap.size:=by omega
  clear hN hsz;clear hv hb hbl HB HZ HX HN HG HS HM HRD HWW
  go_wp2_with fail
  go_region
  all_goals go_wp2
  all_goals refine bodyPost_ret (v:= .tuple #[.agg #[.int .i64 0,.string ⟨#[]⟩,.string ⟨#[]⟩,.slice none 0 0,.slice none 0 0],.agg #[.int .i64 xx,.int .i64 (k:Int)]]) (by simp[results,Tryz.results23,go_sem,z0,x0,z1,z2,z3,z4,z5,x1,x2]) rfl ?_
  all_goals refine ⟨Z0U HB1.out ?_,rfl⟩
  all_goals repeat' (with_reducible first | refine UpT.drew ?_ | refine UpT.set ?_ _ (Or.inr ?_) _ | exact UpT.refl _ _)
  all_goals simp
 | ok m=>
  rw[Pso.rdText_ok hm];have HSC:=Y1 (scanned hm);have HM:=Y1 hm;clear hm;obtain ⟨r,hr⟩: ∃r,r=Pso.rd (tkOf m) 0 (whole (tkOf m)):=⟨_,rfl⟩;have HRR:=Y1 hr;rw[<-hr];have HLT:Hid (∀y,r= .ok y->y.2 < (tkOf m).length):=Y1 (fun y hy=>Pso.rd_lt (HWW.out (tkOf m)) HSC.out.ends (by rw[<-hr]; exact hy));have HER:Hid (∀f,r= .error f->f.1≠0):=Y1 (fun f hf=>Pso.rd_err (by rw[<-hr]; exact hf));clear hr;have HL1:=Y1 HSC.out.len;obtain ⟨q,hq⟩: ∃q:Except Flt Sh,q=Pso.close (tkOf m) r:=⟨_,rfl⟩;have HQ:=Y1 hq;rw[<-hq];clear hq;obtain ⟨l,hl⟩: ∃l,l=tkOf m:=⟨_,rfl⟩;rw[<-hl] at HSC HRR HLT HQ HL1;have HLE:=Y1 hl;have hll:=HL1.out;clear hl;go_enter Tryz.func23,Tryz.ntmps23
  go_wp2_with fail
  change Calls _ _ _ (bW w) _;refine HS.out.mono ?_;generalize bW w=W0 at HB HZ HX HN HG HS ⊢;rintro e W1 hv;obtain ⟨A,cap,rfl,htk,hown,hb⟩:=Z4W hv HM.out;rw[<-HLE.out] at htk ⊢;have hbl:=Z01 W1 (.cells Yc 29);have HB2:=Y1 (Z00 (Z00 HB.out hb) hbl);have HZ2:=Y1 ((HZ.out.next hb).next hbl);have HX2:=Y1 ((HX.out.next hb).next hbl);have HN2:=Y1 ((HN.out.next hb).next hbl);have HK2:=Y1 (Z0L W1 0 0);have HT2:=Y1 (htk.on hbl);have HTK:=Y1 htk;have HBL:=Y1 hbl;have HOG:Hid (∀g off,A=some ⟨g,off,none⟩->W0.heap.size<=g):=Y1 (fun g off hA=>(Z21 hown g (by rw[hA]; rfl)).1);have HW0:Hid (w.heap.size+1+1 < W0.heap.size):=Y1 HN.out.1;have HG2:=Y1 ((HG.out.next hb).next hbl);obtain ⟨b0,b1,b2,bf1,bf2⟩:=HK2.out;have hN:=HN.out.1;have hsz:=hb.size;have g1:w.heap.size≠W1.heap.size:=by omega
  have g2:w.heap.size+1≠W1.heap.size:=by omega
  have g3:w.heap.size+1+1≠W1.heap.size:=by omega
  have HF:Hid (∀b∈ [w.heap.size,w.heap.size+1,W1.heap.size],w.heap.size<=b):=Y1 (by intro b hb; simp at hb; omega);clear hN hsz hv htk hown hb hbl HB HZ HX HN HG HS HM
  go_wp2_with fail
  generalize W1.alloc (.cells Yc 29)=W2 at HB2 HZ2 HX2 HN2 HK2 HT2 HG2 HBL b0 b1 b2 bf1 bf2 ⊢;refine (HRD.out A cap l HSC.out W2 HT2.out HG2.out).mono ?_;rw[<-HRR.out];rintro e W3 ⟨hb3,ho⟩;clear b0 b1 b2 bf1 bf2;cases r with
  | error f=>
   obtain rfl:=ho;have hf1: (f.1 !=0)=true:=by simpa using HER.out f rfl
   have HQ2:Hid (q= .error f):=Y1 HQ.out;have hbl:=Z01 W3 (.cells Yb 43);have HB3:=Y1 (Z00 (Z00 HB2.out hb3) hbl);obtain ⟨z0,⟨z1,z2,z3,z4,z5⟩,zf1,zf2,zf3,zf4,zf5⟩:=(HZ2.out.next hb3).next hbl;obtain ⟨x0,x1,x2,xf1,xf2⟩:=(HX2.out.next hb3).next hbl;obtain ⟨n0,⟨n1,n2,n3,n4,n5⟩,nf1,nf2,nf3,nf4,nf5⟩:=(HN2.out.next hb3).next hbl;obtain ⟨b0,b1,b2,bf1,bf2⟩:=(HK2.out.next hb3).next hbl;have hN:=HN2.out.1;have hsz:=hb3.size;have hK:=HK2.out.1;have g4:w.heap.size≠W3.heap.size:=by omega
   have g5:w.heap.size+1≠W3.heap.size:=by omega
   have g6:w.heap.size+1+1≠W3.heap.size:=by omega
   have g7:W1.heap.size≠W3.heap.size:=by omega
   clear hN hsz hK;clear hb3 hbl HRD HWW HSC HRR HLT HER HQ HB2 HZ2 HX2 HN2 HK2 HT2 HG2
   go_wp2_with fail
   go_region
   all_goals go_wp2
   all_goals refine bodyPost_ret (v:= .tuple #[.agg #[.int .i64 0,.string ⟨#[]⟩,.string ⟨#[]⟩,.slice none 0 0,.slice none 0 0],.agg #[.int .i64 f.1,.int .i64 f.2]]) (by simp[results,Tryz.results23,go_sem,valS,z0,x0,z1,z2,z3,z4,z5,x1,x2,g1,g2,g3]) rfl ?_
   all_goals rw[HQ2.out]
   all_goals refine ⟨Z2o (F:= [w.heap.size,w.heap.size+1,W1.heap.size]) HB3.out HF.out ?_,rfl⟩
   all_goals repeat' (with_reducible first | refine UpT.drew ?_ | refine UpT.set ?_ _ (Or.inr ?_) _ | exact UpT.refl _ _)
   all_goals simp
  | ok y=>
   obtain ⟨x,rfl,hi,hlo,ht⟩:=ho;obtain ⟨ys,j⟩:=y;have hj:j < l.length:=HLT.out _ rfl;simp only[valS];dsimp only at ht ⊢;have hbl:=Z01 W3 (.cells (Y8 x.t x.q) 43);have HB3:=Y1 (Z00 (Z00 HB2.out hb3) hbl);obtain ⟨z0,⟨z1,z2,z3,z4,z5⟩,zf1,zf2,zf3,zf4,zf5⟩:=(HZ2.out.next hb3).next hbl;obtain ⟨x0,x1,x2,xf1,xf2⟩:=(HX2.out.next hb3).next hbl;obtain ⟨n0,⟨n1,n2,n3,n4,n5⟩,nf1,nf2,nf3,nf4,nf5⟩:=(HN2.out.next hb3).next hbl;obtain ⟨b0,b1,b2,bf1,bf2⟩:=(HK2.out.next hb3).next hbl;have hN:=HN2.out.1;have hsz:=hb3.size;have hK:=HK2.out.1;have g4:w.heap.size≠W3.heap.size:=by omega
   have g5:w.heap.size+1≠W3.heap.size:=by omega
   have g6:w.heap.size+1+1≠W3.heap.size:=by omega
   have g7:W1.heap.size≠W3.heap.size:=by omega
   clear hN hsz hK;have HI:=Y1 (show x.Is _ from New.below hi hbl);have HLO:Hid (∀b∈ [w.heap.size,w.heap.size+1,W1.heap.size],b < x.lo):=Y1 (by have h1:=HK2.out.1; have h2:=HN2.out.1; intro b hb; simp at hb; omega);have HWL:Hid (w.heap.size<=x.lo):=Y1 (by have h2:=HN2.out.1; omega);have HT:=Y1 ht;have HT3:=Y1 (HTK.out.same (fun b hb=>(Z05 (F:= []) (Z00 (Z00 HBL.out hb3) hbl)).same hb (by simp)));clear hb3 hbl hi hlo ht HRD HWW HSC HRR HLT HER HB2 HZ2 HX2 HN2 HK2 HT2 HG2;by_cases hje:j+1=l.length
   {have HQ2:Hid (q= .ok ys):=Y1 (by rw[HQ.out]; exact if_pos hje);have e5: ((j:Int) !=(l.length:Int) - 1)=false:=by simp; omega
    go_wp2_with fail
    all_goals refine bodyPost_ret (v:= .tuple #[valS x,.agg #[.int .i64 0,.int .i64 0]]) (by simp[results,Tryz.results23,go_sem,valS,z0,x0,z1,z2,z3,z4,z5,x1,x2,g1,g2,g3]) rfl ?_
    all_goals rw[HQ2.out]
    all_goals refine ⟨Z2o (F:= [w.heap.size,w.heap.size+1,W1.heap.size]) HB3.out HF.out ?_,x,rfl,ZfC HI.out HLO.out ?_,HWL.out,HT.out⟩
    all_goals repeat' (with_reducible first | refine UpT.drew ?_ | refine UpT.set ?_ _ (Or.inr ?_) _ | exact UpT.refl _ _)
    all_goals simp}
   {have HQ2:Hid (q= .error (90,(Prs.look l j).at_)):=Y1 (by rw[HQ.out]; exact if_neg hje);have e5: ((j:Int) !=(l.length:Int) - 1)=true:=by simp; omega
    rcases HT3.out with h0 | ⟨g,off,hA,hlt,hc⟩
    {omega}
    {have k1:g≠W1.heap.size:=by omega
     have k0:=HOG.out g off hA;have k2:g≠w.heap.size:=by have:=HW0.out; omega
     have k3:g≠w.heap.size+1:=by have:=HW0.out; omega
     obtain ⟨_,_,t2⟩:=hc j hj;rw[hA];have hla: (Prs.look l j).at_=(l[j]'hj).at_:=by rw[Prs.look_in hj]
     rw[hla] at HQ2;clear hc HT3 HTK HBL HOG HW0 k0 hlt hA HI HLO HWL HT HQ hla
     go_wp2_with fail
     go_region
     all_goals go_wp2
     all_goals refine bodyPost_ret (v:= .tuple #[.agg #[.int .i64 0,.string ⟨#[]⟩,.string ⟨#[]⟩,.slice none 0 0,.slice none 0 0],.agg #[.int .i64 90,.int .i64 (l[j]'hj).at_]]) (by simp[results,Tryz.results23,go_sem,valS,z0,x0,z1,z2,z3,z4,z5,x1,x2,g1,g2,g3]) rfl ?_
     all_goals rw[HQ2.out]
     all_goals refine ⟨Z2o (F:= [w.heap.size,w.heap.size+1,W1.heap.size]) HB3.out HF.out ?_,rfl⟩
     all_goals repeat' (with_reducible first | refine UpT.drew ?_ | refine UpT.set ?_ _ (Or.inr ?_) _ | exact UpT.refl _ _)
     all_goals simp}}
end Go.Proofs.YtkncdbaoaeeoiaaGreatDoor
namespace Go.Proofs.YtkncdbaoaeeoiaaGreatDoor
section
open Go.RowKit Tms
open Shp (Sh)
open Pso (St Ok)
open Prs (R)
theorem Zdp:RdFn 24 Pso.wholeT:=fun A c l hl w ht hg=>Zbt A c l 0 (fun b hb=>by have:=(hl.tok b hb).1; omega) (by omega) (by have:=hl.len; omega) w ht hg
theorem Z3M (s:List UInt8) (hs:s.length<=9223372036854775807) (w:World) (hG:Gl w):
 Calls Tryz.prog 13 #[.string ⟨s.toArray⟩] w (TySaid (Pso.rdText s Pso.wholeT) w):=by
 have HB:=Y1 (Z0V w);have HZ:=Y1 (Z57 w);have HX:=Y1 (Z69 w);have HC:=Y1 (Z6G s hs 24 (fun _ _=>rfl) Pso.wholeT Zdp (fun l=>Pse.to_wholeT (l:=l)) (aW w) (hG.next (Z0V w)));obtain ⟨r,hr⟩: ∃r,r=Pso.rdText s Pso.wholeT:=⟨_,rfl⟩;rw[<-hr] at HC ⊢;clear hG hr;go_enter Tryz.func13,Tryz.ntmps13
 go_wp2_with fail
 change Calls _ _ _ (aW w) _;refine HC.out.mono ?_;generalize aW w=W0 at HB HZ HX ⊢;rintro e W1 ⟨hb,hm⟩;have HB1:=Y1 (Z00 HB.out hb);have hz:=HZ.out.1;have hx0:=HX.out.1;obtain ⟨z0,⟨z1,z2,z3,z4,z5⟩,zf1,zf2,zf3,zf4,zf5⟩:=HZ.out.next hb;obtain ⟨x0,x1,x2,xf1,xf2⟩:=HX.out.next hb;cases r with
 | ok y=>
  obtain ⟨x,rfl,hi,hlo,ht⟩:=hm;have HI:=Y1 hi;have HLO:Hid (w.heap.size+1+1<=x.lo):=Y1 (by omega);have HT:=Y1 ht;clear hi hlo ht hb HB HZ HX HC;simp only[valS]
  go_wp2_with fail
  all_goals refine bodyPost_ret (v:= .tuple #[valS x,.agg #[.int .i64 0,.int .i64 0]]) (by simp[results,Tryz.results13,go_sem,valS,z0,x0,z1,z2,z3,z4,z5,x1,x2]) rfl ?_
  all_goals refine ⟨Z0U HB1.out ?_,x,rfl,Z8B HI.out HLO.out ?_,by have:=HLO.out; omega,HT.out⟩
  all_goals repeat' (with_reducible first | refine UpT.drew ?_ | refine UpT.set ?_ _ (Or.inr ?_) _ | exact UpT.refl _ _)
  all_goals simp
 | error f=>
  obtain rfl:=hm;clear hb HB HZ HX HC
  go_wp2_with fail
  all_goals refine bodyPost_ret (v:= .tuple #[.agg #[.int .i64 0,.string ⟨#[]⟩,.string ⟨#[]⟩,.slice none 0 0,.slice none 0 0],.agg #[.int .i64 f.1,.int .i64 f.2]]) (by simp[results,Tryz.results13,go_sem,z0,x0,z1,z2,z3,z4,z5,x1,x2]) rfl ?_
  all_goals refine ⟨Z0U HB1.out ?_,rfl⟩
  all_goals repeat' (with_reducible first | refine UpT.drew ?_ | refine UpT.set ?_ _ (Or.inr ?_) _ | exact UpT.refl _ _)
  all_goals simp
end
end Go.Proofs.YtkncdbaoaeeoiaaGreatDoor
