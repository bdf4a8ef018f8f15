/- What the proofs of ParseAround want, part 16. -/
import Derived.Shelf.Strings.Builder1
import Derived.Test.YtkncdbaoaeeoiaaGreatDoorL0n15
set_option linter.unusedVariables false
set_option linter.unusedSimpArgs false
set_option linter.unusedSectionVars false
set_option maxRecDepth 100000
set_option maxHeartbeats 16000000
namespace Pse
section
open Pso
open Prs (look sign no Flt upper tm num)
open Go.Proofs.YtkncdbaoaeeoiaaGreatDoor (Tk)
open Shp (Sh)
open Tms (Tm)
def Ends (l:List Tk):Prop:=0 < l.length/\ ∀i,l.length - 1<=i->(look l i).t.kind=0
theorem sign_lt {l:List Tk} {i:Nat} {s:List UInt8} (h:sign l i s=true): (look l i).t.kind≠0:=by
 unfold sign at h;simp only[Bool.and_eq_true,Bool.or_eq_true,decide_eq_true_eq] at h;rcases h.2 with h | h <;> rw[h] <;> decide
theorem kind_lt {l:List Tk} {i:Nat} (h: (look l i).t.kind≠0): (look l i).t.kind≠0:=h
def Ok (l:List Tk) (σ:St):Prop:=Ends l/\σ.1<=l.length/\(σ.2.1≠0->σ.1=l.length)/\(σ.2.1=0->σ.1 < l.length)
def To (l:List Tk) (σ τ:St):Prop:=Ok l τ/\σ.1<=τ.1/\(σ.2.1≠0->τ.2=σ.2)
section
variable {l : List Tk}
include l
theorem To.trans {a b c:St} (h:To l a b) (k:To l b c):To l a c:=
 ⟨k.1,Nat.le_trans h.2.1 k.2.1,fun hf=>by have:=h.2.2 hf; rw[k.2.2 (by rw[this]; exact hf),this]⟩
theorem To.refl {a:St} (h:Ok l a):To l a a:=⟨h,Nat.le_refl _,fun _=>rfl⟩
theorem to_fail {σ:St} (h:Ok l σ) {e:Int} (d:e≠0) (a:Int):To l σ (fail l σ e a):=by
 have c: (fail l σ e a).2.1≠0:=by
  unfold fail;by_cases b:σ.2.1=0
  {rw[if_pos b]; exact d}
  {rw[if_neg b]; exact b}
 refine ⟨⟨h.1,Nat.le_refl _,fun _=>rfl,fun h0=>absurd h0 c⟩,h.2.1,fun b=> ?_⟩;unfold fail; rw[if_neg b]
theorem to_misfit {σ:St} (h:Ok l σ):To l σ (misfit l σ):=to_fail h (by decide) _
theorem to_next {σ:St} (h:Ok l σ) (b: (look l σ.1).t.kind≠0):To l σ (σ.1+1,σ.2):=by
 have a:σ.1+1 < l.length:=by
  rcases Nat.lt_or_ge σ.1 (l.length - 1) with a | a
  {omega}
  {exact absurd (h.1.2 _ a) b}
 exact ⟨⟨h.1,Nat.le_of_lt a,fun hf=>absurd (h.2.2.1 hf) (by omega),fun _=>a⟩,Nat.le_succ _,fun _=>rfl⟩
theorem to_want {σ:St} (h:Ok l σ) (s:List UInt8):To l σ (want l σ s):=by
 unfold want;split
 {next hs=>exact to_next h (sign_lt hs)}
 {exact to_misfit h}
theorem to_text {σ:St} (h:Ok l σ) {k:Int} (a:k≠0) (b:List UInt8->Bool):To l σ (textOf l σ k b).2:=by
 unfold textOf;split
 {next hs=>
  simp only[Bool.and_eq_true,decide_eq_true_eq] at hs;exact to_next h (kind_lt (by rw[hs.1]; exact a))}
 {exact to_misfit h}
theorem to_name {σ:St} (h:Ok l σ):To l σ (name l σ).2:=to_text h (by decide) _
theorem to_upper {σ:St} (h:Ok l σ):To l σ (upperN l σ).2:=to_text h (by decide) _
theorem to_another {σ:St} (h:Ok l σ) (ns:List (List UInt8)):To l σ (another l σ ns).2:=by
 unfold another;simp only;split
 {exact (to_name h).trans (to_fail (to_name h).1 (by decide) _)}
 {exact to_name h}
end
section
variable {α : Type} {l : List Tk}
def Goes (l:List Tk) (f:St->α->St×α):Prop:= ∀σ a,Ok l σ->To l σ (f σ a).1
theorem to_loop {s:List UInt8} {f:St->α->St×α} (d:Goes l f): ∀n σ a,Ok l σ->To l σ (loop l s f n σ a).1
 | 0,σ,a,h=>To.refl h
 | n+1,σ,a,h=>by
  unfold loop;split
  {next hs=>
   have b:=to_next h (sign_lt hs);have c:=d _ a b.1;exact (b.trans c).trans (to_loop d n _ _ c.1)}
  {exact To.refl h}
theorem to_betw {o s e:List UInt8} {f:St->α->St×α} (g:Goes l f) {σ:St} (a:α) (h:Ok l σ):To l σ (betw l o s e f σ a).1:=by
 unfold betw;have b:=to_want h o;simp only;split
 {next hs=>exact b.trans (to_next b.1 (sign_lt hs))}
 {have c:=g _ a b.1;have d:=to_loop (s:=s) g (l.length+1) _ (f (want l σ o) a).2 c.1;exact ((b.trans c).trans d).trans (to_want d.1 e)}
end
def Ty (l:List Tk) {α:Type} (ty:St->α×St):Prop:= ∀σ,Ok l σ->To l σ (ty σ).2
variable {l : List Tk} {ty : St -> Sh × St} {ex : St -> Tm × St}
theorem goes_fields (h:Ty l ty):Goes l (fieldsR l ty):=fun σ a hs=>by
 have b:=to_another hs a.1;have c:=to_want b.1 [58];exact (b.trans c).trans (h _ c.1)
theorem goes_parts (h:Ty l ty):Goes l (partsR l ty):=fun σ a hs=>h σ hs
theorem to_bodyT (h:Ty l ty):Ty l (bodyT l ty):=fun σ hs=>by
 unfold bodyT;split
 {next hx=>
  have a:=to_next hs (sign_lt hx);have b:=h _ a.1;exact (a.trans b).trans (to_want b.1 _)}
 {split
  {exact to_betw (goes_fields h) _ hs}
  {split
   {exact to_betw (goes_fields h) _ hs}
   {split
    {unfold funT;have a:=to_betw (o:= [40]) (s:= [44]) (e:= [41]) (goes_parts h) [] hs;have b:=to_want a.1 [45,62];exact (a.trans b).trans (h _ b.1)}
    {split
     {unfold othersT;have a:=to_name hs;have b:=to_want a.1 [47];exact (a.trans b).trans (to_upper b.1)}
     {exact to_upper hs}}}}}
theorem to_anyT: ∀n,Ty l (anyT l n)
 | 0=>fun σ h=>to_misfit h
 | n+1=>to_bodyT (to_anyT n)
theorem to_wholeT:Ty l (wholeT l):=fun σ h=>by
 have a:=to_anyT (l.length+1) σ h;unfold wholeT;simp only;split
 {exact a}
 {next hc=>exact a.trans (to_fail a.1 hc _)}
theorem to_begin {σ:St} (h:Ok l σ):To l σ (begin_ l σ):=by
 unfold begin_;split
 {exact to_misfit h}
 {exact To.refl h}
theorem goes_binds:Goes l (bindsR l):=fun σ a hs=>by
 have b:=to_another hs a.1;have c:=to_want b.1 [58];exact (b.trans c).trans (to_wholeT _ c.1)
section
variable (h : Ty l ex)
include h
theorem goes_args:Goes l (argsR l ex):=fun σ a hs=>h σ hs
theorem goes_rec:Goes l (recR l ex):=fun σ a hs=>by
 have b:=to_another hs a.1;have c:=to_want b.1 [61];exact (b.trans c).trans (h _ c.1)
theorem goes_way:Goes l (wayR l ex):=fun σ a hs=>by
 have b:=to_another hs a.names;have c:=to_want b.1 [40];have d:=to_name c.1;have e:=to_want d.1 [58];have f:=to_wholeT _ e.1;have g:=to_want f.1 [41];have i:=to_want g.1 [45,62];exact ((((((b.trans c).trans d).trans e).trans f).trans g).trans i).trans (h _ i.1)
theorem to_fun (a:Int):Ty l (fun σ=>funE l ex σ a):=fun σ hs=>by
 have b:=to_betw (o:= [40]) (s:= [44]) (e:= [41]) (goes_binds (l:=l)) ([],[]) hs;have c:=to_want b.1 [45,62];exact (b.trans c).trans (h _ c.1)
theorem to_let (a:Int):Ty l (fun σ=>letE l ex σ a):=fun σ hs=>by
 have b:=to_name hs;have c:=to_want b.1 [61];have d:=h _ c.1;have e:=to_want d.1 [105,110];exact (((b.trans c).trans d).trans e).trans (h _ e.1)
theorem to_choice (a:Int):Ty l (fun σ=>choiceE l ex σ a):=fun σ hs=>by
 have b:=h _ hs;have c:=to_want b.1 [116,104,101,110];have d:=h _ c.1;have e:=to_want d.1 [101,108,115,101];have f:=h _ e.1;have g:=to_want f.1 [97,115];exact (((((b.trans c).trans d).trans e).trans f).trans g).trans (to_wholeT _ g.1)
theorem to_match (a:Int):Ty l (fun σ=>matchE l ex σ a):=fun σ hs=>by
 have b:=h _ hs;have c:=to_want b.1 [111,102];have d:=to_betw (o:= [123]) (s:= [124]) (e:= [125]) (goes_way h) ⟨[],[],[],[(ex σ).1]⟩ c.1;have f:=to_want d.1 [97,115];exact (((b.trans c).trans d).trans f).trans (to_wholeT _ f.1)
theorem to_list (a:Int):Ty l (fun σ=>listE l ex σ a):=fun σ hs=>by
 have b:=to_betw (o:= [91]) (s:= [44]) (e:= [93]) (goes_args h) [] hs;have c:=to_want b.1 [111,102];exact (b.trans c).trans (to_wholeT _ c.1)
theorem to_of (k:Int) (d:List UInt8) (a:Int):Ty l (fun σ=>ofE l ex k d σ a):=fun σ hs=>by
 have b:=to_want hs [40];have c:=h _ b.1;exact (b.trans c).trans (to_want c.1 _)
theorem to_enclosed (a:Int):Ty l (fun σ=>enclosedE l ex σ a):=fun σ hs=>by
 have b:=h _ hs;show To l σ (enclosedE l ex σ a).2;unfold enclosedE;simp only;split
 {next hx=>
  have c:=to_next b.1 (sign_lt hx);have d:=to_wholeT _ c.1;exact ((b.trans c).trans d).trans (to_want d.1 _)}
 {exact b.trans (to_want b.1 _)}
end
theorem to_value (a:Int):Ty l (fun σ=>valueE l σ a):=fun σ hs=>by
 have b:=to_name hs;show To l σ (valueE l σ a).2;unfold valueE;simp only;split
 {next hx=>
  have c:=to_next b.1 (sign_lt hx);exact (b.trans c).trans (to_name c.1)}
 {exact b}
theorem to_atom (h:Ty l ex) (a:Int):Ty l (fun σ=>atomE l ex σ a):=fun σ hs=>by
 show To l σ (atomE l ex σ a).2;unfold atomE;simp only;split
 {next hx=>exact to_next hs (sign_lt hx)}
 split
 {next hx=>exact to_next hs (sign_lt hx)}
 split
 {next hx=>
  have b:=to_next hs (sign_lt hx);exact b.trans (to_enclosed h a _ b.1)}
 split
 {exact to_betw (goes_rec h) ([],[]) hs}
 split
 {next hx=>
  have b:=to_next hs (sign_lt hx);have c:=to_name b.1;exact (b.trans c).trans (to_of h _ _ a _ c.1)}
 split
 {next hx=>
  have b:=to_next hs (sign_lt hx);have c:=to_upper b.1;exact (b.trans c).trans (to_of h _ _ a _ c.1)}
 split
 {next hx=>
  have b:=to_next hs (sign_lt hx);have c:=to_upper b.1;exact (b.trans c).trans (to_of h _ _ a _ c.1)}
 split
 {exact to_text hs (by decide) _}
 split
 {exact to_text hs (by decide) _}
 {exact to_value a _ hs}
theorem to_chainL (h:Ty l ex) (a:Int): ∀n σ t,Ok l σ->To l σ (chainL l ex a n σ t).2
 | 0,σ,t,hs=>To.refl hs
 | n+1,σ,t,hs=>by
  unfold chainL;split
  {have b:=to_betw (o:= [40]) (s:= [44]) (e:= [41]) (goes_args h) [t] hs;exact b.trans (to_chainL h a n _ _ b.1)}
  {split
   {next hx=>
    have b:=to_next hs (sign_lt hx);have c:=to_name b.1;exact (b.trans c).trans (to_chainL h a n _ _ c.1)}
   {exact To.refl hs}}
theorem to_chain (h:Ty l ex) (a:Int):Ty l (fun σ=>chainE l ex σ a):=fun σ hs=>by
 have b:=to_atom h a _ hs;exact b.trans (to_chainL h a _ _ _ b.1)
theorem to_bodyE (h:Ty l ex):Ty l (bodyE l ex):=fun σ hs=>by
 have a:=to_begin hs;unfold bodyE;simp only;split
 {next hx=>
  have b:=to_next a.1 (sign_lt hx);exact (a.trans b).trans (to_fun h _ _ b.1)}
 split
 {next hx=>
  have b:=to_next a.1 (sign_lt hx);exact (a.trans b).trans (to_let h _ _ b.1)}
 split
 {next hx=>
  have b:=to_next a.1 (sign_lt hx);exact (a.trans b).trans (to_choice h _ _ b.1)}
 split
 {next hx=>
  have b:=to_next a.1 (sign_lt hx);exact (a.trans b).trans (to_match h _ _ b.1)}
 split
 {exact a.trans (to_list h _ _ a.1)}
 {exact a.trans (to_chain h _ _ a.1)}
theorem to_expr: ∀n,Ty l (expr l n)
 | 0=>fun σ h=>to_misfit h
 | n+1=>to_bodyE (to_expr n)
end
end Pse
namespace Lex
theorem Z3x: ∀(k:Nat) (a:List UInt8) (i:Nat) (l:List (Tok×Nat)),a.length<=k->toks a i= .ok l->l.length<=a.length
 | _,[],i,l,_,h=>by obtain rfl:=Except.ok.inj h; exact Nat.le_refl _
 | 0,c::r,_,_,h,_=>by simp at h
 | k+1,c::r,i,l,hk,h=>by
  rw[List.length_cons] at hk;by_cases e:blank c=true
  {rw[Z0l e] at h;have:=Z3x k r (i+1) l (by omega) h;rw[List.length_cons]; omega}
  {have b:=Z4d (l:=c::r) (by simp) (fun x hx=>by
    obtain rfl:c=x:=by simpa using hx
    simpa using e) i
   cases f:piece (c::r) with
   | error x=>
    obtain ⟨x,j⟩:=x;rw[f] at b;simp only at b;rw[b] at h; cases h
   | ok x=>
    obtain ⟨ts,n⟩:=x;rw[f] at b;simp only at b;obtain ⟨g,h2,h3,o⟩:=b;rw[g] at h;cases d:toks ((c::r).drop n) (i+n) with
    | error x=>rw[d] at h; cases h
    | ok m=>
     rw[d] at h;obtain rfl:=Except.ok.inj h;have:=Z3x k _ _ m (by rw[List.length_drop,List.length_cons]; omega) d;rw[List.length_drop] at this;rw[List.length_append,List.length_map]; omega}
theorem Z4V {s:List UInt8} {m:List (Tok×Nat)} (h:scanR s= .ok m):s.length<=4096/\ ∃l,toks s 0= .ok l/\m=l++ [(endTok,s.length)]:=by
 unfold scanR at h;split at h
 {cases h}
 {refine ⟨by omega, ?_⟩;cases a:toks s 0 with
  | error x=>rw[a] at h; cases h
  | ok l=>rw[a] at h; obtain rfl:=Except.ok.inj h; exact ⟨l,rfl,rfl⟩}
theorem Zdn: ∀l:List UInt8,l.length<=(l.flatMap escB).length
 | []=>Nat.le_refl _
 | c::r=>by
  have a:=Zdn r;have b:1<=(escB c).length:=by
   unfold escB; repeat (split; simp)
   simp
  rw[List.flatMap_cons,List.length_append,List.length_cons]; omega
theorem Z7z (t:Tok):t.text.length<=(written t).length:=by
 unfold written;split
 {have:=Zdn t.text;simp only[List.length_cons,List.length_append,List.length_nil]; omega}
 {exact Nat.le_refl _}
theorem Z2D {s:List UInt8}: ∀(m:List (Tok×Nat)) (a:Nat),Placed s a m-> ∀x∈m,x.2<=s.length
 | [],_,_,x,b=>by simp at b
 | (t,p)::r,a,h,x,b=>by
  obtain ⟨_,d,_,_,e,f⟩:=h;rcases List.mem_cons.1 b with rfl | b
  {exact d}
  {by_cases c:t.kind=4
   {exact Z2D r _ (e c) x b}
   {exact Z2D r _ (f c).2.2 x b}}
end Lex
namespace Go.Proofs.YtkncdbaoaeeoiaaGreatDoor
open Go.RowKit
section
variable {s : List UInt8} {w w' : World} {e : Ending} (h : ScanV s w e w')
include s w w' e h
theorem Z4W {m:List (Lex.Tok×Nat)} (n:Lex.scanR s= .ok m):
 ∃A cap,e= .returned (.tuple #[.slice A (tkOf m).length cap,.agg #[.int .i64 0,.int .i64 0]])/\Tks w' w'.heap.size A (tkOf m)/\w'.ownsRow w.heap.size 54 3 (.slice A (tkOf m).length cap) (tkOf m).length (cellsT (tkOf m))/\Below w.heap.size w w':=by
 obtain ⟨A,cap,l,a,b,rfl,f,k,d⟩:=h;rw[n] at d;obtain ⟨rfl,rfl,rfl⟩:=d;obtain ⟨i,c,g,_,o⟩:=ZbE f;have j:A=i:=by simp at g; exact g.1
 subst j;exact ⟨A,cap,rfl,o,f,k⟩
theorem Z6j {x:Int} {k:Nat} (f:Lex.scanR s= .error (x,k)):
 ∃A cap,e= .returned (.tuple #[.slice A 0 cap,.agg #[.int .i64 x,.int .i64 (k:Int)]])/\Below w.heap.size w w':=by
 obtain ⟨A,cap,l,a,b,rfl,g,d,c⟩:=h;rw[f] at c;obtain ⟨rfl,rfl,rfl⟩:=c;exact ⟨A,cap,rfl,d⟩
end
structure Scanned (l:List Tk):Prop where
 len:l.length<=4097
 tok: ∀b∈l,b.t.text.length<=4096/\0<=b.at_/\b.at_<=4096
 ends:Pse.Ends l
theorem scanned {s:List UInt8} {m:List (Lex.Tok×Nat)} (h:Lex.scanR s= .ok m):Scanned (tkOf m):=by
 obtain ⟨g,l,d,rfl⟩:=Lex.Z4V h;have k:=Lex.Z3x s.length s 0 l (Nat.le_refl _) d;have c: (tkOf (l++ [(Lex.endTok,s.length)])).length=l.length+1:=by rw[Z1D]; simp
 refine ⟨by omega,fun b hb=> ?_,by omega,fun i hi=> ?_⟩
 {unfold tkOf at hb;obtain ⟨x,a,rfl⟩:=List.mem_map.1 hb;rcases List.mem_append.1 a with a | a
  {have j:=(Lex.Z3f s.length s 0 l (Nat.le_refl _) g d x a).1;have n:=Lex.Z2D l 0 (Lex.Z1M s s.length 0 l (by omega) (Nat.zero_le _) d) x a;exact ⟨Nat.le_trans (Lex.Z7z x.1) (Lex.Z5x (Or.inr j)),by show (0:Int)<=(x.2:Int); omega,by show (x.2:Int)<=4096; omega⟩}
  {obtain rfl:x=(Lex.endTok,s.length):=by simpa using a
   exact ⟨by show (0:Nat)<=4096; omega,by show (0:Int)<=(s.length:Int); omega,by show (s.length:Int)<=4096; omega⟩}}
 {rw[c] at hi;rcases Nat.lt_or_ge i (l.length+1) with f | f
  {obtain rfl:i=l.length:=by omega
   unfold Prs.look tkOf;simp[Lex.endTok]}
  {by_cases e: (Prs.look (tkOf (l++ [(Lex.endTok,s.length)])) i).t.kind=0
   {exact e}
   {have:=Pso.kind_lt e;omega}}}
end Go.Proofs.YtkncdbaoaeeoiaaGreatDoor
namespace Lex
def sow (l:List UInt8) (n:Nat):List UInt8:=34::(l.take n).flatMap escB
theorem ZeB (c:UInt8): (escB c).length<=2:=by
 unfold escB; repeat (split; simp)
 simp
theorem Z8I: ∀l:List UInt8,(l.flatMap escB).length<=2 * l.length
 | []=>by simp
 | c::r=>by
  have:=ZeB c;have:=Z8I r;rw[List.flatMap_cons,List.length_append,List.length_cons]; omega
theorem ZfB (l:List UInt8) (n:Nat): (sow l n).length<=1+2 * n:=by
 have a:=Z8I (l.take n);have b:=List.length_take_le n l;unfold sow; rw[List.length_cons]; omega
theorem ZeC {l:List UInt8} {n:Nat} (h:n < l.length):sow l (n+1)=sow l n++escB (l[n]'h):=by
 unfold sow;rw[List.take_succ_eq_append_getElem h,List.flatMap_append]; simp
end Lex
namespace Go.Proofs.YtkncdbaoaeeoiaaGreatDoor
open Go.RowKit
def BoxT (W:World) (g:Nat) (k:Int) (l:List UInt8):Prop:=W.cell? ⟨g,0,none⟩=some (.int .i64 k)/\W.cell? ⟨g,1,none⟩=some (.string ⟨l.toArray⟩)
end Go.Proofs.YtkncdbaoaeeoiaaGreatDoor
namespace Go.Proofs.YtkncdbaoaeeoiaaGreatDoor
section
open Go.RowKit
theorem Z9Y (c:UInt8): (∃(j:Nat) (x:UInt8),j < 4/\Lib.indexByte [10,9,34,92] c=(j:Int)/\Lex.escB c= [92,x]/\(∀W,(Instr.index 9 (.string ⟨#[110,116,34,92]⟩) (.int .i64 (j:Int))).run Tryz.prog W= .ok (.int .u8 x.toNat) W))\/(Lib.indexByte [10,9,34,92] c= -1/\Lex.escB c= [c]):=by
 have a: ∀(j:Nat) (hj:j < 4) (W:World),(Instr.index 9 (.string ⟨#[110,116,34,92]⟩) (.int .i64 (j:Int))).run Tryz.prog W= .ok (.int .u8 ((⟨#[110,116,34,92]⟩:ByteArray)[j]'hj).toNat) W:=fun j hj W=>Z0i ⟨#[110,116,34,92]⟩ j hj W;by_cases b:c=10
 {subst b; exact Or.inl ⟨0,110,by decide,by decide,rfl,a 0 (by decide)⟩}
 by_cases d:c=9
 {subst d; exact Or.inl ⟨1,116,by decide,by decide,rfl,a 1 (by decide)⟩}
 by_cases e:c=34
 {subst e; exact Or.inl ⟨2,34,by decide,by decide,rfl,a 2 (by decide)⟩}
 by_cases f:c=92
 {subst f; exact Or.inl ⟨3,92,by decide,by decide,rfl,a 3 (by decide)⟩}
 {refine Or.inr ⟨?_, ?_⟩
  {have g1: ((10:UInt8)==c)=false:=beq_eq_false_iff_ne.2 (Ne.symm b);have g2: ((9:UInt8)==c)=false:=beq_eq_false_iff_ne.2 (Ne.symm d);have g3: ((34:UInt8)==c)=false:=beq_eq_false_iff_ne.2 (Ne.symm e);have g: ((92:UInt8)==c)=false:=beq_eq_false_iff_ne.2 (Ne.symm f);simp[Lib.indexByte,g1,g2,g3,g]}
  {unfold Lex.escB; rw[if_neg b,if_neg d,if_neg (by rintro (h | h); exact e h; exact f h)]}}
theorem Z7A (p:List UInt8) (a b:UInt8):Lib.byteCells (p++ [a,b])=Lib.byteCells p++ [.int .u8 (a.toNat:Int),.int .u8 (b.toNat:Int)]:=by simp[Lib.byteCells]
def Enq (l:List UInt8) (w wr:World) (v:Value) (n:Nat):Prop:=wr.ownsRow w.heap.size 5 1 v (Lex.sow l n).length (Lib.byteCells (Lex.sow l n))/\Below w.heap.size w wr
theorem Z8J (l:List UInt8) (Z:l.length<=1000000) (w:World):
 Y9 210 #[.string ⟨l.toArray⟩] w (.string ⟨(34::(l.flatMap Lex.escB++ [34])).toArray⟩):=by
 obtain ⟨L,I,r,s,t⟩:=info_parts (P:=Tryz.prog) (e:=5) (z:= .int .u8 0) (size:=1) (bytes:=1) (by kernel_rfl);have hz: (⟨l.toArray⟩:ByteArray).size=l.length:=Z07 _;have B: ∀n,(Lex.sow l n).length<=1+2 * n:=Lex.ZfB l;have G:Hid (Enq l w (w.alloc (.cells #[.int .u8 34] 5)) (.slice (some ⟨w.heap.size,0,none⟩) 1 1) 0):=Y1
  ⟨World.ownsRow_lit (base:=w.heap.size) (e:=5) (size:=1) w #[Value.int .u8 34] 1 (Nat.le_refl _) (by simp[maxLen]) rfl,Z01 _ _⟩
 go_enter Tryz.func210,Tryz.ntmps210
 go_wp2_with fail
 go_loopw [3,9] (fun v ii wr=> ∃n:Nat,ii= .int .i64 n/\n<=l.length/\Hid (Enq l w wr v n))
  (fun _ ii _=>l.length - (intOf ii).toNat)
 case atStart=>exact ⟨0,rfl,Nat.zero_le _,G⟩
 case round=>
  obtain ⟨n,rfl,hn,h⟩:=hrel;have V:=B n;have q:=h.out.2.size;by_cases A:n < l.length
  {have J: (n:Int) < (l.length:Int):=by omega
   obtain ⟨c,H⟩: ∃c,c=l[n]'A:=⟨_,rfl⟩;have M: ∀W,(Instr.index 9 (.string ⟨l.toArray⟩) (.int .i64 (n:Int))).run Tryz.prog W= .ok (.int .u8 c.toNat) W:=fun W=>by
    rw[H]; exact Z0i ⟨l.toArray⟩ n (by omega) W
   have E:Hid (Lex.sow l (n+1)=Lex.sow l n++Lex.escB c):=Y1 (by rw[H]; exact Lex.ZeC A);clear H;rcases Z9Y c with ⟨j,x,Y,g,f,U⟩ | ⟨g,f⟩
   {have o:=Y1 g;have p:Hid (Lex.sow l (n+1)=Lex.sow l n++ [92,x]):=Y1 (by rw[E.out,f]);have S: (0:Int)<=(j:Int):=by omega
    have T: (j:Int) < 4:=by omega
    have K:=x.toNat_lt;clear g f E
    go_wp2_with fail
    refine (Z6E [10,9,34,92] c _).mono ?_;rintro e X ⟨y,rfl⟩;rw[o.out] at y;subst y
    go_wp2_with (at_builtin; refine wpList_append_own _ rfl _ _ 137 rfl w.heap.size 5 L (.int .u8 0) 1 1 Tryz.underlying137 I r s t rfl (by decide) _ _ _ rfl (h.out.1.alloc _) ⟨wr.heap.size,0,none⟩ 2 2 [.int .u8 92,.int .u8 (x.toNat:Int)] rfl rfl (World.news_of_block (heap_alloc_new wr _)) (by intro u i; simp at i; rcases i with rfl | rfl <;> rfl) (by unfold maxLen; omega) (by omega) (by simp; omega) ?_)
    intro C D b a _;have d:=(h.out.2.alloc q (.cells #[.int .u8 92,.int .u8 (x.toNat:Int)] 5)).grown a (by simp; omega) (fun k hk=>(h.out.1.lt k hk).1);have m:Hid (Enq l w D C (n+1)):=Y1 ⟨by rw[p.out,Z7A,List.length_append]; exact b,d⟩;clear b a d;go_wp2
    go_roundw
    case rel=>exact ⟨n+1,by go_num,by omega,m⟩
    case measure=>simp[intOf]; omega}
   {have o:=Y1 g;have p:Hid (Lex.sow l (n+1)=Lex.sow l n++ [c]):=Y1 (by rw[E.out,f]);have K:=c.toNat_lt;clear g f E
    go_wp2_with fail
    refine (Z6E [10,9,34,92] c _).mono ?_;rintro e X ⟨y,rfl⟩;rw[o.out] at y;subst y
    go_wp2_with (at_builtin; refine wpList_append_own _ rfl _ _ 137 rfl w.heap.size 5 L (.int .u8 0) 1 1 Tryz.underlying137 I r s t rfl (by decide) _ _ _ rfl (h.out.1.alloc _) ⟨wr.heap.size,0,none⟩ 1 1 [.int .u8 (c.toNat:Int)] rfl rfl (World.news_of_block (heap_alloc_new wr _)) (by intro u i; simp at i; subst i; rfl) (by unfold maxLen; omega) (by omega) (by simp; omega) ?_)
    intro C D b a _;have d:=(h.out.2.alloc q (.cells #[.int .u8 (c.toNat:Int)] 5)).grown a (by simp; omega) (fun k hk=>(h.out.1.lt k hk).1);have m:Hid (Enq l w D C (n+1)):=Y1 ⟨by rw[p.out,Z1K,List.length_append]; exact b,d⟩;clear b a d;go_wp2
    go_roundw
    case rel=>exact ⟨n+1,by go_num,by omega,m⟩
    case measure=>simp[intOf]; omega}}
  {have J: ¬(n:Int) < (l.length:Int):=by omega
   have O:Hid (Lex.sow l n++ [34]=34::(l.flatMap Lex.escB++ [34])):=Y1 (by unfold Lex.sow; rw[List.take_of_length_le (by omega)]; rfl)
   go_wp2_with (at_builtin; refine wpList_append_own _ rfl _ _ 137 rfl w.heap.size 5 L (.int .u8 0) 1 1 Tryz.underlying137 I r s t rfl (by decide) _ _ _ rfl (h.out.1.alloc _) ⟨wr.heap.size,0,none⟩ 1 1 [.int .u8 34] rfl rfl (World.news_of_block (heap_alloc_new wr _)) (by intro u i; simp at i; subst i; rfl) (by unfold maxLen; omega) (by omega) (by simp; omega) ?_)
   intro C D b a _;have d:=(h.out.2.alloc q (.cells #[.int .u8 34] 5)).grown a (by simp; omega) (fun k hk=>(h.out.1.lt k hk).1);have N:D.ownsRow w.heap.size 5 1 C ((Lex.sow l n).length+1) (Lib.byteCells (34::(l.flatMap Lex.escB++ [34]))):=by rw[<-O.out,Z1K]; exact b
   have Q:=Z39 N;have F:=Y1 d;clear b a d N;go_wp2;go_ret;exact ⟨rfl,F.out⟩}
theorem Z7B (k:Int) (l:List UInt8) (h:l.length<=1000000) (a:Int) (w:World):
 Y9 198 #[.agg #[.int .i64 k,.string ⟨l.toArray⟩,.int .i64 a]] w (.string ⟨(Lex.written ⟨k,l⟩).toArray⟩):=by
 have b:=Y1 (Z01 w (.cells #[.int .i64 k,.string ⟨l.toArray⟩,.int .i64 a] 54));have c:Hid (BoxT (w.alloc (.cells #[.int .i64 k,.string ⟨l.toArray⟩,.int .i64 a] 54)) w.heap.size k l):=Y1 ⟨by simp[go_sem],by simp[go_sem]⟩;by_cases f:k=4
 {subst f;have d:Hid (Lex.written ⟨4,l⟩=34::(l.flatMap Lex.escB++ [34])):=Y1 (by unfold Lex.written; rw[if_pos rfl]);go_enter Tryz.func198,Tryz.ntmps198
  go_wp2_with fail
  generalize hW:w.alloc (.cells #[.int .i64 4,.string ⟨l.toArray⟩,.int .i64 a] 54)=W0 at c b ⊢;clear hW;obtain ⟨x0,x1⟩:=c.out
  go_wp2_with fail
  refine (Z8J l h _).mono ?_;rintro e j ⟨rfl,g⟩;go_wp2;go_ret;exact ⟨by rw[d.out]; rfl,Z00 b.out g⟩}
 {have i: (k==4)=false:=by simp[f]
  have d:Hid (Lex.written ⟨k,l⟩=l):=Y1 (by unfold Lex.written; rw[if_neg f]);go_enter Tryz.func198,Tryz.ntmps198
  go_wp2_with fail
  generalize hW:w.alloc (.cells #[.int .i64 k,.string ⟨l.toArray⟩,.int .i64 a] 54)=W0 at c b ⊢;clear hW;obtain ⟨x0,x1⟩:=c.out;go_wp2;go_ret;exact ⟨by rw[d.out]; rfl,b.out⟩}
end
end Go.Proofs.YtkncdbaoaeeoiaaGreatDoor
namespace Go.Proofs
open Go.Shelf
def Tryz.lays166_ren:Go.Shelf.Ren:=⟨fun | 166=>201 | 240=>211 | 276=>220 | n=>n,fun | 0=>0 | 3=>3 | 4=>4 | 9=>9 | 20=>20 | 37=>137 | 70=>216 | 72=>218 | 75=>184 | 164=>241 | 5=>5 | 80=>141 | n=>n,fun | n=>n⟩
theorem Tryz.lays166:Go.Proofs.Lays.n166 Tryz.prog Tryz.lays166_ren:= {
 mixed:=by kernel_rfl
 f166:=Tryz.func201.trans (congrArg some (by kernel_rfl))
 f240:=Tryz.func211.trans (congrArg some (by kernel_rfl))
 f276:=Tryz.func220.trans (congrArg some (by kernel_rfl))
 t0:=Tryz.underlying0
 a0:=Tryz.isAgg0
 z0:=Tryz.sizeOf0
 v0:=Tryz.zeroValue0
 t3:=Tryz.underlying3
 a3:=Tryz.isAgg3
 z3:=Tryz.sizeOf3
 v3:=Tryz.zeroValue3
 t4:=Tryz.underlying4
 a4:=Tryz.isAgg4
 z4:=Tryz.sizeOf4
 v4:=Tryz.zeroValue4
 t9:=Tryz.underlying9
 a9:=Tryz.isAgg9
 z9:=Tryz.sizeOf9
 v9:=Tryz.zeroValue9
 t20:=Tryz.underlying20
 a20:=Tryz.isAgg20
 z20:=Tryz.sizeOf20
 v20:=Tryz.zeroValue20
 t37:=Tryz.underlying137
 a37:=Tryz.isAgg137
 z37:=Tryz.sizeOf137
 v37:=Tryz.zeroValue137
 t70:=Tryz.underlying216
 a70:=Tryz.isAgg216
 z70:=Tryz.sizeOf216
 v70:=Tryz.zeroValue216
 t72:=Tryz.underlying218
 a72:=Tryz.isAgg218
 z72:=Tryz.sizeOf218
 v72:=Tryz.zeroValue218
 t75:=Tryz.underlying184
 a75:=Tryz.isAgg184
 z75:=Tryz.sizeOf184
 v75:=Tryz.zeroValue184
 t164:=Tryz.underlying241
 a164:=Tryz.isAgg241
 z164:=Tryz.sizeOf241
 v164:=Tryz.zeroValue241 }
theorem Tryz.x166:Builder.Extra Tryz.prog Tryz.lays166_ren:= {
 sizeBuilder:=by kernel_rfl
 liesBuilder:=by kernel_rfl
 t5:=Tryz.underlying5
 a5:=Tryz.isAgg5
 z5:=Tryz.sizeOf5
 v5:=Tryz.zeroValue5
 infoByte:=by kernel_rfl
 cellsByte:=by kernel_rfl
 sizeByte:=by kernel_rfl
 neB5:=by decide }
def Tryz.lays169_ren:Go.Shelf.Ren:=⟨fun | 169=>202 | n=>n,fun | 0=>0 | 3=>3 | 9=>9 | 37=>137 | 70=>216 | 72=>218 | 127=>194 | 5=>5 | n=>n,fun | n=>n⟩
theorem Tryz.lays169:Go.Proofs.Lays.n169 Tryz.prog Tryz.lays169_ren:= {
 mixed:=by kernel_rfl
 f169:=Tryz.func202.trans (congrArg some (by kernel_rfl))
 t0:=Tryz.underlying0
 a0:=Tryz.isAgg0
 z0:=Tryz.sizeOf0
 v0:=Tryz.zeroValue0
 t3:=Tryz.underlying3
 a3:=Tryz.isAgg3
 z3:=Tryz.sizeOf3
 v3:=Tryz.zeroValue3
 t9:=Tryz.underlying9
 a9:=Tryz.isAgg9
 z9:=Tryz.sizeOf9
 v9:=Tryz.zeroValue9
 t37:=Tryz.underlying137
 a37:=Tryz.isAgg137
 z37:=Tryz.sizeOf137
 v37:=Tryz.zeroValue137
 t70:=Tryz.underlying216
 a70:=Tryz.isAgg216
 z70:=Tryz.sizeOf216
 v70:=Tryz.zeroValue216
 t72:=Tryz.underlying218
 a72:=Tryz.isAgg218
 z72:=Tryz.sizeOf218
 v72:=Tryz.zeroValue218
 t127:=Tryz.underlying194
 a127:=Tryz.isAgg194
 z127:=Tryz.sizeOf194
 v127:=Tryz.zeroValue194 }
theorem Tryz.x169:Builder.Extra Tryz.prog Tryz.lays169_ren:= {
 sizeBuilder:=by kernel_rfl
 liesBuilder:=by kernel_rfl
 t5:=Tryz.underlying5
 a5:=Tryz.isAgg5
 z5:=Tryz.sizeOf5
 v5:=Tryz.zeroValue5
 infoByte:=by kernel_rfl
 cellsByte:=by kernel_rfl
 sizeByte:=by kernel_rfl
 neB5:=by decide }
def Tryz.lays170_ren:Go.Shelf.Ren:=⟨fun | 170=>200 | n=>n,fun | 70=>216 | 3=>3 | 0=>0 | 72=>218 | 37=>137 | 5=>5 | n=>n,fun | n=>n⟩
theorem Tryz.lays170:Go.Proofs.Lays.n170 Tryz.prog Tryz.lays170_ren:= {
 mixed:=by kernel_rfl
 f170:=Tryz.func200.trans (congrArg some (by kernel_rfl))
 t0:=Tryz.underlying0
 a0:=Tryz.isAgg0
 z0:=Tryz.sizeOf0
 v0:=Tryz.zeroValue0
 t3:=Tryz.underlying3
 a3:=Tryz.isAgg3
 z3:=Tryz.sizeOf3
 v3:=Tryz.zeroValue3
 t37:=Tryz.underlying137
 a37:=Tryz.isAgg137
 z37:=Tryz.sizeOf137
 v37:=Tryz.zeroValue137
 t70:=Tryz.underlying216
 a70:=Tryz.isAgg216
 z70:=Tryz.sizeOf216
 v70:=Tryz.zeroValue216
 t72:=Tryz.underlying218
 a72:=Tryz.isAgg218
 z72:=Tryz.sizeOf218
 v72:=Tryz.zeroValue218 }
section
open Go.RowKit
theorem Tryz.builder_write (B b:Nat) (c:List Value) (s:ByteArray) (w:World) (h:Lib.IsBuilder 218 5 B b c w) (a:c.length+s.size<=140737488355328) (d:B<=w.heap.size):
 Calls Tryz.prog 201 #[.pointer (some ⟨b,0,none⟩),.string s] w fun e w'=>e= .returned (.tuple #[.int .i64 s.size,.nilIface])/\(Lib.BuilderAt 218 5 B b (.pointer (some ⟨b,0,none⟩)) (c++Lib.strCells s) w'/\Below B w w'):=
 Any.Builder_WriteString Tryz.lays166 Tryz.x166 B b c s w h a d
theorem Tryz.builder_text (B b:Nat) (l:List UInt8) (w:World) (h:Lib.IsBuilder 218 5 B b (Lib.byteCells l) w) (a:B<=w.heap.size):
 Calls Tryz.prog 202 #[.pointer (some ⟨b,0,none⟩)] w fun e w'=>e= .returned (.string ⟨l.toArray⟩)/\Below B w w':=
 Any.Builder_String_any Tryz.lays169 Tryz.x169 B b l w h a
theorem Tryz.builder_len (B b:Nat) (a:List Value) (w:World) (h:Lib.IsBuilder 218 5 B b a w):
 Calls Tryz.prog 200 #[.pointer (some ⟨b,0,none⟩)] w fun e w'=>e= .returned (.int .i64 a.length)/\w'=w:=
 Any.Builder_Len Tryz.lays170 B b a w h
end
end Go.Proofs
namespace Lex
theorem Z4X {s:List UInt8} {x:Int} {k:Nat} (h:scanR s= .error (x,k)):x≠0:=by
 unfold scanR at h;split at h
 {obtain ⟨rfl,_⟩:=Prod.mk.inj (Except.error.inj h); decide}
 {split at h
  {rename_i y a
   obtain ⟨e,j⟩:=y;obtain ⟨rfl,_⟩:=Prod.mk.inj (Except.error.inj h);rcases (Z1d _ _ _ _ _ (Nat.le_refl _) a).2 with h | h <;> rw[h] <;> decide}
  {cases h}}
theorem Z4Y (t:Tok): (written t).length<=2 * t.text.length+2:=by
 unfold written;split
 {have:=Z8I t.text;simp only[List.length_cons,List.length_append,List.length_nil]; omega}
 {omega}
theorem ZeD {t:Tok} (h:t=endTok\/good t): ∃x m,scanR (written t)= .ok (x::m)/\x.1=t:=by
 rcases h with rfl | h
 {exact ⟨_,_,Zex,rfl⟩}
 {exact ⟨_,_,Zdi h,rfl⟩}
end Lex
namespace Go.Proofs.YtkncdbaoaeeoiaaGreatDoor
open Go.RowKit
theorem Zdo (W:World) (b:Tk):TkAt (W.alloc (.cells #[.int .i64 b.t.kind,.string ⟨b.t.text.toArray⟩,.int .i64 b.at_] 54)) W.heap.size 0 b:=
 ⟨by simp[go_sem],by simp[go_sem],by simp[go_sem]⟩
theorem Z9Z (t:Lex.Tok) (a:Int) (ht:t.text.length<=1000000) (b:Bool) (X:b=true ↔ (t=Lex.endTok\/Lex.good t)) (w:World) (Z:Globs w):
 Y9 199 #[.string ⟨(Lex.written t).toArray⟩,.agg #[.int .i64 t.kind,.string ⟨t.text.toArray⟩,.int .i64 a]] w (.bool b):=by
 have S:=Lex.Z4Y t;have hb0:=Z01 w (.cells #[.int .i64 t.kind,.string ⟨t.text.toArray⟩,.int .i64 a] 54);have K:=Y1 (Zdo w ⟨t,a⟩);have u:Hid (w.heap.size < (w.alloc (.cells #[.int .i64 t.kind,.string ⟨t.text.toArray⟩,.int .i64 a] 54)).heap.size):=Y1 (by simp);have V:=Y1 (Z.next hb0);have p:=Y1 hb0;have n:=Y1 X;have W:=Y1 (Z3w (Lex.written t) (by omega));have N:=fun h=>Lex.ZeD (t:=t) h;have O:=fun x m h1 v=>Lex.Z8H (t:=t) (x:=x) (m:=m) h1 v;have P:=fun x k h=>Lex.Z4X (s:=Lex.written t) (x:=x) (k:=k) h;have B:Lex.scanR (Lex.written t)≠ .ok []:=fun h=>by
  unfold Lex.scanR at h;split at h
  {cases h}
  {split at h
   {cases h}
   {simp at h}}
 obtain ⟨s,Q⟩: ∃s,s=Lex.written t:=⟨_,rfl⟩;rw[<-Q] at W N O P B;rw[<-Q];clear Q hb0 X Z S;go_enter Tryz.func199,Tryz.ntmps199
 go_wp2_with fail
 generalize hW:w.alloc (.cells #[.int .i64 t.kind,.string ⟨t.text.toArray⟩,.int .i64 a] 54)=W0 at K u V p ⊢;clear hW;have r:=Y1 N;have H:=Y1 O;have I:=Y1 P;have J:=Y1 B;clear N O P B
 go_wp2_with fail
 refine (W.out _ V.out).mono ?_;rintro e U ⟨A,cap,l,a1,b1,rfl,d,o,f⟩;have i:=Y1 (Z00 p.out o);have L:=Y1 (K.out.keep u.out o);have T:=o.size;have a0:w.heap.size < U.heap.size:=Nat.lt_of_lt_of_le u.out T;clear o K p;cases g:Lex.scanR s with
 | error x=>
  obtain ⟨x,k⟩:=x;rw[g] at f;obtain ⟨rfl,rfl,rfl⟩:=f;have G:=I.out _ _ g;have a7: (a1==0)=false:=by simpa using G
  have q:Hid (b=false):=Y1 (by
   cases b with
   | false=>rfl
   | true=>
    obtain ⟨y,m,h,_⟩:=r.out (n.out.1 rfl);rw[g] at h; cases h)
  clear g G d
  go_wp2_with fail
  go_quiet (fail)
  go_wp2;go_ret;exact ⟨by rw[q.out]; rfl,Z0b (Z03 i.out _) _⟩
 | ok m=>
  cases m with
  | nil=>exact absurd g J.out
  | cons y m=>
   rw[g] at f;obtain ⟨rfl,rfl,rfl⟩:=f;obtain ⟨y,j⟩:=y;have c: (tkOf ((y,j)::m)).length=m.length+1:=by rw[Z1D]; rfl
   obtain ⟨M,C,F,_,a4⟩:=d.form (by rw[c]; omega);obtain ⟨hA,Y⟩:A=some ⟨M,0,none⟩/\cap=C:=by
    simp at F;exact F
   subst hA;have k0:U.cell? ⟨M,0,none⟩=some (.int .i64 y.kind):=(d.cellAt 0 (by rw[c]; omega)).trans rfl;have k1:U.cell? ⟨M,1,none⟩=some (.string ⟨y.text.toArray⟩):=(d.cellAt 1 (by rw[c]; omega)).trans rfl;obtain ⟨x0,x1,_⟩:=L.out;simp only[Nat.zero_add] at x1;rw[c];have a5: (0:Int) < ((m.length+1:Nat):Int):=by omega
   have a6:0 < m.length+1:=by omega
   cases D: (y.kind==t.kind)
   {have q:Hid (b=false):=Y1 (by
     cases b with
     | false=>rfl
     | true=>
      obtain ⟨z,m2,h,v⟩:=r.out (n.out.1 rfl);rw[g] at h;obtain ⟨rfl,_⟩:=List.cons.inj (Except.ok.inj h);simp only at v;rw[v] at D; simp at D)
    clear g d F c
    go_wp2_with fail
    go_quiet (fail)
    go_wp2;go_ret;exact ⟨by rw[q.out]; rfl,Z0b (Z03 i.out _) _⟩}
   {cases E: (y.text==t.text)
    {have q:Hid (b=false):=Y1 (by
      cases b with
      | false=>rfl
      | true=>
       obtain ⟨z,m2,h,v⟩:=r.out (n.out.1 rfl);rw[g] at h;obtain ⟨rfl,_⟩:=List.cons.inj (Except.ok.inj h);simp only at v;rw[v] at E; simp at E)
     clear g d F c
     go_wp2_with fail
     go_quiet (fail)
     go_wp2;go_ret;exact ⟨by rw[q.out]; rfl,Z0b (Z03 i.out _) _⟩}
    {have q:Hid (b=true):=Y1 (n.out.2 (H.out (y,j) m g (by
      simp only[beq_iff_eq] at D E;cases t; cases y;simp only at D E;rw[D,E])))
     clear g d F c
     go_wp2_with fail
     go_quiet (fail)
     go_wp2;go_ret;exact ⟨by rw[q.out]; rfl,Z0b (Z03 i.out _) _⟩}}
end Go.Proofs.YtkncdbaoaeeoiaaGreatDoor
namespace Pso
open Go.Proofs.YtkncdbaoaeeoiaaGreatDoor (Tk tkOf)
open Prs (Flt R)
def close {α:Type} (l:List Tk) (r:R α):Except Flt α:=match r with
 | .error f=> .error f
 | .ok y=>if y.2+1=l.length then .ok y.1 else .error (90,(Prs.look l y.2).at_)
def rdText {α:Type} (s:List UInt8) (whole:List Tk->St->α×St):Except Flt α:=
 match Lex.scanR s with
 | .error x=> .error (x.1,(x.2:Int))
 | .ok m=>close (tkOf m) (rd (tkOf m) 0 (whole (tkOf m)))
section
variable {α : Type} {s : List UInt8} {whole : List Tk -> St -> α × St}
include α s whole
theorem rdText_err {x:Int} {k:Nat} (h:Lex.scanR s= .error (x,k)):rdText s whole= .error (x,(k:Int)):=by
 unfold rdText; rw[h]
theorem rdText_ok {m:List (Lex.Tok×Nat)} (h:Lex.scanR s= .ok m):rdText s whole=close (tkOf m) (rd (tkOf m) 0 (whole (tkOf m))):=by
 unfold rdText; rw[h]
end
section
variable {α : Type} {l : List Tk} {whole : List Tk -> St -> α × St}
include α l whole
theorem rd_lt (c: ∀σ,Pse.Ok l σ->Pse.To l σ (whole l σ).2) (a:Pse.Ends l) {y:α×Nat} (h:rd l 0 (whole l)= .ok y):y.2 < l.length:=by
 have b:=(c (0,(0,0)) ⟨a,Nat.zero_le _,fun h=>absurd rfl h,fun _=>a.1⟩).1;unfold rd at h;split at h
 {cases h}
 {split at h
  {cases h}
  {split at h
   {next hf=>
    cases h;exact b.2.2.2 hf}
   {cases h}}}
theorem rd_err {a:Int} {f:Flt} (h:rd l a (whole l)= .error f):f.1≠0:=by
 unfold rd at h;split at h
 {cases h; decide}
 {split at h
  {cases h; decide}
  {split at h
   {cases h}
   {next hf=>cases h; exact hf}}}
end
end Pso
namespace Go.Proofs.YtkncdbaoaeeoiaaGreatDoor
open Go.RowKit Tms
open Shp (Sh)
open Pso (St Ok)
open Prs (sign R Flt)
def TySaid (r:Except Flt Sh) (w:World) (e:Ending) (w':World):Prop:=
 Below w.heap.size w w'/\match r with
 | .ok y=> ∃x:ES,e= .returned (.tuple #[valS x,.agg #[.int .i64 0,.int .i64 0]])/\x.Is w'/\w.heap.size<=x.lo/\x.t=y
 | .error f=>e= .returned (.tuple #[.agg #[.int .i64 0,.string ⟨#[]⟩,.string ⟨#[]⟩,.slice none 0 0,.slice none 0 0],.agg #[.int .i64 f.1,.int .i64 f.2]])
def RdFn (fn:Nat) (whole:List Tk->St->Sh×St):Prop:= ∀(A:Option Addr) (c:Nat) (l:List Tk),Scanned l-> ∀(w:World),Tks w w.heap.size A l->Gl w->
 Calls Tryz.prog fn #[.slice A l.length c,.int .i64 0] w (TyOut (Pso.rd l 0 (whole l)) w)
theorem Z2o {F:List Nat} {w V E:World} (a:Below w.heap.size w V) (c: ∀b∈F,w.heap.size<=b) (d:UpT F V E):Below w.heap.size w E:=((Z05 (F:=F) a).trans d).low c
theorem ZfC {F:List Nat} {V E:World} {x:ES} (d:x.Is V) (a: ∀b∈F,b < x.lo) (c:UpT F V E):x.Is E:=New.up d c (fun b hb=>Or.inl (a b hb))
theorem Z6G (s:List UInt8) (hs:s.length<=9223372036854775807) (fn:Nat) (i4: ∀args W,(callFunc fn args).run Tryz.prog W= .ok (.enter fn args) W) (whole:List Tk->St->Sh×St) (hR:RdFn fn whole) (hw: ∀l σ,Pse.Ok l σ->Pse.To l σ (whole l σ).2) (w:World) (hG:Gl w):
 Calls Tryz.prog 23 #[.string ⟨s.toArray⟩,.func (.func fn) #[] #[]] w (TySaid (Pso.rdText s whole) w):=by
 have Q:=Y1 (show Below w.heap.size w (bW w) from Z03 (Z0V w) _);have HZ:=Y1 (show Z1s (bW w) w.heap.size from (Z57 w).next (Z01 _ _));have HX:=Y1 (show Box2 (bW w) (w.heap.size+1) 0 0 from (Z69 w).next (Z01 _ _));have I:=Y1 (ZaB w);have X:=Y1 (hG.next Q.out);have Z:=Y1 (Z3w s hs (bW w) X.out.g);have J:=Y1 hR;have M:=Y1 hw;clear hR hw hG;cases O:Lex.scanR s with
 | error xk=>
  obtain ⟨xx,k⟩:=xk;rw[Pso.rdText_err O];have e1: (xx !=0)=true:=by simpa using Lex.Z4X O
  have HM:=Y1 O;clear O;go_enter Tryz.func23,Tryz.ntmps23
  go_wp2_with fail
  change Calls _ _ _ (bW w) _;refine Z.out.mono ?_;generalize bW w=W0 at Q HZ HX I X Z ⊢;rintro e W1 hv;obtain ⟨A,cap,rfl,d⟩:=Z6j hv HM.out;have a:=Z01 W1 (.cells #[.int .i64 xx,.int .i64 (k:Int)] 29);have e4:=Y1 (Z00 (Z00 Q.out d) a);obtain ⟨z0,⟨z1,z2,z3,z4,z5⟩,d4,d5,d6,d7,d8⟩:=(HZ.out.next d).next a;obtain ⟨x0,x1,x2,d2,d3⟩:=(HX.out.next d).next a;obtain ⟨n0,⟨n1,n2,n3,n4,n5⟩,c0,c8,c9,d0,d1⟩:=(I.out.next d).next a;obtain ⟨b0,b1,b2,B,C⟩:=Z0L W1 xx (k:Int);have V:=I.out.1;have n:=d.size;have g1:w.heap.size≠W1.heap.size:=by omega
  have g2:w.heap.size+1≠W1.heap.size:=by omega
  have g3:w.heap.size+1+1≠W1.heap.size:=by omega
  clear V n;clear hv d a Q HZ HX I X Z HM J M
  go_wp2_with fail
  go_region
  all_goals go_wp2
  all_goals refine bodyPost_ret (v:= .tuple #[.agg #[.int .i64 0,.string ⟨#[]⟩,.string ⟨#[]⟩,.slice none 0 0,.slice none 0 0],.agg #[.int .i64 xx,.int .i64 (k:Int)]]) (by simp[results,Tryz.results23,go_sem,z0,x0,z1,z2,z3,z4,z5,x1,x2]) rfl ?_
  all_goals refine ⟨Z0U e4.out ?_,rfl⟩
  all_goals repeat' (with_reducible first | refine UpT.drew ?_ | refine UpT.set ?_ _ (Or.inr ?_) _ | exact UpT.refl _ _)
  all_goals simp
 | ok m=>
  rw[Pso.rdText_ok O];have p:=Y1 (scanned O);have HM:=Y1 O;clear O;obtain ⟨r,hr⟩: ∃r,r=Pso.rd (tkOf m) 0 (whole (tkOf m)):=⟨_,rfl⟩;have K:=Y1 hr;rw[<-hr];have H:Hid (∀y,r= .ok y->y.2 < (tkOf m).length):=Y1 (fun y hy=>Pso.rd_lt (M.out (tkOf m)) p.out.ends (by rw[<-hr]; exact hy));have T:Hid (∀f,r= .error f->f.1≠0):=Y1 (fun f hf=>Pso.rd_err (by rw[<-hr]; exact hf));clear hr;have a2:=Y1 p.out.len;obtain ⟨q,hq⟩: ∃q:Except Flt Sh,q=Pso.close (tkOf m) r:=⟨_,rfl⟩;have Y:=Y1 hq;rw[<-hq];clear hq;obtain ⟨l,hl⟩: ∃l,l=tkOf m:=⟨_,rfl⟩;rw[<-hl] at p K H Y a2;have e7:=Y1 hl;have i6:=a2.out;clear hl;go_enter Tryz.func23,Tryz.ntmps23
  go_wp2_with fail
  change Calls _ _ _ (bW w) _;refine Z.out.mono ?_;generalize bW w=W0 at Q HZ HX I X Z ⊢;rintro e W1 hv;obtain ⟨A,cap,rfl,N,P,d⟩:=Z4W hv HM.out;rw[<-e7.out] at N ⊢;have a:=Z01 W1 (.cells Yc 29);have t:=Y1 (Z00 (Z00 Q.out d) a);have z:=Y1 ((HZ.out.next d).next a);have u:=Y1 ((HX.out.next d).next a);have i:=Y1 ((I.out.next d).next a);have h:=Y1 (Z0L W1 0 0);have L:=Y1 (N.on a);have a7:=Y1 N;have S:=Y1 a;have a5:Hid (∀g off,A=some ⟨g,off,none⟩->W0.heap.size<=g):=Y1 (fun g off hA=>(Z21 P g (by rw[hA]; rfl)).1);have U:Hid (w.heap.size+1+1 < W0.heap.size):=Y1 I.out.1;have G:=Y1 ((X.out.next d).next a);obtain ⟨b0,b1,b2,B,C⟩:=h.out;have V:=I.out.1;have n:=d.size;have g1:w.heap.size≠W1.heap.size:=by omega
  have g2:w.heap.size+1≠W1.heap.size:=by omega
  have g3:w.heap.size+1+1≠W1.heap.size:=by omega
  have HF:Hid (∀b∈ [w.heap.size,w.heap.size+1,W1.heap.size],w.heap.size<=b):=Y1 (by intro b d; simp at d; omega);clear V n hv N P d a Q HZ HX I X Z HM
  go_wp2_with fail
  generalize W1.alloc (.cells Yc 29)=W2 at t z u i h L G S b0 b1 b2 B C ⊢;refine (J.out A cap l p.out W2 L.out G.out).mono ?_;rw[<-K.out];rintro e D ⟨c,ho⟩;clear b0 b1 b2 B C;cases r with
  | error f=>
   obtain rfl:=ho;have i5: (f.1 !=0)=true:=by simpa using T.out f rfl
   have o:Hid (q= .error f):=Y1 Y.out;have a:=Z01 D (.cells Yb 43);have E:=Y1 (Z00 (Z00 t.out c) a);obtain ⟨z0,⟨z1,z2,z3,z4,z5⟩,d4,d5,d6,d7,d8⟩:=(z.out.next c).next a;obtain ⟨x0,x1,x2,d2,d3⟩:=(u.out.next c).next a;obtain ⟨n0,⟨n1,n2,n3,n4,n5⟩,c0,c8,c9,d0,d1⟩:=(i.out.next c).next a;obtain ⟨b0,b1,b2,B,C⟩:=(h.out.next c).next a;have V:=i.out.1;have n:=c.size;have hK:=h.out.1;have g4:w.heap.size≠D.heap.size:=by omega
   have g5:w.heap.size+1≠D.heap.size:=by omega
   have g6:w.heap.size+1+1≠D.heap.size:=by omega
   have g7:W1.heap.size≠D.heap.size:=by omega
   clear V n hK;clear c a J M p K H T Y t z u i h L G
   go_wp2_with fail
   go_region
   all_goals go_wp2
   all_goals refine bodyPost_ret (v:= .tuple #[.agg #[.int .i64 0,.string ⟨#[]⟩,.string ⟨#[]⟩,.slice none 0 0,.slice none 0 0],.agg #[.int .i64 f.1,.int .i64 f.2]]) (by simp[results,Tryz.results23,go_sem,valS,z0,x0,z1,z2,z3,z4,z5,x1,x2,g1,g2,g3]) rfl ?_
   all_goals rw[o.out]
   all_goals refine ⟨Z2o (F:= [w.heap.size,w.heap.size+1,W1.heap.size]) E.out HF.out ?_,rfl⟩
   all_goals repeat' (with_reducible first | refine UpT.drew ?_ | refine UpT.set ?_ _ (Or.inr ?_) _ | exact UpT.refl _ _)
   all_goals simp
  | ok y=>
   obtain ⟨x,rfl,hi,f0,ht⟩:=ho;obtain ⟨ys,j⟩:=y;have hj:j < l.length:=H.out _ rfl;simp only[valS];dsimp only at ht ⊢;have a:=Z01 D (.cells (Y8 x.t x.q) 43);have E:=Y1 (Z00 (Z00 t.out c) a);obtain ⟨z0,⟨z1,z2,z3,z4,z5⟩,d4,d5,d6,d7,d8⟩:=(z.out.next c).next a;obtain ⟨x0,x1,x2,d2,d3⟩:=(u.out.next c).next a;obtain ⟨n0,⟨n1,n2,n3,n4,n5⟩,c0,c8,c9,d0,d1⟩:=(i.out.next c).next a;obtain ⟨b0,b1,b2,B,C⟩:=(h.out.next c).next a;have V:=i.out.1;have n:=c.size;have hK:=h.out.1;have g4:w.heap.size≠D.heap.size:=by omega
   have g5:w.heap.size+1≠D.heap.size:=by omega
   have g6:w.heap.size+1+1≠D.heap.size:=by omega
   have g7:W1.heap.size≠D.heap.size:=by omega
   clear V n hK;have HI:=Y1 (show x.Is _ from New.below hi a);have a3:Hid (∀b∈ [w.heap.size,w.heap.size+1,W1.heap.size],b < x.lo):=Y1 (by have h1:=h.out.1; have h2:=i.out.1; intro b d; simp at d; omega);have a8:Hid (w.heap.size<=x.lo):=Y1 (by have h2:=i.out.1; omega);have HT:=Y1 ht;have a6:=Y1 (a7.out.same (fun b d=>(Z05 (F:= []) (Z00 (Z00 S.out c) a)).same d (by simp)));clear c a hi f0 ht J M p K H T t z u i h L G;by_cases b6:j+1=l.length
   {have o:Hid (q= .ok ys):=Y1 (by rw[Y.out]; exact if_pos b6);have e5: ((j:Int) !=(l.length:Int) - 1)=false:=by simp; omega
    go_wp2_with fail
    all_goals refine bodyPost_ret (v:= .tuple #[valS x,.agg #[.int .i64 0,.int .i64 0]]) (by simp[results,Tryz.results23,go_sem,valS,z0,x0,z1,z2,z3,z4,z5,x1,x2,g1,g2,g3]) rfl ?_
    all_goals rw[o.out]
    all_goals refine ⟨Z2o (F:= [w.heap.size,w.heap.size+1,W1.heap.size]) E.out HF.out ?_,x,rfl,ZfC HI.out a3.out ?_,a8.out,HT.out⟩
    all_goals repeat' (with_reducible first | refine UpT.drew ?_ | refine UpT.set ?_ _ (Or.inr ?_) _ | exact UpT.refl _ _)
    all_goals simp}
   {have o:Hid (q= .error (90,(Prs.look l j).at_)):=Y1 (by rw[Y.out]; exact if_neg b6);have e5: ((j:Int) !=(l.length:Int) - 1)=true:=by simp; omega
    rcases a6.out with h0 | ⟨g,off,hA,f1,hc⟩
    {omega}
    {have k1:g≠W1.heap.size:=by omega
     have k0:=a5.out g off hA;have k2:g≠w.heap.size:=by have:=U.out; omega
     have k3:g≠w.heap.size+1:=by have:=U.out; omega
     obtain ⟨_,_,t2⟩:=hc j hj;rw[hA];have b7: (Prs.look l j).at_=(l[j]'hj).at_:=by rw[Prs.look_in hj]
     rw[b7] at o;clear hc a6 a7 S a5 U k0 f1 hA HI a3 a8 HT Y b7
     go_wp2_with fail
     go_region
     all_goals go_wp2
     all_goals refine bodyPost_ret (v:= .tuple #[.agg #[.int .i64 0,.string ⟨#[]⟩,.string ⟨#[]⟩,.slice none 0 0,.slice none 0 0],.agg #[.int .i64 90,.int .i64 (l[j]'hj).at_]]) (by simp[results,Tryz.results23,go_sem,valS,z0,x0,z1,z2,z3,z4,z5,x1,x2,g1,g2,g3]) rfl ?_
     all_goals rw[o.out]
     all_goals refine ⟨Z2o (F:= [w.heap.size,w.heap.size+1,W1.heap.size]) E.out HF.out ?_,rfl⟩
     all_goals repeat' (with_reducible first | refine UpT.drew ?_ | refine UpT.set ?_ _ (Or.inr ?_) _ | exact UpT.refl _ _)
     all_goals simp}}
end Go.Proofs.YtkncdbaoaeeoiaaGreatDoor
namespace Go.Proofs.YtkncdbaoaeeoiaaGreatDoor
section
open Go.RowKit Tms
open Shp (Sh)
open Pso (St Ok)
open Prs (R)
theorem Zdp:RdFn 24 Pso.wholeT:=fun A c l hl w ht hg=>Zbt A c l 0 (fun b hb=>by have:=(hl.tok b hb).1; omega) (by omega) (by have:=hl.len; omega) w ht hg
theorem Z3M (s:List UInt8) (E:s.length<=9223372036854775807) (w:World) (k:Gl w):
 Calls Tryz.prog 13 #[.string ⟨s.toArray⟩] w (TySaid (Pso.rdText s Pso.wholeT) w):=by
 have h:=Y1 (Z0V w);have d:=Y1 (Z57 w);have c:=Y1 (Z69 w);have i:=Y1 (Z6G s E 24 (fun _ _=>rfl) Pso.wholeT Zdp (fun l=>Pse.to_wholeT (l:=l)) (aW w) (k.next (Z0V w)));obtain ⟨r,o⟩: ∃r,r=Pso.rdText s Pso.wholeT:=⟨_,rfl⟩;rw[<-o] at i ⊢;clear k o;go_enter Tryz.func13,Tryz.ntmps13
 go_wp2_with fail
 change Calls _ _ _ (aW w) _;refine i.out.mono ?_;generalize aW w=W0 at h d c ⊢;rintro e W1 ⟨g,n⟩;have a:=Y1 (Z00 h.out g);have N:=d.out.1;have F:=c.out.1;obtain ⟨q,⟨t,u,z,A,B⟩,I,J,K,L,M⟩:=d.out.next g;obtain ⟨x0,x1,x2,G,H⟩:=c.out.next g;cases r with
 | ok y=>
  obtain ⟨x,rfl,m,j,p⟩:=n;have C:=Y1 m;have b:Hid (w.heap.size+1+1<=x.lo):=Y1 (by omega);have D:=Y1 p;clear m j p g h d c i;simp only[valS]
  go_wp2_with fail
  all_goals refine bodyPost_ret (v:= .tuple #[valS x,.agg #[.int .i64 0,.int .i64 0]]) (by simp[results,Tryz.results13,go_sem,valS,q,x0,t,u,z,A,B,x1,x2]) rfl ?_
  all_goals refine ⟨Z0U a.out ?_,x,rfl,Z8B C.out b.out ?_,by have:=b.out; omega,D.out⟩
  all_goals repeat' (with_reducible first | refine UpT.drew ?_ | refine UpT.set ?_ _ (Or.inr ?_) _ | exact UpT.refl _ _)
  all_goals simp
 | error f=>
  obtain rfl:=n;clear g h d c i
  go_wp2_with fail
  all_goals refine bodyPost_ret (v:= .tuple #[.agg #[.int .i64 0,.string ⟨#[]⟩,.string ⟨#[]⟩,.slice none 0 0,.slice none 0 0],.agg #[.int .i64 f.1,.int .i64 f.2]]) (by simp[results,Tryz.results13,go_sem,q,x0,t,u,z,A,B,x1,x2]) rfl ?_
  all_goals refine ⟨Z0U a.out ?_,rfl⟩
  all_goals repeat' (with_reducible first | refine UpT.drew ?_ | refine UpT.set ?_ _ (Or.inr ?_) _ | exact UpT.refl _ _)
  all_goals simp
end
end Go.Proofs.YtkncdbaoaeeoiaaGreatDoor
