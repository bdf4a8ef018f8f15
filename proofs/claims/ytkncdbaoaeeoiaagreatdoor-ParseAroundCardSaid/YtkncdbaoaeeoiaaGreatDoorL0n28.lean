/- What the proofs of ParseAround want, part 28. -/
import Derived.Test.YtkncdbaoaeeoiaaGreatDoorL0n27
set_option linter.unusedVariables false
set_option linter.unusedSimpArgs false
set_option linter.unusedSectionVars false
set_option maxRecDepth 100000
set_option maxHeartbeats 16000000
namespace Tms
mutual
def mv (d:Int):Tm->Tm
 | ⟨k,o,na,n,ns,vs,ss,ps,a⟩=>⟨k,o,na,n,ns,vs,ss,mvs d ps,a+d⟩
def mvs (d:Int):List Tm->List Tm
 | []=> []
 | p::ps=>mv d p::mvs d ps
end
theorem ZgZ (d:Int) (l:List Tm):mvs d l=l.map (mv d):=by
 induction l with
 | nil=>rfl
 | cons a l ih=>simp[mvs,ih]
theorem Zji (d:Int) (t:Tm):mv d t=⟨t.kind,t.of_,t.name,t.n,t.names,t.vars,t.shapes,mvs d t.parts,t.at_+d⟩:=by cases t; rfl
theorem Zhj (d:Int) (l:List Tm) (p:Tm):mvs d (l++ [p])=mvs d l++ [mv d p]:=by simp[ZgZ]
theorem Zh8 (d:Int) (t:Tm):strip (mv d t)=strip t:=by
 induction t using Tm.ind with
 | h t ih=>
  rw[Zji,Z13,Z13 t];simp only[ZgZ,List.map_map];congr 1;exact List.map_congr_left (fun p hp=>ih p hp)
theorem Zj1 {d:Int} (e:0<=d) {t:Tm} (h:right t=true):right (mv d t)=true:=by
 induction t using Tm.ind with
 | h t ih=>
  rw[Zji];have b:=right_fits h;have c:0<=t.at_:=by
   unfold fits at b;simp only[Bool.and_eq_true,decide_eq_true_eq] at b;exact b.1.1.1.1.1.1
  refine right_on (Zaq b (by rw[ZgZ]; simp) (by omega)) (fun p hp=> ?_);simp only[ZgZ] at hp;obtain ⟨p0,a,rfl⟩:=List.mem_map.1 hp;exact ih p0 a (right_part h a)
theorem ZhA {d:Int} (e:0<=d) {t:Tm} (h:check t=0):check (mv d t)=0:=by
 obtain ⟨a,b,c⟩:=Z3X h;exact Z3Y (by rw[Zcr (Zh8 d t)]; exact a) (by rw[Zcs (Zh8 d t)]; exact b) (Zj1 e c)
end Tms
namespace Psa
open Pso (St fail misfit want textOf name upperN another loop betw fieldsR fieldsT partsR funT listT othersT bodyT anyT wholeT begin_ bindsR funE letE choiceE Ways wayR matchE argsR listE recR recordE ofE enclosedE valueE atomE chainL chainE bodyE expr wholeE Zi7 ZaI Z3Q)
open Pse (Ok To Goes Ty Ends)
open Prs (look sign no Flt upper tm num)
open Go.Proofs.YtkncdbaoaeeoiaaGreatDoor (Tk)
open Shp (Sh)
open Tms (Tm mv mvs)
theorem back {l:List Tk} {σ τ:St} (h:To l σ τ) (a:τ.2.1=0):σ.2.1=0:=by
 by_cases b:σ.2.1=0
 {exact b}
 {have:=h.2.2 b; rw[this] at a; exact a}
theorem Zjv {l:List Tk} {σ:St} (h:Ok l σ):Pso.Ok l σ:=⟨h.2.1,h.2.2.1⟩
structure Shf (l l':List Tk) (d:Int):Prop where
 len:l'.length=l.length+2
 tok: ∀i,i+1 < l.length->(look l' (i+1)).t=(look l i).t/\(look l' (i+1)).at_=(look l i).at_+d
 ends:Ends l
 close: (look l' l.length).t=⟨6,[41]⟩
 at_: ∀i,0<=(look l i).at_
 at2: ∀i,0<=(look l' i).at_
def sh (σ:St):St:=(σ.1+1,σ.2)
section
variable {l l' : List Tk} {d : Int}
section
variable (h : Shf l l' d)
include h
theorem Shf.pos:1<=l.length:=h.ends.1
theorem Shf.last {i:Nat} (c:i < l.length) (b: (look l i).t.kind≠0):i+1 < l.length:=by
 rcases Nat.lt_or_ge i (l.length - 1) with a | a
 {have:=h.pos; omega}
 {exact absurd (h.ends.2 i a) b}
theorem Shf.at_end {i:Nat} (a:i < l.length) (b: ¬i+1 < l.length): (look l i).t.kind=0/\(look l' (i+1)).t=⟨6,[41]⟩:=by
 have e:i+1=l.length:=by omega
 exact ⟨h.ends.2 i (by omega),by rw[e]; exact h.close⟩
theorem Shf.sign_in {i:Nat} (a:i+1 < l.length) (s:List UInt8):sign l' (i+1) s=sign l i s:=by
 unfold sign; rw[(h.tok i a).1]
end
theorem Shf.sign (h:Shf l l' d) {i:Nat} (f:i < l.length) {s:List UInt8} (g:s≠ [41]):sign l' (i+1) s=sign l i s:=by
 by_cases a:i+1 < l.length
 {exact h.sign_in a s}
 {obtain ⟨b,c⟩:=h.at_end f a;unfold Prs.sign;rw[c,b];have: (([41]:List UInt8)==s)=false:=by
   rw[beq_eq_false_iff_ne]; exact fun e=>g e.symm
  rw[this]; simp}
theorem Shf.kind (h:Shf l l' d) {i:Nat} (j:i < l.length) {k:Int} (b:k≠0) (g:k≠6): (look l' (i+1)).t.kind=k ↔ (look l i).t.kind=k:=by
 by_cases a:i+1 < l.length
 {rw[(h.tok i a).1]}
 {obtain ⟨c,f⟩:=h.at_end j a;rw[c,f];exact ⟨fun e=>absurd e.symm g,fun e=>absurd e.symm b⟩}
structure Live (l:List Tk) (σ:St):Prop where
 ok:Ok l σ
 f:σ.2.1=0
theorem Live.lt {σ:St} (h:Live l σ):σ.1 < l.length:=h.ok.2.2.2 h.f
theorem Live.of {σ τ:St} (h:To l σ τ) (a:τ.2.1=0):Live l τ:=⟨h.1,a⟩
section
variable (h : Shf l l' d) {σ : St} (hσ : Live l σ)
include h σ hσ
theorem Zft {s:List UInt8} (b: (want l σ s).2.1=0):want l' (sh σ) s=sh (want l σ s)/\(want l σ s).1=σ.1+1:=by
 obtain ⟨a,c⟩:=Zi7 b;have e:=h.last hσ.lt (Pse.sign_lt a);rw[c];refine ⟨?_,rfl⟩;unfold want;rw[if_pos (by show Prs.sign l' (σ.1+1) s=true; rw[h.sign_in e]; exact a)];rfl
theorem Zh0 {k:Int} (g:k≠0) {a:List UInt8->Bool} (b: (textOf l σ k a).2.2.1=0):textOf l' (sh σ) k a=((textOf l σ k a).1,sh (textOf l σ k a).2)/\σ.1+1 < l.length:=by
 have f:=(ZaI b).1;have e:=h.last hσ.lt (by rw[f]; exact g);refine ⟨?_,e⟩;have i: (look l' (sh σ).1).t=(look l σ.1).t:=(h.tok σ.1 e).1;unfold textOf at b ⊢;rw[i];by_cases c: (decide ((look l σ.1).t.kind=k)&&a (look l σ.1).t.text)=true
 {rw[if_pos c,if_pos c]; rfl}
 {rw[if_neg c] at b; exact absurd b (Z3Q (by decide))}
theorem ZgG (a: (name l σ).2.2.1=0):name l' (sh σ)=((name l σ).1,sh (name l σ).2)/\σ.1+1 < l.length:=Zh0 h hσ (by decide) a
theorem ZgR (a: (upperN l σ).2.2.1=0):upperN l' (sh σ)=((upperN l σ).1,sh (upperN l σ).2)/\σ.1+1 < l.length:=Zh0 h hσ (by decide) a
theorem ZgO {ns:List (List UInt8)} (a: (another l σ ns).2.2.1=0):another l' (sh σ) ns=((another l σ ns).1,sh (another l σ ns).2)/\σ.1+1 < l.length:=by
 unfold another at a ⊢;simp only at a ⊢;by_cases b:ns.contains (name l σ).1=true
 {rw[if_pos b] at a; exact absurd a (Z3Q (by decide))}
 {rw[if_neg b] at a;obtain ⟨c,e⟩:=ZgG h hσ a;rw[c];simp only;rw[if_neg b,if_neg b];exact ⟨rfl,e⟩}
end
section
variable {α β : Type}
def Alike (l:List Tk) (m:Nat) (g:α->β) (f:St->α->St×α) (f':St->β->St×β):Prop:=
 ∀σ a,Live l σ->l.length - σ.1 < m->(f σ a).1.2.1=0->f' (sh σ) (g a)=(sh (f σ a).1,g (f σ a).2)/\σ.1+1 < l.length
theorem Zi8 (h:Shf l l' d) {m:Nat} {g:α->β} {f:St->α->St×α} {i:St->β->St×β} (q:Alike l m g f i) (k:Goes l f) {s:List UInt8} (r:s≠ [41]): ∀n n' σ a,Live l σ->l.length - σ.1 < m->l.length - σ.1 < n->l.length - σ.1 < n'->(loop l s f n σ a).1.2.1=0->loop l' s i n' (sh σ) (g a)=(sh (loop l s f n σ a).1,g (loop l s f n σ a).2)
 | 0,_,_,_,_,_,b,_,_=>absurd b (by omega)
 | _,0,_,_,_,_,_,b,_=>absurd b (by omega)
 | n+1,n'+1,σ,a,hσ,hm,hn,hn',h0=>by
  have o:=hσ.lt;unfold loop at h0 ⊢;have e:sign l' (sh σ).1 s=sign l σ.1 s:=h.sign o r;rw[e];by_cases c:sign l σ.1 s=true
  {rw[if_pos c] at h0 ⊢;rw[if_pos c];have b:=Pse.to_next hσ.ok (Pse.sign_lt c);have j:=k _ a b.1;have t:=Pse.to_loop (s:=s) k n _ (f (σ.1+1,σ.2) a).2 j.1;have y:Live l (σ.1+1,σ.2):=⟨b.1,hσ.f⟩;have p:=back t h0;obtain ⟨v,z⟩:=q (σ.1+1,σ.2) a y (by simp only; omega) p;have w:i ((sh σ).1+1,(sh σ).2) (g a)=(sh (f (σ.1+1,σ.2) a).1,g (f (σ.1+1,σ.2) a).2):=v;rw[w];have u:=j.2.1;simp only at u;exact Zi8 h q k r n n' _ _ ⟨j.1,p⟩ (by omega) (by omega) (by omega) h0}
  {rw[if_neg c] at h0 ⊢;rw[if_neg c]}
theorem ZgH (h:Shf l l' d) {m:Nat} {g:α->β} {f:St->α->St×α} {w:St->β->St×β} (y:Alike l m g f w) (k:Goes l f) {o s e:List UInt8} (B:s≠ [41]) {σ:St} {a:α} (i:Live l σ) (K:l.length - σ.1<=m) (b: (betw l o s e f σ a).1.2.1=0):betw l' o s e w (sh σ) (g a)=(sh (betw l o s e f σ a).1,g (betw l o s e f σ a).2)/\σ.1 < (betw l o s e f σ a).1.1:=by
 have A:=i.lt;have C:=Pse.to_betw (o:=o) (s:=s) (e:=e) k a i.ok;have t:=Pse.to_want i.ok o;unfold betw at b ⊢;simp only at b ⊢;by_cases c:sign l (want l σ o).1 e=true
 {rw[if_pos c] at b ⊢;obtain ⟨u,I⟩:=Zft h i b;have r:Live l (want l σ o):=⟨t.1,b⟩;have z:=h.last r.lt (Pse.sign_lt c);rw[u];rw[if_pos (by show sign l' ((want l σ o).1+1) e=true; rw[h.sign_in z]; exact c)];exact ⟨rfl,by simp only; omega⟩}
 {rw[if_neg c] at b ⊢;have j:=k _ a t.1;have n:=Pse.to_loop (s:=s) k (l.length+1) _ (f (want l σ o) a).2 j.1;have H:=Pse.to_want n.1 e;have q:=back H b;have p:=back n q;have v:=back j p;obtain ⟨u,I⟩:=Zft h i v;have r:Live l (want l σ o):=⟨t.1,v⟩;have G:Live l (f (want l σ o) a).1:=⟨j.1,p⟩;obtain ⟨D,E⟩:=y _ a r (by omega) p;rw[u];rw[if_neg (by show ¬sign l' ((want l σ o).1+1) e=true; rw[h.sign_in E]; exact c)];rw[D];have L:=j.2.1;have F:=Zi8 h y k B (l.length+1) (l'.length+1) _ (f (want l σ o) a).2 G (by omega) (by omega) (by have:=h.len; omega) q;rw[F];obtain ⟨J,M⟩:=Zft h ⟨n.1,q⟩ b;rw[J];exact ⟨rfl,by have:=n.2.1; have:=j.2.1; simp only; omega⟩}
end
section
variable {m : Nat} {ty ty' : St -> Sh × St}
def TyA (l:List Tk) (m:Nat) (ty ty':St->Sh×St):Prop:= ∀σ,Live l σ->l.length - σ.1 < m->(ty σ).2.2.1=0->ty' (sh σ)=((ty σ).1,sh (ty σ).2)/\σ.1+1 < l.length
theorem Zhm (h:Shf l l' d) (i:Ty l ty) (g:TyA l m ty ty'):Alike l m id (fieldsR l ty) (fieldsR l' ty'):=fun σ a hσ hm h0=>by
 have c:=Pse.to_another hσ.ok a.1;have e:=Pse.to_want c.1 [58];have p:=i _ e.1;have b:=back p h0;have f:=back e b;obtain ⟨j,k⟩:=ZgO h hσ f;obtain ⟨n,r⟩:=Zft h ⟨c.1,f⟩ b;have q:=c.2.1;obtain ⟨o,_⟩:=g _ ⟨e.1,b⟩ (by omega) h0;refine ⟨?_,k⟩;simp only[fieldsR,id];rw[j];simp only;rw[n,o]
theorem Zj2 (b:TyA l m ty ty'):Alike l m id (partsR l ty) (partsR l' ty'):=fun σ a hσ hm h0=>by
 obtain ⟨c,e⟩:=b σ hσ hm h0;refine ⟨?_,e⟩;simp only[partsR,id];rw[c]
theorem Zjk (h:Shf l l' d) (n:Ty l ty) (w:TyA l m ty ty'):TyA l (m+1) (bodyT l ty) (bodyT l' ty'):=fun σ hσ hm h0=>by
 have b:=hσ.lt;have D: ([40]:List UInt8)≠ [41]:=by decide
 unfold bodyT at h0 ⊢;rw[show (sh σ).1=σ.1+1 from rfl,h.sign b (s:= [91]) (by decide),h.sign b (s:= [123]) (by decide),h.sign b (s:= [60]) (by decide),h.sign b (s:= [40]) (by decide)];by_cases p:sign l σ.1 [91]=true
 {rw[if_pos p] at h0 ⊢;rw[if_pos p];have j:=Pse.to_next hσ.ok (Pse.sign_lt p);have i:=n _ j.1;have A:=Pse.to_want i.1 [93];have g:=back A h0;have c:=h.last b (Pse.sign_lt p);obtain ⟨f,F⟩:=w (σ.1+1,σ.2) ⟨j.1,hσ.f⟩ (by simp only; omega) g;obtain ⟨z,C⟩:=Zft h ⟨i.1,g⟩ h0;refine ⟨?_,c⟩;unfold listT;simp only;rw[show ((σ.1+1+1,(sh σ).2):St)=sh (σ.1+1,σ.2) from rfl,f];simp only;rw[z]}
 rw[if_neg p] at h0 ⊢;rw[if_neg p];by_cases r:sign l σ.1 [123]=true
 {rw[if_pos r] at h0 ⊢;rw[if_pos r];have c:=h.last b (Pse.sign_lt r);obtain ⟨f,_⟩:=ZgH h (Zhm h n w) (Pse.goes_fields n) (o:= [123]) (s:= [44]) (e:= [125]) (by decide) (a:=([],[])) hσ (by omega) h0;refine ⟨?_,c⟩;unfold fieldsT;simp only;rw[show (([],[]):List (List UInt8)×List Sh)=id ([],[]) from rfl,f];rfl}
 rw[if_neg r] at h0 ⊢;rw[if_neg r];by_cases t:sign l σ.1 [60]=true
 {rw[if_pos t] at h0 ⊢;rw[if_pos t];have c:=h.last b (Pse.sign_lt t);obtain ⟨f,_⟩:=ZgH h (Zhm h n w) (Pse.goes_fields n) (o:= [60]) (s:= [124]) (e:= [62]) (by decide) (a:=([],[])) hσ (by omega) h0;refine ⟨?_,c⟩;unfold fieldsT;simp only;rw[show (([],[]):List (List UInt8)×List Sh)=id ([],[]) from rfl,f];rfl}
 rw[if_neg t] at h0 ⊢;rw[if_neg t];by_cases u:sign l σ.1 [40]=true
 {rw[if_pos u] at h0 ⊢;rw[if_pos u];have c:=h.last b (Pse.sign_lt u);have j:=Pse.to_betw (o:= [40]) (s:= [44]) (e:= [41]) (Pse.goes_parts n) [] hσ.ok;have i:=Pse.to_want j.1 [45,62];have A:=n _ i.1;have g:=back A h0;have q:=back i g;obtain ⟨f,G⟩:=ZgH h (Zj2 w) (Pse.goes_parts n) (o:= [40]) (s:= [44]) (e:= [41]) (by decide) (a:= []) hσ (by omega) q;obtain ⟨z,C⟩:=Zft h ⟨j.1,q⟩ g;have E:=j.2.1;obtain ⟨B,_⟩:=w _ ⟨i.1,g⟩ (by omega) h0;refine ⟨?_,c⟩;unfold funT;simp only;rw[show ([]:List Sh)=id [] from rfl,f];simp only;rw[z,B];rfl}
 rw[if_neg u] at h0 ⊢;rw[if_neg u];have y:=h.kind b (k:=1) (by decide) (by decide);by_cases v: (look l σ.1).t.kind=1
 {rw[if_pos v] at h0 ⊢;rw[if_pos (y.2 v)];have c:=h.last b (by rw[v]; decide);have j:=Pse.to_name hσ.ok;have i:=Pse.to_want j.1 [47];have A:=Pse.to_upper i.1;have g:=back A h0;have q:=back i g;obtain ⟨f,_⟩:=ZgG h hσ q;obtain ⟨z,C⟩:=Zft h ⟨j.1,q⟩ g;obtain ⟨B,_⟩:=ZgR h ⟨i.1,g⟩ h0;refine ⟨?_,c⟩;unfold othersT;simp only;rw[f];simp only;rw[z,B]}
 rw[if_neg v] at h0 ⊢;rw[if_neg (fun e=>v (y.1 e))];obtain ⟨f,c⟩:=ZgR h hσ h0;refine ⟨?_,c⟩;rw[f]
theorem ZiD (h:Shf l l' d): ∀n n',TyA l (min n n') (anyT l n) (anyT l' n')
 | 0,_=>fun σ hσ hm _=>absurd hm (by have:=hσ.lt; omega)
 | _+1,0=>fun σ hσ hm _=>absurd hm (by have:=hσ.lt; omega)
 | n+1,n'+1=>fun σ hσ hm h0=>Zjk h (Pse.to_anyT n) (ZiD h n n') σ hσ (by omega) h0
theorem ZgI (h:Shf l l' d) {σ:St} (c:Live l σ) (a: (wholeT l σ).2.2.1=0):wholeT l' (sh σ)=((wholeT l σ).1,sh (wholeT l σ).2)/\σ.1+1 < l.length:=by
 have g:=Pse.to_anyT (l.length+1) σ c.ok;unfold wholeT at a ⊢;simp only at a ⊢;by_cases b:Shp.check (anyT l (l.length+1) σ).1=0
 {rw[if_pos b] at a ⊢;obtain ⟨e,f⟩:=ZiD h (l.length+1) (l'.length+1) σ c (by have:=h.len; omega) a;rw[e];simp only;rw[if_pos b];exact ⟨rfl,f⟩}
 {rw[if_neg b] at a; exact absurd a (Z3Q b)}
end
section
variable {m : Nat} {ex ex' : St -> Tm × St}
def ExA (l:List Tk) (d:Int) (m:Nat) (ex ex':St->Tm×St):Prop:= ∀σ,Live l σ->l.length - σ.1 < m->(ex σ).2.2.1=0->ex' (sh σ)=(mv d (ex σ).1,sh (ex σ).2)/\σ.1+1 < l.length
theorem Zj3 (h:Shf l l' d):Alike l m id (bindsR l) (bindsR l'):=fun σ a hσ hm h0=>by
 have f:=Pse.to_another hσ.ok a.1;have c:=Pse.to_want f.1 [58];have n:=Pse.to_wholeT _ c.1;have b:=back n h0;have e:=back c b;obtain ⟨g,i⟩:=ZgO h hσ e;obtain ⟨j,o⟩:=Zft h ⟨f.1,e⟩ b;obtain ⟨k,_⟩:=ZgI h ⟨c.1,b⟩ h0;refine ⟨?_,i⟩;simp only[bindsR,id];rw[g];simp only;rw[j,k]
theorem Zi9 (b:ExA l d m ex ex'):Alike l m (mvs d) (argsR l ex) (argsR l' ex'):=fun σ a hσ hm h0=>by
 obtain ⟨c,e⟩:=b σ hσ hm h0;refine ⟨?_,e⟩;simp only[argsR];rw[c,Tms.Zhj]
def gR (d:Int) (a:List (List UInt8)×List Tm):List (List UInt8)×List Tm:=(a.1,mvs d a.2)
theorem Zjw (h:Shf l l' d) (i:Ty l ex) (g:ExA l d m ex ex'):Alike l m (gR d) (recR l ex) (recR l' ex'):=fun σ a hσ hm h0=>by
 have c:=Pse.to_another hσ.ok a.1;have e:=Pse.to_want c.1 [61];have p:=i _ e.1;have b:=back p h0;have f:=back e b;obtain ⟨j,k⟩:=ZgO h hσ f;obtain ⟨n,r⟩:=Zft h ⟨c.1,f⟩ b;have q:=c.2.1;obtain ⟨o,_⟩:=g _ ⟨e.1,b⟩ (by omega) h0;refine ⟨?_,k⟩;simp only[recR,gR];rw[j];simp only;rw[n,o,Tms.Zhj]
def gW (d:Int) (a:Ways):Ways:=⟨a.names,a.vars,a.shapes,mvs d a.parts⟩
section
variable (h : Shf l l' d) (hT : Ty l ex) (hA : ExA l d m ex ex')
include h hT hA
theorem Zjx:Alike l m (gW d) (wayR l ex) (wayR l' ex'):=fun σ a hσ hm h0=>by
 have r:=Pse.to_another hσ.ok a.names;have b:=Pse.to_want r.1 [40];have c:=Pse.to_name b.1;have e:=Pse.to_want c.1 [58];have f:=Pse.to_wholeT _ e.1;have g:=Pse.to_want f.1 [41];have i:=Pse.to_want g.1 [45,62];have D:=hT _ i.1;have q:=back D h0;have p:=back i q;have o:=back g p;have n:=back f o;have k:=back e n;have j:=back c k;have s:=back b j;obtain ⟨t,C⟩:=ZgO h hσ s;obtain ⟨u,_⟩:=Zft h ⟨r.1,s⟩ j;obtain ⟨v,_⟩:=ZgG h ⟨b.1,j⟩ k;obtain ⟨w,_⟩:=Zft h ⟨c.1,k⟩ n;obtain ⟨y,_⟩:=ZgI h ⟨e.1,n⟩ o;obtain ⟨z,_⟩:=Zft h ⟨f.1,o⟩ p;obtain ⟨A,_⟩:=Zft h ⟨g.1,p⟩ q;obtain ⟨B,_⟩:=hA _ ⟨i.1,q⟩ (by have:=r.2.1; have:=b.2.1; have:=c.2.1; have:=e.2.1; have:=f.2.1; have:=g.2.1; have:=i.2.1; omega) h0;refine ⟨?_,C⟩;simp only[wayR,gW];rw[t];simp only;rw[u,v];simp only;rw[w,y];simp only;rw[z,A,B,Tms.Zhj]
theorem Zjy {σ:St} (a:Int) (j:Live l σ) (r:l.length - σ.1 < m) (i: (funE l ex σ a).2.2.1=0):funE l' ex' (sh σ) (a+d)=(mv d (funE l ex σ a).1,sh (funE l ex σ a).2):=by
 have f:=Pse.to_betw (o:= [40]) (s:= [44]) (e:= [41]) (Pse.goes_binds (l:=l)) ([],[]) j.ok;have b:=Pse.to_want f.1 [45,62];have q:=hT _ b.1;have c:=back q i;have g:=back b c;obtain ⟨k,_⟩:=ZgH h (Zj3 (m:=m) h) Pse.goes_binds (o:= [40]) (s:= [44]) (e:= [41]) (by decide) (a:=([],[])) j (by omega) g;obtain ⟨n,_⟩:=Zft h ⟨f.1,g⟩ c;obtain ⟨p,_⟩:=hA _ ⟨b.1,c⟩ (by have:=f.2.1; have:=b.2.1; omega) i;unfold funE;simp only;rw[show (([],[]):List (List UInt8)×List Sh)=id ([],[]) from rfl,k];simp only;rw[show (id ([],[]):List (List UInt8)×List Sh)=([],[]) from rfl,n,p];rfl
theorem Zjz {σ:St} (a:Int) (o:Live l σ) (v:l.length - σ.1 < m) (n: (letE l ex σ a).2.2.1=0):letE l' ex' (sh σ) (a+d)=(mv d (letE l ex σ a).1,sh (letE l ex σ a).2):=by
 have c:=Pse.to_name o.ok;have b:=Pse.to_want c.1 [61];have e:=hT _ b.1;have f:=Pse.to_want e.1 [105,110];have u:=hT _ f.1;have j:=back u n;have i:=back f j;have g:=back e i;have k:=back b g;obtain ⟨p,_⟩:=ZgG h o k;obtain ⟨q,_⟩:=Zft h ⟨c.1,k⟩ g;obtain ⟨r,_⟩:=hA _ ⟨b.1,g⟩ (by have:=c.2.1; have:=b.2.1; omega) i;obtain ⟨s,_⟩:=Zft h ⟨e.1,i⟩ j;obtain ⟨t,_⟩:=hA _ ⟨f.1,j⟩ (by have:=c.2.1; have:=b.2.1; have:=e.2.1; have:=f.2.1; omega) n;unfold letE;simp only;rw[p];simp only;rw[q,r];simp only;rw[s,t];rfl
theorem ZiE {σ:St} (a:Int) (s:Live l σ) (t:l.length - σ.1 < m) (r: (choiceE l ex σ a).2.2.1=0):choiceE l' ex' (sh σ) (a+d)=(mv d (choiceE l ex σ a).1,sh (choiceE l ex σ a).2):=by
 have c:=hT _ s.ok;have b:=Pse.to_want c.1 [116,104,101,110];have e:=hT _ b.1;have f:=Pse.to_want e.1 [101,108,115,101];have o:=hT _ f.1;have p:=Pse.to_want o.1 [97,115];have C:=Pse.to_wholeT _ p.1;have n:=back C r;have k:=back p n;have j:=back o k;have i:=back f j;have g:=back e i;have q:=back b g;obtain ⟨u,_⟩:=hA _ s t q;obtain ⟨v,_⟩:=Zft h ⟨c.1,q⟩ g;obtain ⟨w,_⟩:=hA _ ⟨b.1,g⟩ (by have:=c.2.1; have:=b.2.1; omega) i;obtain ⟨y,_⟩:=Zft h ⟨e.1,i⟩ j;obtain ⟨z,_⟩:=hA _ ⟨f.1,j⟩ (by have:=c.2.1; have:=b.2.1; have:=e.2.1; have:=f.2.1; omega) k;obtain ⟨A,_⟩:=Zft h ⟨o.1,k⟩ n;obtain ⟨B,_⟩:=ZgI h ⟨p.1,n⟩ r;unfold choiceE;simp only;rw[u];simp only;rw[v,w];simp only;rw[y,z];simp only;rw[A,B];rfl
theorem Zj4 {σ:St} (a:Int) (q:Live l σ) (r:l.length - σ.1 < m) (p: (matchE l ex σ a).2.2.1=0):matchE l' ex' (sh σ) (a+d)=(mv d (matchE l ex σ a).1,sh (matchE l ex σ a).2):=by
 have i:=hT _ q.ok;have b:=Pse.to_want i.1 [111,102];have j:=Pse.to_betw (o:= [123]) (s:= [124]) (e:= [125]) (Pse.goes_way hT) ⟨[],[],[],[(ex σ).1]⟩ b.1;have k:=Pse.to_want j.1 [97,115];have z:=Pse.to_wholeT _ k.1;have g:=back z p;have f:=back k g;have c:=back j f;have n:=back b c;obtain ⟨t,_⟩:=hA _ q r n;obtain ⟨u,_⟩:=Zft h ⟨i.1,n⟩ c;obtain ⟨v,_⟩:=ZgH h (Zjx h hT hA) (Pse.goes_way hT) (o:= [123]) (s:= [124]) (e:= [125]) (by decide) (a:=⟨[],[],[],[(ex σ).1]⟩) ⟨b.1,c⟩ (by have:=i.2.1; have:=b.2.1; omega) f;obtain ⟨w,_⟩:=Zft h ⟨j.1,f⟩ g;obtain ⟨y,_⟩:=ZgI h ⟨k.1,g⟩ p;unfold matchE;simp only;rw[t];simp only;rw[u,show (⟨[],[],[],[mv d (ex σ).1]⟩:Ways)=gW d ⟨[],[],[],[(ex σ).1]⟩ from rfl,v];simp only;rw[w,y];rfl
theorem Zjl {σ:St} (a:Int) (i:Live l σ) (k:l.length - σ.1<=m) (g: (listE l ex σ a).2.2.1=0):listE l' ex' (sh σ) (a+d)=(mv d (listE l ex σ a).1,sh (listE l ex σ a).2):=by
 have j:=Pse.to_betw (o:= [91]) (s:= [44]) (e:= [93]) (Pse.goes_args hT) [] i.ok;have c:=Pse.to_want j.1 [111,102];have r:=Pse.to_wholeT _ c.1;have b:=back r g;have f:=back c b;obtain ⟨n,_⟩:=ZgH h (Zi9 hA) (Pse.goes_args hT) (o:= [91]) (s:= [44]) (e:= [93]) (by decide) (a:= []) i k f;obtain ⟨p,_⟩:=Zft h ⟨j.1,f⟩ b;obtain ⟨q,_⟩:=ZgI h ⟨c.1,b⟩ g;unfold listE;simp only;rw[show ([]:List Tm)=mvs d [] from rfl,n];simp only;rw[show (mvs d []:List Tm)= [] from rfl,p,q];rfl
theorem ZiF {σ:St} (a:Int) (f:Live l σ) (c:l.length - σ.1<=m) (b: (recordE l ex σ a).2.2.1=0):recordE l' ex' (sh σ) (a+d)=(mv d (recordE l ex σ a).1,sh (recordE l ex σ a).2):=by
 obtain ⟨g,_⟩:=ZgH h (Zjw h hT hA) (Pse.goes_rec hT) (o:= [123]) (s:= [44]) (e:= [125]) (by decide) (a:=([],[])) f c b;unfold recordE;simp only;rw[show (([],[]):List (List UInt8)×List Tm)=gR d ([],[]) from rfl,g];rfl
theorem Zii {σ:St} (k:Int) (b:List UInt8) (a:Int) (e:Live l σ) (r:l.length - σ.1<=m) (i: (ofE l ex k b σ a).2.2.1=0):ofE l' ex' k b (sh σ) (a+d)=(mv d (ofE l ex k b σ a).1,sh (ofE l ex k b σ a).2):=by
 have j:=Pse.to_want e.ok [40];have f:=hT _ j.1;have q:=Pse.to_want f.1 [41];have c:=back q i;have g:=back f c;obtain ⟨n,s⟩:=Zft h e g;obtain ⟨o,_⟩:=hA _ ⟨j.1,g⟩ (by have:=e.lt; omega) c;obtain ⟨p,_⟩:=Zft h ⟨f.1,c⟩ i;unfold ofE;simp only;rw[n,o];simp only;rw[p];rfl
theorem ZhU {σ:St} (a:Int) (n:Live l σ) (p:l.length - σ.1 < m) (b: (enclosedE l ex σ a).2.2.1=0):enclosedE l' ex' (sh σ) (a+d)=(mv d (enclosedE l ex σ a).1,sh (enclosedE l ex σ a).2):=by
 have g:=hT _ n.ok;have i: (ex σ).2.2.1=0:=by
  unfold enclosedE at b;simp only at b;split at b
  {next c=>
   have e:=Pse.to_next g.1 (Pse.sign_lt c);have f:=Pse.to_wholeT _ e.1;exact back e (back f (back (Pse.to_want f.1 [41]) b))}
  {exact back (Pse.to_want g.1 [41]) b}
 have o:Live l (ex σ).2:=⟨g.1,i⟩;obtain ⟨r,_⟩:=hA _ n p i;have q:=h.sign o.lt (s:= [97,115]) (by decide);unfold enclosedE at b ⊢;simp only at b ⊢;rw[r];simp only;rw[show (sh (ex σ).2).1=(ex σ).2.1+1 from rfl,q];by_cases c:sign l (ex σ).2.1 [97,115]=true
 {rw[if_pos c] at b ⊢;rw[if_pos c];have e:=Pse.to_next g.1 (Pse.sign_lt c);have f:=Pse.to_wholeT _ e.1;have k:=back (Pse.to_want f.1 [41]) b;obtain ⟨t,_⟩:=ZgI h ⟨e.1,i⟩ k;obtain ⟨j,_⟩:=Zft h ⟨f.1,k⟩ b;rw[show (((ex σ).2.1+1+1,(sh (ex σ).2).2):St)=sh ((ex σ).2.1+1,(ex σ).2.2) from rfl,t];simp only;rw[j];rfl}
 {rw[if_neg c] at b ⊢;rw[if_neg c];obtain ⟨j,_⟩:=Zft h o b;rw[j]}
end
theorem Zj5 (h:Shf l l' d) {σ:St} (a:Int) (i:Live l σ) (b: (valueE l σ a).2.2.1=0):valueE l' (sh σ) (a+d)=(mv d (valueE l σ a).1,sh (valueE l σ a).2):=by
 have g:=Pse.to_name i.ok;have f: (name l σ).2.2.1=0:=by
  unfold valueE at b;simp only at b;split at b
  {next c=>
   have e:=Pse.to_next g.1 (Pse.sign_lt c);exact back e (back (Pse.to_name e.1) b)}
  {exact b}
 have o:Live l (name l σ).2:=⟨g.1,f⟩;obtain ⟨k,_⟩:=ZgG h i f;have j:=h.sign o.lt (s:= [47]) (by decide);unfold valueE at b ⊢;simp only at b ⊢;rw[k];simp only;rw[show (sh (name l σ).2).1=(name l σ).2.1+1 from rfl,j];by_cases c:sign l (name l σ).2.1 [47]=true
 {rw[if_pos c] at b ⊢;rw[if_pos c];have e:=Pse.to_next g.1 (Pse.sign_lt c);obtain ⟨n,_⟩:=ZgG h ⟨e.1,f⟩ b;rw[show (((name l σ).2.1+1+1,(sh (name l σ).2).2):St)=sh ((name l σ).2.1+1,(name l σ).2.2) from rfl,n];rfl}
 {rw[if_neg c] at b ⊢;rw[if_neg c];rfl}
theorem Zjm (h:Shf l l' d) (j:Ty l ex) (u:ExA l d m ex ex') {σ:St} (a:Int) (n:Live l σ) (E:l.length - σ.1<=m) (b: (atomE l ex σ a).2.2.1=0):atomE l' ex' (sh σ) (a+d)=(mv d (atomE l ex σ a).1,sh (atomE l ex σ a).2):=by
 have c:=n.lt;unfold atomE at b ⊢;simp only at b ⊢;rw[show (sh σ).1=σ.1+1 from rfl,h.sign c (s:= [116,114,117,101]) (by decide),h.sign c (s:= [102,97,108,115,101]) (by decide),h.sign c (s:= [40]) (by decide),h.sign c (s:= [123]) (by decide),h.sign c (s:= [64]) (by decide),h.sign c (s:= [110,101,119]) (by decide),h.sign c (s:= [114,97,119]) (by decide)];have B: ((σ.1+1+1,(sh σ).2):St)=sh (σ.1+1,σ.2):=rfl;rw[B];have o: ∀ {s:List UInt8},sign l σ.1 s=true->Live l (σ.1+1,σ.2):=fun hx=>⟨(Pse.to_next n.ok (Pse.sign_lt hx)).1,n.f⟩;by_cases v:sign l σ.1 [116,114,117,101]=true
 {rw[if_pos v] at b ⊢;rw[if_pos v]; rfl}
 rw[if_neg v] at b ⊢;rw[if_neg v];by_cases w:sign l σ.1 [102,97,108,115,101]=true
 {rw[if_pos w] at b ⊢;rw[if_pos w]; rfl}
 rw[if_neg w] at b ⊢;rw[if_neg w];by_cases t:sign l σ.1 [40]=true
 {rw[if_pos t] at b ⊢;rw[if_pos t];exact ZhU h j u a (o t) (by simp only; omega) b}
 rw[if_neg t] at b ⊢;rw[if_neg t];by_cases y:sign l σ.1 [123]=true
 {rw[if_pos y] at b ⊢;rw[if_pos y];exact ZiF h j u a n E b}
 rw[if_neg y] at b ⊢;rw[if_neg y];by_cases p:sign l σ.1 [64]=true
 {rw[if_pos p] at b ⊢;rw[if_pos p];have f:=Pse.to_name (o p).ok;have i:=back (Pse.to_of j _ _ a _ f.1) b;obtain ⟨g,_⟩:=ZgG h (o p) i;rw[g];exact Zii h j u _ _ a ⟨f.1,i⟩ (by have:=f.2.1; simp only at this; omega) b}
 rw[if_neg p] at b ⊢;rw[if_neg p];by_cases q:sign l σ.1 [110,101,119]=true
 {rw[if_pos q] at b ⊢;rw[if_pos q];have f:=Pse.to_upper (o q).ok;have i:=back (Pse.to_of j _ _ a _ f.1) b;obtain ⟨g,_⟩:=ZgR h (o q) i;rw[g];exact Zii h j u _ _ a ⟨f.1,i⟩ (by have:=f.2.1; simp only at this; omega) b}
 rw[if_neg q] at b ⊢;rw[if_neg q];by_cases r:sign l σ.1 [114,97,119]=true
 {rw[if_pos r] at b ⊢;rw[if_pos r];have f:=Pse.to_upper (o r).ok;have i:=back (Pse.to_of j _ _ a _ f.1) b;obtain ⟨g,_⟩:=ZgR h (o r) i;rw[g];exact Zii h j u _ _ a ⟨f.1,i⟩ (by have:=f.2.1; simp only at this; omega) b}
 rw[if_neg r] at b ⊢;rw[if_neg r];have C:=h.kind c (k:=3) (by decide) (by decide);by_cases z: (look l σ.1).t.kind=3
 {rw[if_pos z] at b ⊢;rw[if_pos (C.2 z)];obtain ⟨g,_⟩:=Zh0 h n (by decide) b;rw[g];rfl}
 rw[if_neg z] at b ⊢;rw[if_neg (fun e=>z (C.1 e))];have D:=h.kind c (k:=4) (by decide) (by decide);by_cases A: (look l σ.1).t.kind=4
 {rw[if_pos A] at b ⊢;rw[if_pos (D.2 A)];obtain ⟨g,_⟩:=Zh0 h n (by decide) b;rw[g];rfl}
 rw[if_neg A] at b ⊢;rw[if_neg (fun e=>A (D.1 e))];exact Zj5 h a n b
theorem ZgV (h:Shf l l' d) (c:Ty l ex) (k:ExA l d m ex ex') (a:Int): ∀n n' σ t,Live l σ->l.length - σ.1<=m->l.length - σ.1 < n->l.length - σ.1 < n'->(chainL l ex a n σ t).2.2.1=0->chainL l' ex' (a+d) n' (sh σ) (mv d t)=(mv d (chainL l ex a n σ t).1,sh (chainL l ex a n σ t).2)
 | 0,_,_,_,_,_,b,_,_=>absurd b (by omega)
 | _+1,0,_,_,_,_,_,b,_=>absurd b (by omega)
 | n+1,n'+1,σ,t,hσ,hm,hn,hn',h0=>by
  have g:=hσ.lt;unfold chainL at h0 ⊢;rw[show (sh σ).1=σ.1+1 from rfl,h.sign g (s:= [40]) (by decide),h.sign g (s:= [46]) (by decide)];by_cases b:sign l σ.1 [40]=true
  {rw[if_pos b] at h0 ⊢;rw[if_pos b];have i:=Pse.to_betw (o:= [40]) (s:= [44]) (e:= [41]) (Pse.goes_args c) [t] hσ.ok;have j:=Pse.to_chainL c a n (betw l [40] [44] [41] (argsR l ex) σ [t]).1 { tm 7 a with parts:=(betw l [40] [44] [41] (argsR l ex) σ [t]).2 } i.1;have q:=back j h0;obtain ⟨p,w⟩:=ZgH h (Zi9 k) (Pse.goes_args c) (o:= [40]) (s:= [44]) (e:= [41]) (by decide) (a:= [t]) hσ hm q;rw[show ([mv d t]:List Tm)=mvs d [t] from rfl,p];exact ZgV h c k a n n' _ _ ⟨i.1,q⟩ (by omega) (by omega) (by omega) h0}
  rw[if_neg b] at h0 ⊢;rw[if_neg b];by_cases f:sign l σ.1 [46]=true
  {rw[if_pos f] at h0 ⊢;rw[if_pos f];have i:=Pse.to_next hσ.ok (Pse.sign_lt f);have j:=Pse.to_name i.1;have v:=Pse.to_chainL c a n (name l (σ.1+1,σ.2)).2 { tm 9 a with name:=(name l (σ.1+1,σ.2)).1,parts:= [t] } j.1;have r:=back v h0;obtain ⟨p,_⟩:=ZgG h ⟨i.1,hσ.f⟩ r;have u:=j.2.1;simp only at u;rw[show ((σ.1+1+1,(sh σ).2):St)=sh (σ.1+1,σ.2) from rfl,p];exact ZgV h c k a n n' _ _ ⟨j.1,r⟩ (by omega) (by omega) (by omega) h0}
  {rw[if_neg f] at h0 ⊢;rw[if_neg f]}
theorem Zj6 (h:Shf l l' d) (b:Ty l ex) (c:ExA l d m ex ex') (p:Pso.Ex l (bodyE l ex)):ExA l d (m+1) (bodyE l ex) (bodyE l' ex'):=fun σ hσ hm h0=>by
 have a:=hσ.lt;have o:=p σ (Zjv hσ.ok) h0;have t:σ.1+1 < l.length:=by
  obtain ⟨_,j,_,B,u,_,_⟩:=o;have:=h.last (Pso.kind_lt u) u;omega
 refine ⟨?_,t⟩;have v:begin_ l σ=σ:=if_neg (by have:=h.at_ σ.1; omega);have w:begin_ l' (sh σ)=sh σ:=if_neg (by have:=h.at2 (sh σ).1; omega);have y: (look l' (sh σ).1).at_=(look l σ.1).at_+d:=(h.tok σ.1 t).2;unfold bodyE at h0 ⊢;simp only[v,w,y] at h0 ⊢;rw[show (sh σ).1=σ.1+1 from rfl,h.sign a (s:= [102,117,110]) (by decide),h.sign a (s:= [108,101,116]) (by decide),h.sign a (s:= [105,102]) (by decide),h.sign a (s:= [99,97,115,101]) (by decide),h.sign a (s:= [91]) (by decide)];rw[show ((σ.1+1+1,(sh σ).2):St)=sh (σ.1+1,σ.2) from rfl];have n: ∀ {s:List UInt8},sign l σ.1 s=true->Live l (σ.1+1,σ.2):=fun p=>⟨(Pse.to_next hσ.ok (Pse.sign_lt p)).1,hσ.f⟩;by_cases e:sign l σ.1 [102,117,110]=true
 {rw[if_pos e] at h0 ⊢;rw[if_pos e];exact Zjy h b c _ (n e) (by simp only; omega) h0}
 rw[if_neg e] at h0 ⊢;rw[if_neg e];by_cases f:sign l σ.1 [108,101,116]=true
 {rw[if_pos f] at h0 ⊢;rw[if_pos f];exact Zjz h b c _ (n f) (by simp only; omega) h0}
 rw[if_neg f] at h0 ⊢;rw[if_neg f];by_cases g:sign l σ.1 [105,102]=true
 {rw[if_pos g] at h0 ⊢;rw[if_pos g];exact ZiE h b c _ (n g) (by simp only; omega) h0}
 rw[if_neg g] at h0 ⊢;rw[if_neg g];by_cases i:sign l σ.1 [99,97,115,101]=true
 {rw[if_pos i] at h0 ⊢;rw[if_pos i];exact Zj4 h b c _ (n i) (by simp only; omega) h0}
 rw[if_neg i] at h0 ⊢;rw[if_neg i];by_cases k:sign l σ.1 [91]=true
 {rw[if_pos k] at h0 ⊢;rw[if_pos k];exact Zjl h b c _ hσ (by omega) h0}
 rw[if_neg k] at h0 ⊢;rw[if_neg k];unfold chainE at h0 ⊢;simp only at h0 ⊢;have q:=Pse.to_atom b (look l σ.1).at_ σ hσ.ok;have z:=Pse.to_chainL b (look l σ.1).at_ (l.length+1) _ (atomE l ex σ (look l σ.1).at_).1 q.1;have r:=back z h0;rw[Zjm h b c _ hσ (by omega) r];have A:σ.1<=(atomE l ex σ (look l σ.1).at_).2.1:=q.2.1;exact ZgV h b c _ _ _ _ _ ⟨q.1,r⟩ (by omega) (by omega) (by have:=h.len; omega) h0
theorem Zia (h:Shf l l' d): ∀n n',ExA l d (min n n') (expr l n) (expr l' n')
 | 0,_=>fun σ hσ hm _=>absurd hm (by have:=hσ.lt; omega)
 | _+1,0=>fun σ hσ hm _=>absurd hm (by have:=hσ.lt; omega)
 | n+1,n'+1=>fun σ hσ hm h0=>Zj6 h (Pse.to_expr n) (Zia h n n') (Pso.st_expr (n+1)) σ hσ (by omega) h0
end
theorem around (h:Shf l l' d) (q:0<=d) (v: (look l' 0).t=⟨6,[40]⟩) (r:Ends l') {z:Int} (c: (wholeE l (0,(0,0))).2=(l.length - 1,(0,z))):wholeE l' (0,(0,0))=(mv d (wholeE l (0,(0,0))).1,(l'.length - 1,(0,z)))/\Tms.check (wholeE l (0,(0,0))).1=0:=by
 have g:=h.len;have a:=h.pos;have y:Live l (0,(0,0)):=⟨⟨h.ends,Nat.zero_le _,fun e=>absurd rfl e,fun _=>a⟩,rfl⟩;have f:Tms.check (expr l (l.length+1) (0,(0,0))).1=0:=by
  by_cases f:Tms.check (expr l (l.length+1) (0,(0,0))).1=0
  {exact f}
  {unfold wholeE at c;simp only at c;rw[if_neg f] at c;exact absurd (congrArg (fun x:St=>x.2.1) c) (Z3Q f)}
 have o:wholeE l (0,(0,0))=expr l (l.length+1) (0,(0,0)):=by
  unfold wholeE;simp only;rw[if_pos f]
 rw[o] at c ⊢;refine ⟨?_,f⟩;obtain ⟨i,_⟩:=Zia h (l.length+1) (l'.length) (0,(0,0)) y (by simp only; omega) (by rw[c]);rw[c] at i;have j:expr l' l'.length (1,(0,0))=(mv d (expr l (l.length+1) (0,(0,0))).1,(l.length,(0,z))):=by
  have e:sh (0,(0,0))=(1,(0,0)):=rfl;rw[e] at i;rw[i];unfold sh;simp only;rw[Nat.sub_add_cancel a]
 have b: ∀s:List UInt8,sign l' 0 s=(([40]:List UInt8)==s):=fun s=>by unfold Prs.sign; rw[v]; simp
 have k: ∀s:List UInt8,sign l' l.length s=(([41]:List UInt8)==s):=fun s=>by unfold Prs.sign; rw[h.close]; simp
 have m: ∀s:List UInt8,sign l' (l.length+1) s=false:=fun s=>by
  have u:=r.2 (l.length+1) (by omega);unfold Prs.sign; rw[u]; simp
 have A:expr l' (l'.length+1) (0,(0,0))=(mv d (expr l (l.length+1) (0,(0,0))).1,(l.length+1,(0,z))):=by
  obtain ⟨t,w⟩: ∃t,t=mv d (expr l (l.length+1) (0,(0,0))).1:=⟨_,rfl⟩;rw[<-w] at j ⊢;have n:begin_ l' (0,(0,0))=(0,(0,0)):=if_neg (by have:=h.at2 0; simp only; omega);show bodyE l' (expr l' l'.length) (0,(0,0))=_;unfold bodyE;simp only[n];rw[b,b,b,b,b];simp only[show (([40]:List UInt8)== [102,117,110])=false from rfl,show (([40]:List UInt8)== [108,101,116])=false from rfl,show (([40]:List UInt8)== [105,102])=false from rfl,show (([40]:List UInt8)== [99,97,115,101])=false from rfl,show (([40]:List UInt8)== [91])=false from rfl,Bool.false_eq_true,if_false];unfold chainE;have p:atomE l' (expr l' l'.length) (0,(0,0)) (look l' 0).at_=(t,(l.length+1,(0,z))):=by
   unfold atomE;simp only;rw[b,b,b];simp only[show (([40]:List UInt8)== [116,114,117,101])=false from rfl,show (([40]:List UInt8)== [102,97,108,115,101])=false from rfl,show (([40]:List UInt8)== [40])=true from rfl,Bool.false_eq_true,if_false,if_true];unfold enclosedE;simp only;rw[show (0+1,((0,0):Flt))=((1,(0,0)):St) from rfl,j];simp only;rw[k];simp only[show (([41]:List UInt8)== [97,115])=false from rfl,Bool.false_eq_true,if_false];unfold want;simp only;rw[k];simp only[show (([41]:List UInt8)== [41])=true from rfl,if_true]
  simp only[p];unfold chainL;simp only;rw[m,m];simp
 unfold wholeE;simp only;rw[A];simp only;rw[if_pos (Tms.ZhA q f),g];rfl
end
theorem Zib {l:List Tk} (h: ∀x∈l,0<=x.at_) (i:Nat):0<=(look l i).at_:=by
 unfold look;cases a:l[i]? with
 | some t=>exact h t (List.mem_of_getElem? a)
 | none=>
  cases b:l.getLast? with
  | some t=>exact h t (List.mem_of_getLast? b)
  | none=>exact Int.le_refl _
theorem look_of {l:List Tk} {i:Nat} {t:Tk} (h:l[i]? =some t):look l i=t:=by unfold look; rw[h]
theorem Zjn {l:List Tk} {e:Tk} (a:e.t.kind=0):Ends (l++ [e]):=by
 refine ⟨by simp,fun i hi=> ?_⟩;rw[List.length_append,List.length_singleton] at hi;by_cases h:i=l.length
 {subst h;rw[look_of (t:=e) (by simp)]; exact a}
 {unfold look;rw[List.getElem?_eq_none (by simp; omega),List.getLast?_concat]}
theorem shf_of {a:List Tk} {o c e g:Tk} {d:Int} (u:0<=d) (p:e.t.kind=0) (n:c.t=⟨6,[41]⟩) (j: ∀x∈a,0<=x.at_) (q:0<=o.at_) (k:0<=e.at_) (l:0<=c.at_) (m:0<=g.at_):
 Shf (a++ [e]) (o::(a.map (fun x=>(⟨x.t,x.at_+d⟩:Tk))++ [c])++ [g]) d:=by
 refine ⟨by simp,fun i hi=> ?_,Zjn p, ?_,Zib (fun x b=> ?_),Zib (fun x b=> ?_)⟩
 {rw[List.length_append,List.length_singleton] at hi;have f:i < a.length:=by omega
  have q1:look (a++ [e]) i=a[i]'f:=look_of (by rw[List.getElem?_append_left f,List.getElem?_eq_getElem f]);have s:look (o::(a.map (fun x=>(⟨x.t,x.at_+d⟩:Tk))++ [c])++ [g]) (i+1)=⟨(a[i]'f).t,(a[i]'f).at_+d⟩:=look_of (by
   rw[List.cons_append,List.getElem?_cons_succ,List.append_assoc,List.getElem?_append_left (by simpa using f),List.getElem?_map,List.getElem?_eq_getElem f]; rfl)
  rw[q1,s];exact ⟨rfl,rfl⟩}
 {rw[List.length_append,List.length_singleton];rw[look_of (t:=c) (by
   rw[List.cons_append,List.getElem?_cons_succ,List.append_assoc,List.getElem?_append_right (by simp)]; simp)]
  exact n}
 {rcases List.mem_append.1 b with b | b
  {exact j x b}
  {obtain rfl:x=e:=by simpa using b
   exact k}}
 {have h:x=o\/(∃y∈a,x=(⟨y.t,y.at_+d⟩:Tk))\/x=c\/x=g:=by
   rcases List.mem_append.1 b with b | b
   {rcases List.mem_cons.1 b with b | b
    {exact Or.inl b}
    {rcases List.mem_append.1 b with b | b
     {obtain ⟨y,hy,r⟩:=List.mem_map.1 b;exact Or.inr (Or.inl ⟨y,hy,r.symm⟩)}
     {exact Or.inr (Or.inr (Or.inl (by simpa using b)))}}}
   {exact Or.inr (Or.inr (Or.inr (by simpa using b)))}
  rcases h with rfl | ⟨y,hy,rfl⟩ | rfl | rfl
  {exact q}
  {have:=j y hy; simp only; omega}
  {exact l}
  {exact m}}
end Psa
namespace Lex
section
def parenT (s:List UInt8):List UInt8:= [40,32]++s++ [10,41]
theorem Zij (r:List UInt8):token (40::32::r)= .ok (⟨6,[40]⟩,1):=by
 unfold token;simp only;rw[if_neg (by decide),if_neg (by decide),if_neg (by decide)];have h: (decide (2<=(40::32::r:List UInt8).length)&&isSign ((40::32::r:List UInt8).take 2))=false:=by
  have: ((40::32::r:List UInt8).take 2)= [40,32]:=rfl;rw[this,show isSign [40,32]=false from by decide,Bool.and_false]
 rw[h];simp only[Bool.false_eq_true,if_false];rw[if_pos (by decide)]
theorem ZhV:token [41]= .ok (⟨6,[41]⟩,1):=by
 unfold token;simp only;rw[if_neg (by decide),if_neg (by decide),if_neg (by decide),if_neg (by decide),if_pos (by decide)]
theorem Zik {s:List UInt8} {l:List (Tok×Nat)} (h:toks s 0= .ok l):toks (parenT s) 0= .ok ((⟨6,[40]⟩,0)::(l.map (fun x=>(x.1,x.2+2))++ [(⟨6,[41]⟩,s.length+3)])):=by
 have e:parenT s=40::32::(s++10:: [41]):=by simp[parenT]
 rw[e,Z0G (by simp) (fun c hc=>by
  obtain rfl:40=c:=by simpa using hc
  decide) rfl,Zij]
 simp only[List.drop_succ_cons,List.drop_zero];rw[Z0l (by decide),Z2O s.length s _ _ (Nat.le_refl _),Z2P s.length s 0 2 (Nat.le_refl _),h];simp only;rw[Z0G (l:= [41]) (by simp) (fun c hc=>by
  obtain rfl:41=c:=by simpa using hc
  decide) rfl,ZhV]
 simp only[List.drop_succ_cons,List.drop_zero,Z36,Except.map];rw[show 0+1+1+s.length+1=s.length+3 from by omega]
end
end Lex
namespace Pso
section
open Go.Proofs.YtkncdbaoaeeoiaaGreatDoor (Tk tkOf scanned)
open Prs (Flt R look)
open Lex (Tok Placed parenT)
open Tms (Tm mv)
theorem Zil {s:List UInt8} {m:List (Tok×Nat)} (h:Lex.scanR s= .ok m) (f:s.length+4<=4096): ∃a o c e e2:Tk,∃b:List Tk,∃m',tkOf m=b++ [e]/\Lex.scanR (parenT s)= .ok m'/\tkOf m'=o::(b.map (fun x=>(⟨x.t,x.at_+2⟩:Tk))++ [c])++ [e2]/\e.t.kind=0/\c.t=⟨6,[41]⟩/\o.t=⟨6,[40]⟩/\(∀x∈b,0<=x.at_)/\0<=o.at_/\0<=e.at_/\0<=c.at_/\0<=e2.at_:=by
 obtain ⟨g,l,d,rfl⟩:=Lex.Z4V h;refine ⟨⟨⟨0,[]⟩,0⟩,⟨⟨6,[40]⟩,((0:Nat):Int)⟩,⟨⟨6,[41]⟩,((s.length+3:Nat):Int)⟩,⟨Lex.endTok,(s.length:Int)⟩,⟨⟨0,[]⟩,(((parenT s).length:Nat):Int)⟩,tkOf l,((⟨6,[40]⟩,0)::(l.map (fun x=>(x.1,x.2+2))++ [(⟨6,[41]⟩,s.length+3)]))++ [(⟨0,[]⟩,(parenT s).length)],by simp[tkOf], ?_, ?_,rfl,rfl,rfl,fun x hx=> ?_,by simp,by simp only; omega,by simp only; omega,by simp only; omega⟩
 {unfold Lex.scanR;rw[if_neg (by simp[parenT]; omega),Lex.Zik d]}
 {simp[tkOf]}
 {unfold tkOf at hx;obtain ⟨y,_,rfl⟩:=List.mem_map.1 hx;exact Int.natCast_nonneg _}
theorem around_holds {s:List UInt8} {t:Tm} (h:rdText s wholeE= .ok t) (n:s.length+4<=4096):rdText (parenT s) wholeE= .ok (mv 2 t)/\Tms.check t=0:=by
 obtain ⟨m,y,k,B,I⟩:=Z8Y h;obtain ⟨_,o,c,e,G,b,d,r,a,f,v,u,z,q,C,D,E,F⟩:=Zil y n;have p:Psa.Shf (tkOf m) (tkOf d) 2:=by
  rw[r,f];exact Psa.shf_of (by decide) v u q C D E F
 have j:=(scanned a).ends;have H:=(scanned a).len;have w: (look (tkOf d) 0).t=⟨6,[40]⟩:=by
  rw[f,Psa.look_of (t:=o) (by simp)]; exact z
 have l: (wholeE (tkOf m) (0,(0,0))).2=((tkOf m).length - 1,(0,(wholeE (tkOf m) (0,(0,0))).2.2.2)):=by
  exact Prod.ext (by show (wholeE (tkOf m) (0,(0,0))).2.1=(tkOf m).length - 1; omega) (Prod.ext k rfl)
 obtain ⟨g,i⟩:=Psa.around p (by decide) w j l;rw[B] at g i;refine ⟨?_,i⟩;rw[rdText_ok a];have J:1<=(tkOf d).length:=j.1;have A:rd (tkOf d) 0 (wholeE (tkOf d))= .ok (mv 2 t,(tkOf d).length - 1):=by
  unfold rd;rw[if_neg (by omega),if_neg (by omega)];rw[show (0:Int).toNat=0 from rfl,g];simp
 rw[A];unfold close;simp only;rw[if_pos (by omega)]
end
end Pso
namespace Tms
section
mutual
def slim:Tm->Bool
 | ⟨_,_,_,_,ns,_,_,ps,_⟩=>decide (ns.length<=100000000)&&slims ps
def slims:List Tm->Bool
 | []=>true
 | p::ps=>slim p&&slims ps
end
theorem Zhk (t:Tm):slim t=(decide (t.names.length<=100000000)&&slims t.parts):=by cases t; rfl
theorem Zhn (l:List Tm):slims l=l.all slim:=by
 induction l with
 | nil=>rfl
 | cons a l ih=>simp[slims,ih]
theorem ZhB {t:Tm} (h:slim t=true):t.names.length<=100000000:=by
 rw[Zhk,Bool.and_eq_true,decide_eq_true_eq] at h; exact h.1
theorem Zho {t p:Tm} (h:slim t=true) (a:p∈t.parts):slim p=true:=by
 rw[Zhk,Zhn,Bool.and_eq_true,List.all_eq_true] at h; exact h.2 p a
theorem Zgy {t:Tm} (h:t.names.length<=100000000) (a: ∀p∈t.parts,slim p=true):slim t=true:=by
 rw[Zhk,Zhn,Bool.and_eq_true,decide_eq_true_eq,List.all_eq_true]; exact ⟨h,a⟩
theorem Zj7 {t:Tm} (h:slim t=true):few t=true:=by
 induction t using Tm.ind with
 | h t ih=>
  rw[Z3C,Z43,Bool.and_eq_true,decide_eq_true_eq,List.all_eq_true];exact ⟨by have:=ZhB h; omega,fun p hp=>ih p hp (Zho h hp)⟩
end
end Tms
namespace Pso
section
open Prs (look sign no Flt upper tm num)
open Go.Proofs.YtkncdbaoaeeoiaaGreatDoor (Tk tkOf scanned)
open Shp (Sh)
open Tms (Tm slim Zgy)
theorem ZhC {l:List Tk} {α:Type} {s:List UInt8} {f:St->α->St×α} (I:Nat->α->Prop) (b: ∀k σ a,I k a->I (k+1) (f σ a).2) (c: ∀k j a,I k a->k<=j->I j a): ∀n k σ a,I k a->I (k+n) (loop l s f n σ a).2
 | 0,_,_,_,h=>h
 | n+1,k,σ,a,h=>by
  unfold loop;split
  {rw[show k+(n+1)=k+1+n from by omega];exact ZhC I b c n (k+1) _ _ (b k (σ.1+1,σ.2) a h)}
  {exact c _ _ _ h (by omega)}
theorem ZgS {l:List Tk} {α:Type} {o s e:List UInt8} {f:St->α->St×α} (I:Nat->α->Prop) (b: ∀k σ a,I k a->I (k+1) (f σ a).2) (c: ∀k j a,I k a->k<=j->I j a) {σ:St} {a:α} (h:I 0 a):I (l.length+2) (betw l o s e f σ a).2:=by
 unfold betw;simp only;split
 {exact c _ _ _ h (by omega)}
 {rw[show l.length+2=0+1+(l.length+1) from by omega];exact ZhC (l:=l) (s:=s) I b c (l.length+1) (0+1) _ _ (b 0 (want l σ o) a h)}
def Sl (ps:List Tm):Prop:= ∀p∈ps,slim p=true
theorem ZgE:Sl []:=fun p hp=>by simp at hp
theorem ZgA {ps:List Tm} (h:Sl ps) {p:Tm} (b:slim p=true):Sl (ps++ [p]):=fun x a=>by
 rcases List.mem_append.1 a with a | a
 {exact h x a}
 {obtain rfl:x=p:=by simpa using a
  exact b}
section
variable {l : List Tk} {ex : St -> Tm × St} (hl : l.length <= 100000) (hE : ∀ σ, slim (ex σ).1 = true)
include hl
theorem Zim {t:Tm} (b:t.names.length<=l.length+2) (a:Sl t.parts):slim t=true:=Zgy (by omega) a
omit hl in
theorem Zic {σ:St} {o s e:List UInt8} {a:List Tm} (hE: ∀σ,slim (ex σ).1=true) (h:Sl a):Sl (betw l o s e (argsR l ex) σ a).2:=
 ZgS (fun _ a=>Sl a) (fun k σ a h=>ZgA h (hE σ)) (fun _ _ _ h _=>h) h
section
variable {σ : St} {a : Int}
include σ a
theorem ZjA (hE: ∀σ,slim (ex σ).1=true):slim (funE l ex σ a).1=true:=by
 refine Zim hl ?_ (ZgA ZgE (hE _));exact ZgS (f:=bindsR l) (fun k (a:List (List UInt8)×List Sh)=>a.1.length<=k) (fun k σ a h=>by simp[bindsR,another]; exact h) (fun _ _ _ h hk=>Nat.le_trans h hk) (Nat.le_refl 0)
theorem ZjB (hE: ∀σ,slim (ex σ).1=true):slim (letE l ex σ a).1=true:=
 Zgy (by simp[letE,tm]) (ZgA (ZgA ZgE (hE _)) (hE _))
theorem ZiH (hE: ∀σ,slim (ex σ).1=true):slim (choiceE l ex σ a).1=true:=
 Zgy (by simp[choiceE,tm]) (ZgA (ZgA (ZgA ZgE (hE _)) (hE _)) (hE _))
theorem Zj8 (hE: ∀σ,slim (ex σ).1=true):slim (matchE l ex σ a).1=true:=by
 have h:=ZgS (l:=l) (o:= [123]) (s:= [124]) (e:= [125]) (f:=wayR l ex) (σ:=want l (ex σ).2 [111,102]) (a:=⟨[],[],[],[(ex σ).1]⟩) (fun k (a:Ways)=>a.names.length<=k/\Sl a.parts) (fun k σ a h=>⟨by simp[wayR,another]; exact h.1,ZgA h.2 (hE _)⟩) (fun _ _ _ h hk=>⟨Nat.le_trans h.1 hk,h.2⟩) ⟨Nat.le_refl 0,ZgA ZgE (hE σ)⟩;exact Zim hl h.1 h.2
theorem Zjo (hE: ∀σ,slim (ex σ).1=true):slim (listE l ex σ a).1=true:=
 Zgy (by simp[listE,tm]) (Zic hE ZgE)
theorem ZiI (hE: ∀σ,slim (ex σ).1=true):slim (recordE l ex σ a).1=true:=by
 have h:=ZgS (l:=l) (o:= [123]) (s:= [44]) (e:= [125]) (f:=recR l ex) (σ:=σ) (a:=([],[])) (fun k (a:List (List UInt8)×List Tm)=>a.1.length<=k/\Sl a.2) (fun k σ a h=>⟨by simp[recR,another]; exact h.1,ZgA h.2 (hE _)⟩) (fun _ _ _ h hk=>⟨Nat.le_trans h.1 hk,h.2⟩) ⟨Nat.le_refl 0,ZgE⟩;exact Zim hl h.1 h.2
end
theorem Zin {k:Int} {b:List UInt8} {σ:St} {a:Int} (hE: ∀σ,slim (ex σ).1=true):slim (ofE l ex k b σ a).1=true:=
 Zgy (by simp[ofE,tm]) (ZgA ZgE (hE _))
theorem ZhW {σ:St} {a:Int} (hE: ∀σ,slim (ex σ).1=true):slim (enclosedE l ex σ a).1=true:=by
 unfold enclosedE;simp only;split
 {exact Zgy (by simp[tm]) (ZgA ZgE (hE _))}
 {exact hE _}
theorem ZgJ {t:Tm} (a:t.names= []) (b:t.parts= []):slim t=true:=Zgy (by rw[a]; simp) (by rw[b]; exact ZgE)
theorem Zjp {σ:St} {a:Int} (hE: ∀σ,slim (ex σ).1=true):slim (atomE l ex σ a).1=true:=by
 unfold atomE;simp only;split
 {exact ZgJ hl rfl rfl}
 split
 {exact ZgJ hl rfl rfl}
 split
 {exact ZhW hl hE}
 split
 {exact ZiI hl hE}
 split
 {exact Zin hl hE}
 split
 {exact Zin hl hE}
 split
 {exact Zin hl hE}
 split
 {exact ZgJ hl rfl rfl}
 split
 {exact ZgJ hl rfl rfl}
 unfold valueE;simp only;split
 {exact ZgJ hl rfl rfl}
 {exact ZgJ hl rfl rfl}
theorem ZgW {a:Int} (hE: ∀σ,slim (ex σ).1=true): ∀n σ t,slim t=true->slim (chainL l ex a n σ t).1=true
 | 0,_,_,h=>h
 | n+1,σ,t,h=>by
  unfold chainL;simp only;split
  {exact ZgW hE n _ _ (Zgy (by simp[tm]) (Zic hE (ZgA ZgE h)))}
  split
  {exact ZgW hE n _ _ (Zgy (by simp[tm]) (ZgA ZgE h))}
  {exact h}
theorem Zjq (hE: ∀σ,slim (ex σ).1=true) (σ:St):slim (bodyE l ex σ).1=true:=by
 unfold bodyE;simp only;split
 {exact ZjA hl hE}
 split
 {exact ZjB hl hE}
 split
 {exact ZiH hl hE}
 split
 {exact Zj8 hl hE}
 split
 {exact Zjo hl hE}
 {exact ZgW hl hE _ _ _ (Zjp hl hE)}
end
theorem Zid {l:List Tk} (a:l.length<=100000): ∀n σ,slim (expr l n σ).1=true
 | 0,_=>ZgJ a rfl rfl
 | n+1,σ=>Zjq a (Zid a n) σ
theorem slim_text {s:List UInt8} {t:Tm} (h:rdText s wholeE= .ok t):slim t=true:=by
 obtain ⟨m,a,_,b,_⟩:=Z8Y h;rw[<-b];have:=(scanned a).len;unfold wholeE;exact Zid (by omega) _ _
end
end Pso
namespace Go.Proofs.YtkncdbaoaeeoiaaGreatDoor
section
open Go.RowKit Shp
structure UpH (cb:Nat) (w w':World):Prop where
 os:w'.os=w.os
 tape:w'.tape=w.tape
 output:w'.output=w.output
 size:w'.heap.size=w.heap.size
 block: ∀k,k≠cb->w'.heap[k]? =w.heap[k]?
theorem UpH.refl (a:Nat) (w:World):UpH a w w:=⟨rfl,rfl,rfl,rfl,fun _ _=>rfl⟩
theorem UpH.trans {d:Nat} {a b c:World} (h:UpH d a b) (k:UpH d b c):UpH d a c:=
 ⟨k.os.trans h.os,k.tape.trans h.tape,k.output.trans h.output,k.size.trans h.size,fun i hn=>(k.block i hn).trans (h.block i hn)⟩
theorem UpH.set {b:Nat} {a w:World} (h:UpH b a w) (v:Value):UpH b a (w.setCell ⟨b,1,none⟩ v):=
 h.trans ⟨rfl,rfl,rfl,by simp[World.setCell],fun k hn=>Below.heap_setCell _ _ _ _ hn⟩
theorem UpH.cell {a:Nat} {w w':World} (h:UpH a w w') {g k:Nat} (b:g≠a):w'.cell? ⟨g,k,none⟩=w.cell? ⟨g,k,none⟩:=World.cell?_of_block (w:=w) (h.block g b)
theorem UpH.frozen {a:Nat} {w w':World} (h:UpH a w w') {g k:Nat} (b:g≠a):w'.frozen? ⟨g,k,none⟩=w.frozen? ⟨g,k,none⟩:=World.frozen?_of_block (w:=w) (h.block g b)
theorem UpH.toBelow {a B:Nat} {w w':World} (h:UpH a w w') (b:B<=a):Below B w w':=⟨h.os,h.tape,h.output,Nat.le_of_eq h.size.symm,fun k hk=>h.block k (by omega)⟩
structure CntH (w:World) (cb p:Nat) (f:Value):Prop where
 lt:cb < w.heap.size
 c0:w.cell? ⟨cb,0,none⟩=some f
 c1:w.cell? ⟨cb,1,none⟩=some (.int .i64 (p:Int))
 f1:w.frozen? ⟨cb,1,none⟩=false
theorem CntH.set {w:World} {a p:Nat} {f:Value} (h:CntH w a p f) (n:Nat):CntH (w.setCell ⟨a,1,none⟩ (.int .i64 (n:Int))) a n f:=
 ⟨by simpa[World.setCell] using h.lt,by simp[go_sem,h.c0],by simp[go_sem,h.c1],by simp[go_sem,h.f1]⟩
theorem ShAt.uph {w w':World} {B a:Nat} {q:Ptr} {t:Sh} (h:ShAt w B q t) (b:UpH a w w') (c:B<=a):ShAt w' B q t:=
 h.of (Nat.le_refl _) (fun g k hg=>b.cell (by omega))
theorem Zhc (g o:Nat) (w:World):Calls Tryz.prog 42 #[.pointer (some ⟨g,o,none⟩)] w fun e w'=>e= .returned (.pointer (some ⟨g,o+4,none⟩))/\w=w':=by
 go_enter Tryz.func42,Tryz.ntmps42;go_wp2;go_ret;exact ⟨rfl,rfl⟩
theorem Zio (t:Sh): ∀(q:Ptr) (g o B a p b:Nat) (w:World),Sh5 w g o t q->g≠a->ShAt w B q t->B<=a->CntH w a p (.func (.func 42) #[] #[])->p+size t<=1000000->b+deep t<=60000->
 Calls Tryz.prog 75 #[.pointer (some ⟨a,0,none⟩),.pointer (some ⟨g,o,none⟩),.int .i64 (b:Int)] w
  fun e w'=>e= .returned (.bool true)/\UpH a w w'/\CntH w' a (p+size t) (.func (.func 42) #[] #[]):=by
 induction t using Sh.ind with
 | h t ih=>
 intro q g o B a p b w X A O s u D C;have HP:=Y1 O.part;have HM:=Y1 O.small.m;have HD:Hid (deep t=deeps t.parts+1):=Y1 (deep_eq t);have S:Hid (size t=1+sizes t.parts):=Y1 (size_eq t);have J:Hid (p+size t<=1000000):=Y1 D;have I:Hid (b+deep t<=60000):=Y1 C;have N: (p:Int)<=1000000:=by omega
 have y: ¬(16777216:Int) < (p:Int)+1:=by omega
 have z: ¬(65536:Int) < (b:Int):=by omega
 have T: (b:Int)<=60000:=by omega
 have e1:decide ((16777216:Int) < (p:Int)+1)=false:=decide_eq_false y;have e2:decide ((65536:Int) < (b:Int))=false:=decide_eq_false z;have HS:=Y1 X;have HC:=Y1 u;obtain ⟨_,_,_,_,Y⟩:=X;obtain ⟨_,c0,c1,f1⟩:=u;have U:a≠g:=Ne.symm A;have L1:=fun (W:World)=>Zhc g o W;clear D C O;go_enter Tryz.func75,Tryz.ntmps75
 go_wp2_with fail
 obtain ⟨W0,d⟩: ∃W0,W0=w.setCell ⟨a,1,none⟩ (.int .i64 ((p:Int)+1)):=⟨_,rfl⟩;have r:Hid (UpH a w W0):=Y1 (by rw[d]; exact (UpH.refl a w).set _);have G:Hid (CntH W0 a (p+1) (.func (.func 42) #[] #[])):=Y1 (by rw[d]; exact HC.out.set (p+1));have P:W0.cell? ⟨g,o+4,none⟩=some (.slice q.P t.parts.length q.d):=(r.out.cell A).trans Y;rw[<-d];clear d Y c0 c1 f1 N y z e1 e2;refine (L1 W0).mono ?_;rintro e w1 ⟨rfl,rfl⟩
 go_wp2_with fail
 clear P
 go_loopw [35] (fun ii wr=> ∃i:Nat,ii= .int .i64 i/\i<=t.parts.length/\Hid (UpH a w wr)/\Hid (CntH wr a (p+1+sizes (t.parts.take i)) (.func (.func 42) #[] #[]))) (fun i _=>t.parts.length - (intOf i).toNat)
 case atStart=>exact ⟨0,rfl,Nat.zero_le _,r,by rw[List.take_zero]; exact G⟩
 case round=>
  obtain ⟨i,rfl,hi,c,n⟩:=hrel;have b2:=HM.out;by_cases f:i < t.parts.length
  {rcases HP.out with h0 | ⟨g',off,qs,E,b1,u,V⟩
   {omega}
   {obtain ⟨x,F⟩: ∃x,x=t.parts[i]:=⟨_,rfl⟩;have l:=u i f;have j:=V i f;have m:=ih t.parts[i] (List.getElem_mem _) (qs i) g' (off+i * 5) B a (p+1+sizes (t.parts.take i)) (b+1) wr;rw[<-F] at m l j;have Q:Hid (sizes (t.parts.take (i+1))=sizes (t.parts.take i)+size x):=Y1 (by rw[F]; exact sizes_next f);have L:deep x<=deeps t.parts:=by rw[F]; exact deeps_mem (List.getElem_mem _)
    have K:=m (l.of (fun k=>c.out.cell (by omega))) (by omega) (j.uph c.out s) s n.out (by
     have:=sizes_take t.parts (i+1);have:=Q.out;have:=J.out;have:=S.out;omega) (by have:=HD.out; have:=I.out; omega)
    have M: (i:Int) < (t.parts.length:Int):=by omega
    rw[show (((b+1:Nat)):Int)=(b:Int)+1 from by omega] at K;clear l j m u V F L ih;rw[E];clear E
    go_wp2_with fail
    refine K.mono ?_;rintro e Z ⟨rfl,hu2,v⟩;have HU2:Hid (UpH a w Z):=Y1 (c.out.trans hu2);have H:Hid (CntH Z a (p+1+sizes (t.parts.take (i+1))) (.func (.func 42) #[] #[])):=Y1 (by rw[Q.out, <-Nat.add_assoc]; exact v);clear hu2 v K;go_wp2
    go_roundw
    case rel=>exact ⟨i+1,by go_num,by omega,HU2,H⟩
    case measure=>simp[intOf]; omega}}
  {have HG:Hid (p+size t=p+1+sizes (t.parts.take i)):=Y1 (by rw[S.out,show i=t.parts.length from by omega,List.take_length]; omega);have M: ¬(i:Int) < (t.parts.length:Int):=by omega
   go_wp2;go_ret;exact ⟨rfl,c.out,by rw[HG.out]; exact n.out⟩}
end
end Go.Proofs.YtkncdbaoaeeoiaaGreatDoor
