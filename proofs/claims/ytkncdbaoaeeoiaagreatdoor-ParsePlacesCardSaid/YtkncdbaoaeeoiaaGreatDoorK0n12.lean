/- What the proofs of ParsePlaces want, part 12. -/
import Derived.Test.YtkncdbaoaeeoiaaGreatDoorK0n11
set_option linter.unusedVariables false
set_option linter.unusedSimpArgs false
set_option linter.unusedSectionVars false
set_option maxRecDepth 100000
set_option maxHeartbeats 16000000
namespace Go.Proofs.YtkncdbaoaeeoiaaGreatDoor
section
open Go.RowKit Tms
open Shp (Sh)
open Pso (St Ok Goes betw loop want)
open Prs (sign)
section
variable {bp : Nat} {A : Option Addr} {c : Nat} {l : List Tk} {σ : St} {s : List UInt8}
theorem Z0C (hs:sign l σ.1 s=false) (hl:l.length<=5000) (hi:σ.1<=l.length) (w:World) (h:PAt w bp A c l σ) {b0:Nat} (hb0:b0=w.heap.size:=by first | rfl | simp | omega):
 Calls Tryz.prog 64 #[.pointer (some ⟨bp,0,none⟩),.slice (some ⟨b0,0,none⟩) 1 1] (w.alloc (.cells #[.string ⟨s.toArray⟩] 9)) fun e w'=>e= .returned (.bool false)/\PAt w' bp A c l σ/\UpT [bp] w w':=by
 have:=Z2U bp A c l σ s (by omega) hi w h hb0;rw[hs] at this;simpa using this
theorem Z0N (hs:sign l σ.1 s=true) (hl:l.length<=5000) (hi:σ.1<=l.length) (w:World) (h:PAt w bp A c l σ) {b0:Nat} (hb0:b0=w.heap.size:=by first | rfl | simp | omega):
 Calls Tryz.prog 64 #[.pointer (some ⟨bp,0,none⟩),.slice (some ⟨b0,0,none⟩) 1 1] (w.alloc (.cells #[.string ⟨s.toArray⟩] 9)) fun e w'=>e= .returned (.bool true)/\PAt w' bp A c l (σ.1+1,σ.2)/\UpT [bp] w w':=by
 have:=Z2U bp A c l σ s (by omega) hi w h hb0;rw[hs] at this;simpa using this
theorem Z0A {b:Bool} (hs:sign l σ.1 s=b) (hl:l.length<=5000) (hi:σ.1<=l.length) (w:World) (h:PAt w bp A c l σ) {b0:Nat} (hb0:b0=w.heap.size:=by first | rfl | simp | omega):
 Calls Tryz.prog 69 #[.pointer (some ⟨bp,0,none⟩),.slice (some ⟨b0,0,none⟩) 1 1] (w.alloc (.cells #[.string ⟨s.toArray⟩] 9)) fun e w'=>e= .returned (.bool b)/\PAt w' bp A c l σ/\UpT [bp] w w':=
 (Zbe bp A c l σ s (by omega) hi w h hb0).mono (fun e w' h2=>⟨by rw[h2.1,hs],h.below h2.2,Z05 h2.2⟩)
theorem Z1A (hl:l.length<=5000) (hi:σ.1<=l.length) (w:World) (h:PAt w bp A c l σ):
 Calls Tryz.prog 35 #[.pointer (some ⟨bp,0,none⟩)] w fun e w'=>e= .returned (.agg #[.int .i64 (Prs.look l σ.1).t.kind,.string ⟨(Prs.look l σ.1).t.text.toArray⟩,.int .i64 (Prs.look l σ.1).at_])/\PAt w' bp A c l σ/\UpT [bp] w w':=
 (Z1o bp A c l σ (by omega) hi w h).mono (fun e w' h2=>⟨h2.1,h.below h2.2,Z05 h2.2⟩)
theorem Z2k (hs:sign l σ.1 s=true):want l σ s=(σ.1+1,σ.2):=by unfold Pso.want; rw[hs,if_pos rfl]
end
theorem Zgp {n:List UInt8} (hn:n.length<=1000000) (w:World): ∃x:ES,(.agg #[.int .i64 (Prs.upper [] n).kind,.string ⟨(Prs.upper [] n).of_.toArray⟩,.string ⟨(Prs.upper [] n).name.toArray⟩,.slice none 0 0,.slice none 0 0]:Value)=valS x/\x.Is w/\w.heap.size<=x.lo/\x.t=Prs.upper [] n:=by
 unfold Prs.upper;split
 {exact ⟨_,rfl,Z32 w 1 (by simp) (by simp),Nat.le_refl _,rfl⟩}
 split
 {exact ⟨_,rfl,Z32 w 2 (by simp) (by simp),Nat.le_refl _,rfl⟩}
 split
 {exact ⟨_,rfl,Z32 w 3 (by simp) (by simp),Nat.le_refl _,rfl⟩}
 split
 {exact ⟨_,rfl,Z32 w 4 (by simp) (by simp),Nat.le_refl _,rfl⟩}
 {exact ⟨_,rfl,Z32 w 9 (by simp) hn,Nat.le_refl _,rfl⟩}
theorem hidC {P:Program} {f:FuncId} {a:Array Value} {W0 w w0:World} {E:Ending} {Q:World->Prop} {F:List Nat} (h:Calls P f a W0 fun e w'=>e=E/\Q w'/\UpT F w w') (hv:Hid (UpT F w0 w)):Calls P f a W0 fun e w'=>e=E/\Hid (Q w')/\Hid (UpT F w0 w'):=
 h.mono fun e w' h=>⟨h.1,Y1 h.2.1,Y1 (hv.out.trans h.2.2)⟩
theorem hidS {f:FuncId} {a:Array Value} {W0 w0:World} {bp:Nat} {A:Option Addr} {c:Nat} {l:List Tk} {r:Sh×St} (n:Nat) (h:Calls Tryz.prog f a W0 (TyIs bp A c l r W0)) (hv:Hid (UpT [bp] w0 W0)) (hs:n<=w0.heap.size):
 Calls Tryz.prog f a W0 fun e W'=> ∃x:ES,e= .returned (valS x)/\Hid (PAt W' bp A c l r.2)/\Hid (UpT [bp] w0 W')/\Hid (x.Is W')/\n<=x.lo/\Hid (x.t=r.1):=
 h.mono fun e W' h=>by
  obtain ⟨x,h1,h2,h3,h4,h5,h6⟩:=h;exact ⟨x,h1,Y1 h2,Y1 (hv.out.trans h3),Y1 h4,Nat.le_trans (Nat.le_trans hs hv.out.size) h5,Y1 h6⟩
theorem ZjV {bp:Nat} {A:Option Addr} {c:Nat} {l:List Tk} {σ:St} (n:List UInt8) (hn:n.length<=1000000) (W:World) (h:PAt W bp A c l σ):
 Calls Tryz.prog 103 #[.string ⟨n.toArray⟩] W (TyIs bp A c l (Prs.upper [] n,σ) W):=
 (Z6B n hn W).mono fun e W' he=>by
  obtain ⟨x,hx,h1,h2,h3⟩:=Zgp hn W';exact ⟨x,by rw[he.1,hx],h.below he.2,Z05 he.2,h1,Nat.le_trans he.2.size h2,h3⟩
theorem ZjW (bp:Nat) (A:Option Addr) (c:Nat) (l:List Tk) (m:Nat) (τ:St) (hl:l.length<=5000) (ht: ∀b∈l,b.t.text.length<=1000000) (hT:TyC bp A c l m) (hO:Ok l τ) (hm:l.length - τ.1 < m+1) (w:World) (hP:PAt w bp A c l τ):
 Calls Tryz.prog 72 #[.pointer (some ⟨bp,0,none⟩)] w (TyIs bp A c l (Pso.bodyT l (Pso.anyT l m) τ) w):=by
 have hb0:=Z01 w (.cells Yb 43);have HP:=Y1 (hP.below hb0);have HB0:=Y1 hb0;have HV:=Y1 (UpT.refl [bp] (w.alloc (.cells Yb 43)));have hbw:=hP.lt;have HT:=Y1 hT;have hfd:=Z6x (Prs.look l τ.1).t.kind ⟨(Prs.look l τ.1).t.text.toArray⟩ (Prs.look l τ.1).at_;clear hb0 hP hT;go_enter Tryz.func72,Tryz.ntmps72
 go_wp2_with fail
 rcases Bool.eq_false_or_eq_true (sign l τ.1 [91]) with h91 | h91
 rotate_left
 refine (hidC (Z0C h91 hl hO.1 _ HP.out) HV).mono ?_;rintro e W ⟨rfl,HP,HV⟩
 go_wp2_with fail
 rcases Bool.eq_false_or_eq_true (sign l τ.1 [123]) with h123 | h123
 rotate_left
 refine (hidC (Z0A h123 hl hO.1 _ HP.out) HV).mono ?_;rintro e W ⟨rfl,HP,HV⟩
 go_wp2_with fail
 rcases Bool.eq_false_or_eq_true (sign l τ.1 [60]) with h60 | h60
 rotate_left
 refine (hidC (Z0A h60 hl hO.1 _ HP.out) HV).mono ?_;rintro e W ⟨rfl,HP,HV⟩
 go_wp2_with fail
 rcases Bool.eq_false_or_eq_true (sign l τ.1 [40]) with h40 | h40
 rotate_left
 refine (hidC (Z0A h40 hl hO.1 _ HP.out) HV).mono ?_;rintro e W ⟨rfl,HP,HV⟩
 go_wp2_with fail
 refine (hidC (Z1A hl hO.1 _ HP.out) HV).mono ?_;rintro e W ⟨rfl,HP,HV⟩;by_cases hk: (Prs.look l τ.1).t.kind=1;have HF:Hid (Pso.bodyT l (Pso.anyT l m) τ=Pso.othersT l τ):=Y1 (by unfold Pso.bodyT; rw[if_neg (by rw[h91]; simp),if_neg (by rw[h123]; simp),if_neg (by rw[h60]; simp),if_neg (by rw[h40]; simp),if_pos hk]);have hke: ((Prs.look l τ.1).t.kind==1)=true:=by simpa using hk
 clear hk
 rotate_left
 have HF:Hid (Pso.bodyT l (Pso.anyT l m) τ=(Prs.upper [] (Pso.upperN l τ).1,(Pso.upperN l τ).2)):=Y1 (by unfold Pso.bodyT; rw[if_neg (by rw[h91]; simp),if_neg (by rw[h123]; simp),if_neg (by rw[h60]; simp),if_neg (by rw[h40]; simp),if_neg hk]);have hke: ((Prs.look l τ.1).t.kind==1)=false:=by simpa using hk
 clear hk
 go_wp2_with fail
 refine (hidC (Z2B bp A c l τ (by omega) hO.1 ht _ HP.out) HV).mono ?_;rintro e W ⟨rfl,HP,HV⟩
 go_wp2_with fail
 refine (hidS (w.heap.size+1) (ZjV (Pso.upperN l τ).1 (Z0q ht τ 2 (by decide) _) _ HP.out) HV (by simp)).mono ?_
 rotate_left
 have HF:Hid (Pso.bodyT l (Pso.anyT l m) τ=Pso.listT l (Pso.anyT l m) (τ.1+1,τ.2)):=Y1 (by unfold Pso.bodyT; rw[if_pos h91]);refine (hidC (Z0N h91 hl hO.1 _ HP.out) HV).mono ?_;rintro e W ⟨rfl,HP,HV⟩
 go_wp2_with fail
 refine (hidS (w.heap.size+1) (Z7t bp A c l m (τ.1+1,τ.2) hl (Pso.to_next hO (Pso.sign_lt h91)).1 HT.out (by have:=Pso.sign_lt h91; simp only; omega) _ HP.out) HV (by simp)).mono ?_
 rotate_left
 have HF:Hid (Pso.bodyT l (Pso.anyT l m) τ=Pso.fieldsT l (Pso.anyT l m) τ 6 [123] [44] [125]):=Y1 (by unfold Pso.bodyT; rw[if_neg (by rw[h91]; simp),if_pos h123]);refine (hidC (Z0A h123 hl hO.1 _ HP.out) HV).mono ?_;rintro e W ⟨rfl,HP,HV⟩
 go_wp2_with fail
 refine (hidS (w.heap.size+1) (Z3l bp A c l m τ 6 [123] [44] [125] hl ht hO HT.out (by have:=Pso.sign_lt h123; rw[Z2k h123]; simp only; omega) _ HP.out) HV (by simp)).mono ?_
 rotate_left
 have HF:Hid (Pso.bodyT l (Pso.anyT l m) τ=Pso.fieldsT l (Pso.anyT l m) τ 7 [60] [124] [62]):=Y1 (by unfold Pso.bodyT; rw[if_neg (by rw[h91]; simp),if_neg (by rw[h123]; simp),if_pos h60]);refine (hidC (Z0A h60 hl hO.1 _ HP.out) HV).mono ?_;rintro e W ⟨rfl,HP,HV⟩
 go_wp2_with fail
 refine (hidS (w.heap.size+1) (Z3l bp A c l m τ 7 [60] [124] [62] hl ht hO HT.out (by have:=Pso.sign_lt h60; rw[Z2k h60]; simp only; omega) _ HP.out) HV (by simp)).mono ?_
 rotate_left
 have HF:Hid (Pso.bodyT l (Pso.anyT l m) τ=Pso.funT l (Pso.anyT l m) τ):=Y1 (by unfold Pso.bodyT; rw[if_neg (by rw[h91]; simp),if_neg (by rw[h123]; simp),if_neg (by rw[h60]; simp),if_pos h40]);refine (hidC (Z0A h40 hl hO.1 _ HP.out) HV).mono ?_;rintro e W ⟨rfl,HP,HV⟩
 go_wp2_with fail
 refine (hidS (w.heap.size+1) (Z8s bp A c l m τ hl hO HT.out (by have:=Pso.sign_lt h40; rw[Z2k h40]; simp only; omega) _ HP.out) HV (by simp)).mono ?_
 rotate_left
 go_wp2_with fail
 refine (hidS (w.heap.size+1) (Z68 bp A c l τ hl hO ht _ HP.out) HV (by simp)).mono ?_
 rotate_left
 all_goals
  first | rintro e W ⟨x,rfl,HP,HV,HX,hlo,HXT⟩ | rintro e W x rfl HP HV HX hlo HXT
  obtain ⟨r0,r1,r2,r3,r4,g0,g1,g2,g3,g4,hrl⟩:=res5 HB0.out (Z0t w _ _ _ _ _ _) rfl HV.out hbw;simp only[valS];go_wp2;refine bodyPost_ret (v:=valS x) (by simp[results,Tryz.results72,go_sem,valS,r0,r1,r2,r3,r4,hrl]) rfl ?_;have hE:=end5 HP.out ((Z05 (F:= [bp]) HB0.out).trans HV.out) HX.out (rb:=w.heap.size) (Nat.le_refl _) (Or.inl (by omega)) hbw;rw[HF.out];exact ⟨x,rfl,(hE _ _ _ _ _).1,(hE _ _ _ _ _).2.1,(hE _ _ _ _ _).2.2,by omega,HXT.out⟩
theorem Z4J (bp:Nat) (A:Option Addr) (c:Nat) (l:List Tk) (hl:l.length<=5000) (ht: ∀b∈l,b.t.text.length<=1000000): ∀m,TyC bp A c l m
 | 0=>fun W τ hO hm=>absurd hm (by omega)
 | m+1=>fun W τ hO hm hP=>ZjW bp A c l m τ hl ht (Z4J bp A c l hl ht m) hO hm W hP
end
section
open Go.RowKit Shp
theorem Strs.cell7 {w:World} {B:Nat} {A:Option Addr} {l:List (List UInt8)} (h:Strs w B A (strs l)):l.length=0\/ ∃g off,A=some ⟨g,off,none⟩/\g < B/\ ∀i (hi:i < l.length),w.cell? ⟨g,off+i,none⟩=some (.string ⟨(l[i]'hi).toArray⟩):=by
 rcases h with h | ⟨g,off,hA,hg,hc⟩
 {exact Or.inl (by rwa [Z2j] at h)}
 {refine Or.inr ⟨g,off,hA,hg,fun i hi=> ?_⟩;rw[hc i (by rwa [Z2j])];simp[strs]}
end
section
open Go.RowKit Go.Maps Go.WideMaps Shp
theorem Z3J:Keyed Tryz.prog 9:=string_keyed Tryz.underlying9
theorem Z4K (w:World): (zeroValue 176).run Tryz.prog w= .ok (.agg #[]) w:=by kernel_rfl
def seenOf (l:List (List UInt8)) (k:Nat):DataW Unit:=setOf (.agg []) ((l.take k).map Lit.string)
theorem Z4L (l:List (List UInt8)):seenOf l 0= .map []:=by simp[seenOf,setOf]
theorem Z4M (l:List (List UInt8)) (k:Nat) (hk:k < l.length):seenOf l (k+1)=(seenOf l k).put (.string (l[k]'hk)) (.agg []):=by
 unfold seenOf;rw[List.take_succ_eq_append_getElem hk,List.map_append,List.map_cons,List.map_nil,setOf_snoc]
theorem Z8t (x:List UInt8): ∀l:List (List UInt8),l.any ((fun y:Lit=>y.sameKey (.string x)) ∘ Lit.string)=l.contains x
 | []=>rfl
 | a::r=>by
  rw[List.any_cons,List.contains_cons,Z8t x r];congr 1;by_cases e:a=x
  {subst e; simp[Lit.sameKey]}
  {have e': ¬x=a:=fun h=>e h.symm;simp[Lit.sameKey];rw[show (a==x)=false from by simpa using e,show (x==a)=false from by simpa using e']}
theorem Z8u (l:List (List UInt8)) (k:Nat) (x:List UInt8):Maps.has (seenOf l k) (.string x)=(l.take k).contains x:=by
 unfold seenOf;rw[has_setOf _ _ _ (fun y hy=>by obtain ⟨_,_,rfl⟩:=List.mem_map.1 hy; trivial),List.any_map];exact Z8t x _
theorem Z5t (A:Option Addr) (c:Nat) (l:List (List UInt8)) (w:World) (hA:Strs w w.heap.size A (strs l)) (hl:l.length<=1000000) (hx: ∀x∈l,x.length<=9223372036854775807):
 Y9 169 #[.slice A l.length c] w (.bool (areNames l)):=by
 have hmm:= @run_makeMap Tryz.prog;have HA:=Y1 hA;have HX:=Y1 hx;clear hA hx;go_enter Tryz.func169,Tryz.ntmps169
 go_wp2_with fail
 go_loopw [11] (fun ii wr=> ∃k:Nat,k<=l.length/\ii= .int .i64 k/\wr.ownsMap Tryz.prog 9 unitElem w.heap.size k (seenOf l k)/\Below w.heap.size w wr/\Hid (∀j (hj:j < l.length),j < k->Lex.isName (l[j]'hj)=true/\ ∀m (hm:m < j),l[m]'(by omega)≠l[j]'hj))
  (fun i _=>l.length - (intOf i).toNat)
 case atStart=>exact ⟨0,Nat.zero_le _,rfl,by rw[Z4L]; exact World.ownsMap_made _ _ _ _,Y2.alloc (Nat.le_refl _) _,Y1 (fun j _ hj=>absurd hj (by omega))⟩
 case round=>
  obtain ⟨k,hk,rfl,hown,hb,HN⟩:=hrel;by_cases hlt:k < l.length
  {have hi1: (k:Int) < (l.length:Int):=by omega
   rcases (HA.out.next hb).cell7 with h0 | ⟨g,off,rfl,hg,hc⟩
   {omega}
   {have hcell:=hc k hlt;obtain ⟨x,hx⟩: ∃x,x=l[k]'hlt:=⟨_,rfl⟩;rw[<-hx] at hcell;have hxl:x.length<=9223372036854775807:=by rw[hx]; exact HX.out _ (List.getElem_mem _)
    have HE:=Y1 hx;have hkey:keyOf Tryz.prog 9 (.string ⟨x.toArray⟩)=some (.string x):=keyOf_string_mk Tryz.underlying9 (by rw[Z07]; unfold maxLen; exact hxl);clear hx hc;have HHAS:=Y1 (Z8u l k x);have HOWN:=Y1 hown;have HBB:=Y1 hb;clear hb;cases hin: (l.take k).contains x with
    | true=>
     have HF:Hid (areNames l=false):=Y1 (by
      have hm:=List.contains_iff_mem.1 hin;obtain ⟨m,hm,he⟩:=List.getElem_of_mem hm;rw[List.length_take] at hm;rw[List.getElem_take] at he;exact Z6s (k:=m) hlt (by omega) (by rw[he,HE.out]))
     have hhas:=HHAS.out;rw[hin] at hhas;clear hin
     go_wp2_with (first
      | (at_lookup; refine wpList_lookup_own_unit _ rfl _ _ 175 rfl 9 176 Z3J Tryz.underlying175 (Z4K _) w.heap.size k _ rfl hown _ _ rfl hkey ?_)
      | fail)
     go_ret;exact ⟨by rw[HF.out]; rfl,HBB.out.alloc HBB.out.size _⟩
    | false=>
     have HNU:Hid (∀m (hm:m < k),l[m]'(by omega)≠l[k]'hlt):=Y1 (fun m hm he=>by
      rw[<-HE.out] at he;have:x∈l.take k:=by
       rw[<-he];have:=List.getElem_mem (l:=l.take k) (n:=m) (by rw[List.length_take]; omega)
       rwa [List.getElem_take] at this
      rw[List.contains_iff_mem.2 this] at hin;cases hin)
     have hhas:=HHAS.out;rw[hin] at hhas;clear hin;cases hn:Lex.isName x with
     | false=>
      have HF:Hid (areNames l=false):=Y1 (Z7W hlt (by rw[<-HE.out]; exact hn));have hw:=fun W=>Z0s x hxl W;simp only[hn] at hw;clear hn
      go_wp2_with (first
       | (at_lookup; refine wpList_lookup_own_unit _ rfl _ _ 175 rfl 9 176 Z3J Tryz.underlying175 (Z4K _) w.heap.size k _ rfl hown _ _ rfl hkey ?_)
       | (go_at_call 126; refine (hw _).mono ?_; rintro e w' ⟨rfl,rfl⟩))
      go_ret;exact ⟨by rw[HF.out]; rfl,HBB.out.alloc HBB.out.size _⟩
     | true=>
      have HNA:Hid (Lex.isName (l[k]'hlt)=true):=Y1 (by rw[<-HE.out]; exact hn);have hw:=fun W=>Z0s x hxl W;simp only[hn] at hw;clear hn
      go_wp2_with (first
       | (at_lookup; refine wpList_lookup_own_unit _ rfl _ _ 175 rfl 9 176 Z3J Tryz.underlying175 (Z4K _) w.heap.size k _ rfl hown _ _ rfl hkey ?_)
       | (go_at_call 126; refine (hw _).mono ?_; rintro e w' ⟨rfl,rfl⟩)
       | (at_mapUpdate; refine wpList_mapUpdate_own _ rfl _ _ _ 175 rfl 9 176 Z3J Tryz.underlying175 (unitElem (H:=Unit)) w.heap.size k _ rfl (hown.alloc _) (by unfold maxLen; omega) _ _ _ rfl rfl hkey _ [] unitElem_mk ?_; intro w1 hown1 hgrow1))
      go_roundw
      case rel=>
       refine ⟨k+1,by omega,by go_num, ?_, ?_,Y1 (fun j hj hji=>by
        rcases Nat.lt_succ_iff_lt_or_eq.1 hji with h | rfl
        {exact HN.out j hj h}
        · exact ⟨HNA.out,HNU.out⟩)⟩
       {rw[Z4M l k hlt, <-HE.out]; exact hown1}
       {exact (HBB.out.alloc HBB.out.size _).grown hgrow1 (by have:=HBB.out.size; simp; omega) (fun j hj=>by cases hj; exact Nat.le_refl _)}
      case measure=>simp[intOf]; omega}}
  {have hi1: ¬(k:Int) < (l.length:Int):=by omega
   have HM:Hid (areNames l=true):=Y1 (Z9a (fun j hj=>(HN.out j hj (by omega)).1) (fun j hj=>(HN.out j hj (by omega)).2));go_wp2;go_ret;exact ⟨by rw[HM.out]; rfl,hb⟩}
end
section
open Go.RowKit Shp
def wordB (s:List UInt8):Bool:= []==s|| [73,110,116]==s|| [66,111,111,108]==s|| [84,101,120,116]==s|| [65,110,121]==s
def NotYet (s:List UInt8) (i:Int):Prop:=((1:Int)<=i->(([]:List UInt8)==s)=false)/\((2:Int)<=i->([73,110,116]==s)=false)/\((3:Int)<=i->([66,111,111,108]==s)=false)/\((4:Int)<=i->([84,101,120,116]==s)=false)/\((5:Int)<=i->([65,110,121]==s)=false)
theorem Z8v (s:List UInt8) (w:World) (hg:WGlobs w):
 Calls Tryz.prog 182 #[.string ⟨s.toArray⟩] w fun e w'=>e= .returned (.bool (wordB s))/\w=w':=by
 have c0:w.cell? ⟨3,0,none⟩=some (.string ⟨#[]⟩):=hg.cell 0;have c1:w.cell? ⟨3,1,none⟩=some (.string ⟨#[73,110,116]⟩):=hg.cell 1;have c2:w.cell? ⟨3,2,none⟩=some (.string ⟨#[66,111,111,108]⟩):=hg.cell 2;have c3:w.cell? ⟨3,3,none⟩=some (.string ⟨#[84,101,120,116]⟩):=hg.cell 3;have c4:w.cell? ⟨3,4,none⟩=some (.string ⟨#[65,110,121]⟩):=hg.cell 4;clear hg;have i0: ∀W,(Instr.index 221 (.agg #[.string ⟨#[]⟩,.string ⟨#[73,110,116]⟩,.string ⟨#[66,111,111,108]⟩,.string ⟨#[84,101,120,116]⟩,.string ⟨#[65,110,121]⟩]) (.int .i64 0)).run Tryz.prog W= .ok (.string ⟨#[]⟩) W:=fun W=>by kernel_rfl
 have i1: ∀W,(Instr.index 221 (.agg #[.string ⟨#[]⟩,.string ⟨#[73,110,116]⟩,.string ⟨#[66,111,111,108]⟩,.string ⟨#[84,101,120,116]⟩,.string ⟨#[65,110,121]⟩]) (.int .i64 1)).run Tryz.prog W= .ok (.string ⟨#[73,110,116]⟩) W:=fun W=>by kernel_rfl
 have i2: ∀W,(Instr.index 221 (.agg #[.string ⟨#[]⟩,.string ⟨#[73,110,116]⟩,.string ⟨#[66,111,111,108]⟩,.string ⟨#[84,101,120,116]⟩,.string ⟨#[65,110,121]⟩]) (.int .i64 2)).run Tryz.prog W= .ok (.string ⟨#[66,111,111,108]⟩) W:=fun W=>by kernel_rfl
 have i3: ∀W,(Instr.index 221 (.agg #[.string ⟨#[]⟩,.string ⟨#[73,110,116]⟩,.string ⟨#[66,111,111,108]⟩,.string ⟨#[84,101,120,116]⟩,.string ⟨#[65,110,121]⟩]) (.int .i64 3)).run Tryz.prog W= .ok (.string ⟨#[84,101,120,116]⟩) W:=fun W=>by kernel_rfl
 have i4: ∀W,(Instr.index 221 (.agg #[.string ⟨#[]⟩,.string ⟨#[73,110,116]⟩,.string ⟨#[66,111,111,108]⟩,.string ⟨#[84,101,120,116]⟩,.string ⟨#[65,110,121]⟩]) (.int .i64 4)).run Tryz.prog W= .ok (.string ⟨#[65,110,121]⟩) W:=fun W=>by kernel_rfl
 go_enter Tryz.func182,Tryz.ntmps182
 go_wp2_with fail
 go_loopw [6] (fun ii wr=> ∃i:Int,ii= .int .i64 i/\0<=i/\i<=5/\Hid (NotYet s i)/\w=wr)
  (fun i _=>(5 - intOf i).toNat)
 case atStart=>exact ⟨0,rfl,by omega,by omega,Y1 ⟨fun h=>absurd h (by omega),fun h=>absurd h (by omega),fun h=>absurd h (by omega),fun h=>absurd h (by omega),fun h=>absurd h (by omega)⟩,rfl⟩
 case round=>
  obtain ⟨i,rfl,hi0,hi,HN,rfl⟩:=hrel;clear c0 c1 c2 c3 c4;have hc:i=0\/i=1\/i=2\/i=3\/i=4\/i=5:=by omega
  rcases hc with rfl | rfl | rfl | rfl | rfl | rfl
  {cases hq: (([]:List UInt8)==s)
   {have HN2:Hid (NotYet s 1):=Y1 (show ((1:Int)<=1->(([]:List UInt8)==s)=false)/\((2:Int)<=1->([73,110,116]==s)=false)/\((3:Int)<=1->([66,111,111,108]==s)=false)/\((4:Int)<=1->([84,101,120,116]==s)=false)/\((5:Int)<=1->([65,110,121]==s)=false) from ⟨fun _=>hq,fun h=>absurd h (by omega),fun h=>absurd h (by omega),fun h=>absurd h (by omega),fun h=>absurd h (by omega)⟩);have hqe:s.isEmpty=false:=by cases s <;> simp_all
    go_wp2
    go_roundw
    case rel=>exact ⟨1,rfl,by omega,by omega,HN2,trivial⟩
    case measure=>simp[intOf]}
   {have HF:Hid (wordB s=true):=Y1 (by unfold wordB; rw[hq]; simp);have hqe:s.isEmpty=true:=by cases s <;> simp_all
    go_wp2;go_ret;exact ⟨by rw[HF.out]; rfl,rfl⟩}}
  {cases hq: ([73,110,116]==s)
   {have HN2:Hid (NotYet s 2):=Y1 (show ((1:Int)<=2->(([]:List UInt8)==s)=false)/\((2:Int)<=2->([73,110,116]==s)=false)/\((3:Int)<=2->([66,111,111,108]==s)=false)/\((4:Int)<=2->([84,101,120,116]==s)=false)/\((5:Int)<=2->([65,110,121]==s)=false) from ⟨fun _=>HN.out.1 (by omega),fun _=>hq,fun h=>absurd h (by omega),fun h=>absurd h (by omega),fun h=>absurd h (by omega)⟩);go_wp2
    go_roundw
    case rel=>exact ⟨2,rfl,by omega,by omega,HN2,trivial⟩
    case measure=>simp[intOf]}
   {have HF:Hid (wordB s=true):=Y1 (by unfold wordB; rw[hq]; simp);go_wp2;go_ret;exact ⟨by rw[HF.out]; rfl,rfl⟩}}
  {cases hq: ([66,111,111,108]==s)
   {have HN2:Hid (NotYet s 3):=Y1 (show ((1:Int)<=3->(([]:List UInt8)==s)=false)/\((2:Int)<=3->([73,110,116]==s)=false)/\((3:Int)<=3->([66,111,111,108]==s)=false)/\((4:Int)<=3->([84,101,120,116]==s)=false)/\((5:Int)<=3->([65,110,121]==s)=false) from ⟨fun _=>HN.out.1 (by omega),fun _=>HN.out.2.1 (by omega),fun _=>hq,fun h=>absurd h (by omega),fun h=>absurd h (by omega)⟩);go_wp2
    go_roundw
    case rel=>exact ⟨3,rfl,by omega,by omega,HN2,trivial⟩
    case measure=>simp[intOf]}
   {have HF:Hid (wordB s=true):=Y1 (by unfold wordB; rw[hq]; simp);go_wp2;go_ret;exact ⟨by rw[HF.out]; rfl,rfl⟩}}
  {cases hq: ([84,101,120,116]==s)
   {have HN2:Hid (NotYet s 4):=Y1 (show ((1:Int)<=4->(([]:List UInt8)==s)=false)/\((2:Int)<=4->([73,110,116]==s)=false)/\((3:Int)<=4->([66,111,111,108]==s)=false)/\((4:Int)<=4->([84,101,120,116]==s)=false)/\((5:Int)<=4->([65,110,121]==s)=false) from ⟨fun _=>HN.out.1 (by omega),fun _=>HN.out.2.1 (by omega),fun _=>HN.out.2.2.1 (by omega),fun _=>hq,fun h=>absurd h (by omega)⟩);go_wp2
    go_roundw
    case rel=>exact ⟨4,rfl,by omega,by omega,HN2,trivial⟩
    case measure=>simp[intOf]}
   {have HF:Hid (wordB s=true):=Y1 (by unfold wordB; rw[hq]; simp);go_wp2;go_ret;exact ⟨by rw[HF.out]; rfl,rfl⟩}}
  {cases hq: ([65,110,121]==s)
   {have HN2:Hid (NotYet s 5):=Y1 (show ((1:Int)<=5->(([]:List UInt8)==s)=false)/\((2:Int)<=5->([73,110,116]==s)=false)/\((3:Int)<=5->([66,111,111,108]==s)=false)/\((4:Int)<=5->([84,101,120,116]==s)=false)/\((5:Int)<=5->([65,110,121]==s)=false) from ⟨fun _=>HN.out.1 (by omega),fun _=>HN.out.2.1 (by omega),fun _=>HN.out.2.2.1 (by omega),fun _=>HN.out.2.2.2.1 (by omega),fun _=>hq⟩);go_wp2
    go_roundw
    case rel=>exact ⟨5,rfl,by omega,by omega,HN2,trivial⟩
    case measure=>simp[intOf]}
   {have HF:Hid (wordB s=true):=Y1 (by unfold wordB; rw[hq]; simp);go_wp2;go_ret;exact ⟨by rw[HF.out]; rfl,rfl⟩}}
  {have HF:Hid (wordB s=false):=Y1 (by
    unfold wordB;obtain ⟨h0,h1,h2,h3,h4⟩:=HN.out;rw[h0 (by omega),h1 (by omega),h2 (by omega),h3 (by omega),h4 (by omega)]; rfl)
   go_wp2;go_ret;exact ⟨by rw[HF.out]; rfl,rfl⟩}
theorem Z1b {l:List UInt8} {b:Bool} (h: (l== [])=b):l.isEmpty=b:=by cases l <;> simp_all
theorem Z0w {l:List (List UInt8)}: ((l.length:Int)==0)=decide (l.length=0):=by rw[Bool.eq_iff_iff]; simp
end
end Go.Proofs.YtkncdbaoaeeoiaaGreatDoor
namespace Shp
def nameOk (t:Sh) (wordB:List UInt8->Bool):Bool:=if t.of_= [] then Lex.isUpper t.name&& !wordB t.name else Lex.isName t.of_&&Lex.isUpper t.name
section
variable {t : Sh}
include t
theorem Z2W (h1:1<=t.kind) (h2:t.kind<=4):fits t=(bare t&&decide (t.names.length=0)&&decide (t.parts.length=0)):=by
 cases hb:bare t with
 | false=>rw[Z20 (by omega) hb]; rfl
 | true=>
  by_cases hz:0 < t.names.length
  {rw[Z2E (by omega) hb (by omega) hz,decide_eq_false (p:=t.names.length=0) (by omega)]; rfl}
  {rw[Z4v hb (by omega) (by omega) hz (by omega) (by omega),decide_eq_true h1,decide_eq_true h2,decide_eq_true (p:=t.names.length=0) (by omega)]}
theorem Zbl (h:t.kind=5):fits t=(bare t&&decide (t.names.length=0)&&decide (t.parts.length=1)):=by
 cases hb:bare t with
 | false=>rw[Z20 (by omega) hb]; rfl
 | true=>
  by_cases hz:0 < t.names.length
  {rw[Z2E (by omega) hb (by omega) hz,decide_eq_false (p:=t.names.length=0) (by omega)]; rfl}
  {rw[Z6P hb h hz,decide_eq_true (p:=t.names.length=0) (by omega)]; rfl}
theorem ZcU (h:t.kind=8):fits t=(bare t&&decide (t.names.length=0)&&decide (0 < t.parts.length)):=by
 cases hb:bare t with
 | false=>rw[Z20 (by omega) hb]; rfl
 | true=>
  by_cases hz:0 < t.names.length
  {rw[Z2E (by omega) hb (by omega) hz,decide_eq_false (p:=t.names.length=0) (by omega)]; rfl}
  {rw[Z7Y hb h hz,decide_eq_true (p:=t.names.length=0) (by omega)]; rfl}
theorem Z78 (h:t.kind=6\/t.kind=7):fits t=(bare t&&decide (t.names.length=t.parts.length)&&areNames t.names):=by
 cases hb:bare t with
 | false=>rw[Z20 (by omega) hb]; rfl
 | true=>rw[Z7X hb h,Bool.true_and,Bool.and_comm]
theorem ZcV (h:t.kind < 1\/10 < t.kind):fits t=false:=by
 cases hb:bare t with
 | false=>rw[Z20 (by omega) hb]
 | true=>
  by_cases hz:0 < t.names.length
  {rw[Z2E (by omega) hb (by omega) hz]}
  {rw[Z4v hb (by omega) (by omega) hz (by omega) (by omega)];rcases h with h | h
   {rw[decide_eq_false (by omega)]; rfl}
   {rw[decide_eq_false (p:=t.kind<=4) (by omega),Bool.and_false]; rfl}}
theorem Z9L (h:t.kind=10):fits t=(Lex.isName t.of_&&Lex.isUpper t.name&&decide (t.names.length=0)&&decide (t.parts.length=0)):=by
 rw[Z4u (Or.inr h)];unfold ofOk;rw[h,show decide ((10:Int)=9)=false from rfl,Bool.and_false,Bool.false_and,Bool.or_false,Bool.and_comm (Lex.isUpper t.name)]
end
end Shp
namespace Go.Proofs.YtkncdbaoaeeoiaaGreatDoor
open Go.RowKit Shp
theorem ZcW:Lex.isUpper []=false:=rfl
theorem Z9M {s:List UInt8} (h:Lex.isUpper s=true):wordB s=plain s:=by
 have h0: ([]==s)=false:=by
  cases s with
  | nil=>rw[ZcW] at h; cases h
  | cons a l=>rfl
 have c: ∀a b:List UInt8,(a==b)=(b==a):=fun a b=>by rw[Bool.eq_iff_iff,beq_iff_eq,beq_iff_eq]; exact eq_comm
 unfold wordB plain;rw[h0,Bool.false_or,c [73,110,116],c [66,111,111,108],c [84,101,120,116],c [65,110,121]]
theorem Zbm {t:Sh} (h:t.kind=9):fits t=(nameOk t wordB&&decide (t.names.length=0)&&decide (t.parts.length=0)):=by
 rw[Z4u (Or.inl h)];congr 2;unfold ofOk nameOk;rw[h,show decide ((9:Int)=9)=true from rfl,Bool.and_true];by_cases ho:t.of_= []
 {rw[if_pos ho,ho];cases hu:Lex.isUpper t.name with
  | false=>rfl
  | true=>rw[Z9M hu]; rfl}
 {rw[if_neg ho,show (t.of_== [])=false from beq_eq_false_iff_ne.2 ho,Bool.false_and,Bool.or_false,Bool.and_comm]}
theorem Z0T (t:Sh) (q:Ptr) (w:World):
 Y9 168 #[.agg (Y8 t q)] w (.bool (bare t)):=by
 have HB:Hid (bare t=(t.of_== []&&t.name== [])):=Y1 rfl;have hb0:=Z01 w (.cells (Y8 t q) 43);have HB0:=Y1 hb0;clear hb0;obtain ⟨_,⟨c0,c1,c2,c3,c4⟩,_⟩:=Z0k w t q;cases h1: (t.of_== [])
 {have hoe:=Z1b h1;have HF:Hid (bare t=false):=Y1 (by rw[HB.out,h1]; rfl);clear h1;go_enter Tryz.func168,Tryz.ntmps168;go_wp2;go_ret;exact ⟨by rw[HF.out]; rfl,HB0.out⟩}
 {have hoe:=Z1b h1;cases h2: (t.name== [])
  all_goals
   have hne:=Z1b h2;have HF:Hid _:=Y1 (show bare t=_ from by rw[HB.out,h1,h2]);clear h1 h2;go_enter Tryz.func168,Tryz.ntmps168;go_wp2;go_ret;exact ⟨Z08 (by rw[HF.out]; rfl),HB0.out⟩}
theorem Z9N (t:Sh) (q:Ptr) (w:World) (hs:Small t q) (hg:WGlobs w):
 Y9 170 #[.agg (Y8 t q)] w (.bool (nameOk t wordB)):=by
 have HS:=Y1 hs;have HB:Hid (nameOk t wordB=if t.of_= [] then Lex.isUpper t.name&& !wordB t.name else Lex.isName t.of_&&Lex.isUpper t.name):=Y1 rfl;have hb0:=Z01 w (.cells (Y8 t q) 43);have hu:=fun W=>Z0R t.name HS.out.n W;have hn:=fun W=>Z0s t.of_ HS.out.o W;have hw:=Z8v t.name _ (hg.next hb0);have HB0:=Y1 hb0;clear hb0 hg hs;obtain ⟨_,⟨c0,c1,c2,c3,c4⟩,_⟩:=Z0k w t q;cases h1: (t.of_== [])
 {have hoe:=Z1b h1;have HF:Hid (nameOk t wordB=(Lex.isName t.of_&&Lex.isUpper t.name)):=Y1 (by rw[HB.out,if_neg (by simpa using h1)]);clear h1;cases h2:Lex.isName t.of_
  all_goals
   rw[h2] at HF;simp only[h2] at hn;clear h2;go_enter Tryz.func170,Tryz.ntmps170
   go_wp2_with fail
   refine (hn _).mono ?_;rintro e w' ⟨rfl,rfl⟩
  {go_wp2;go_ret;exact ⟨by rw[HF.out]; rfl,HB0.out⟩}
  {go_wp2_with fail
   refine (hu _).mono ?_;rintro e w' ⟨rfl,rfl⟩;go_wp2;go_ret;exact ⟨Z08 (by rw[HF.out]; rfl),HB0.out⟩}}
 {have hoe:=Z1b h1;have HF:Hid (nameOk t wordB=(Lex.isUpper t.name&& !wordB t.name)):=Y1 (by rw[HB.out,if_pos (by simpa using h1)]);clear h1;cases h2:Lex.isUpper t.name
  all_goals
   rw[h2] at HF;simp only[h2] at hu;clear h2;go_enter Tryz.func170,Tryz.ntmps170
   go_wp2_with fail
   refine (hu _).mono ?_;rintro e w' ⟨rfl,rfl⟩
  {go_wp2;go_ret;exact ⟨by rw[HF.out]; rfl,HB0.out⟩}
  {go_wp2_with fail
   refine hw.mono ?_;rintro e w' ⟨rfl,rfl⟩;go_wp2;go_ret;exact ⟨Z08 (by rw[HF.out]; rfl),HB0.out⟩}}
theorem Z56 {a b:Nat}: ((a:Int)==(b:Int))=decide (a=b):=by rw[Bool.eq_iff_iff,beq_iff_eq,decide_eq_true_eq]; omega
theorem ZaJ {k n:Int} (m:Int) (h:k=n) (e: (n==m)=true): (k==m)=true:=by rw[h]; exact e
theorem Z5P {k n:Int} (m:Int) (h:k=n) (e: (n==m)=false): (k==m)=false:=by rw[h]; exact e
section
variable (t : Sh) (q : Ptr) (w : World) (hq : ShAt w w.heap.size q t) (hg : WGlobs w)
include t q w hq hg
theorem ZjX (hk:t.kind=1\/t.kind=2\/t.kind=3\/t.kind=4\/t.kind=5\/t.kind=8):
 Y9 140 #[.agg (Y8 t q)] w (.bool (fits t)):=by
 have HS:=Y1 hq.small;have HA:=Y1 hq.strs;have hB:=Z0k w t q;have HB:=Y1 hB;have hb0:=Z01 w (.cells (Y8 t q) 43);have HB0:=Y1 hb0;have HG:=Y1 (hg.next hb0);obtain ⟨_,⟨c0,c1,c2,c3,c4⟩,_⟩:=hB;rcases hk with hk | hk | hk | hk | hk | hk
 all_goals
  first | have k1:=ZaJ 1 hk rfl | have k1:=Z5P 1 hk rfl
  first | have k2:=ZaJ 2 hk rfl | have k2:=Z5P 2 hk rfl
  first | have k3:=ZaJ 3 hk rfl | have k3:=Z5P 3 hk rfl
  first | have k4:=ZaJ 4 hk rfl | have k4:=Z5P 4 hk rfl
  first | have k5:=ZaJ 5 hk rfl | have k5:=Z5P 5 hk rfl
  first | have k6:=ZaJ 6 hk rfl | have k6:=Z5P 6 hk rfl
  first | have k7:=ZaJ 7 hk rfl | have k7:=Z5P 7 hk rfl
  first | have k8:=ZaJ 8 hk rfl | have k8:=Z5P 8 hk rfl
  first | have k9:=ZaJ 9 hk rfl | have k9:=Z5P 9 hk rfl
  first | have k10:=ZaJ 10 hk rfl | have k10:=Z5P 10 hk rfl
  first | have HF:=Y1 (Zbl hk) | have HF:=Y1 (ZcU hk) | have HF:=Y1 (Z2W (t:=t) (by omega) (by omega))
  have hc:=Z0T t q (w.alloc (.cells (Y8 t q) 43));clear hk hg hq hb0;cases hb:bare t
  {rw[hb] at hc HF;clear hb;go_enter Tryz.func140,Tryz.ntmps140
   go_wp2_with fail
   refine hc.mono ?_;rintro e w' ⟨rfl,hb'⟩;go_wp2;go_ret;exact ⟨by rw[HF.out]; rfl,Z00 HB0.out hb'⟩}
  {rw[hb] at hc HF;clear hb;cases hz:decide (t.names.length=0)
   {rw[hz] at HF;have hz2: ((t.names.length:Int)==0)=false:=by rw[Z0w]; exact hz
    clear hz;go_enter Tryz.func140,Tryz.ntmps140
    go_wp2_with fail
    refine hc.mono ?_;rintro e w' ⟨rfl,hb'⟩;obtain ⟨_,⟨c0,c1,c2,c3,c4⟩,_⟩:=HB.out.next hb';go_wp2;go_ret;exact ⟨by rw[HF.out]; rfl,Z00 HB0.out hb'⟩}
   {rw[hz] at HF;have hz2: ((t.names.length:Int)==0)=true:=by rw[Z0w]; exact hz
    clear hz;go_enter Tryz.func140,Tryz.ntmps140
    go_wp2_with fail
    refine hc.mono ?_;rintro e w' ⟨rfl,hb'⟩;obtain ⟨_,⟨c0,c1,c2,c3,c4⟩,_⟩:=HB.out.next hb';go_wp2;go_ret;exact ⟨Z08 (by rw[HF.out,Bool.eq_iff_iff]; simp; try omega),Z00 HB0.out hb'⟩}}
theorem ZjY (hk:t.kind=6\/t.kind=7) (hz:t.parts.length<=1000000):
 Y9 140 #[.agg (Y8 t q)] w (.bool (fits t)):=by
 have HS:=Y1 hq.small;have HA:=Y1 hq.strs;have hB:=Z0k w t q;have HB:=Y1 hB;have hb0:=Z01 w (.cells (Y8 t q) 43);have HB0:=Y1 hb0;have HG:=Y1 (hg.next hb0);have HZ:=Y1 hz;clear hz;obtain ⟨_,⟨c0,c1,c2,c3,c4⟩,_⟩:=hB;rcases hk with hk | hk
 all_goals
  first | have k1:=ZaJ 1 hk rfl | have k1:=Z5P 1 hk rfl
  first | have k2:=ZaJ 2 hk rfl | have k2:=Z5P 2 hk rfl
  first | have k3:=ZaJ 3 hk rfl | have k3:=Z5P 3 hk rfl
  first | have k4:=ZaJ 4 hk rfl | have k4:=Z5P 4 hk rfl
  first | have k5:=ZaJ 5 hk rfl | have k5:=Z5P 5 hk rfl
  first | have k6:=ZaJ 6 hk rfl | have k6:=Z5P 6 hk rfl
  first | have k7:=ZaJ 7 hk rfl | have k7:=Z5P 7 hk rfl
  first | have k8:=ZaJ 8 hk rfl | have k8:=Z5P 8 hk rfl
  first | have k9:=ZaJ 9 hk rfl | have k9:=Z5P 9 hk rfl
  first | have k10:=ZaJ 10 hk rfl | have k10:=Z5P 10 hk rfl
  have HF:=Y1 (Z78 (t:=t) (by first | exact Or.inl hk | exact Or.inr hk));have hc:=Z0T t q (w.alloc (.cells (Y8 t q) 43));clear hk hg hq hb0;cases hb:bare t
  {rw[hb] at hc HF;clear hb;go_enter Tryz.func140,Tryz.ntmps140
   go_wp2_with fail
   refine hc.mono ?_;rintro e w' ⟨rfl,hb'⟩;go_wp2;go_ret;exact ⟨by rw[HF.out]; rfl,Z00 HB0.out hb'⟩}
  {rw[hb] at hc HF;clear hb;cases hz:decide (t.names.length=t.parts.length)
   {rw[hz] at HF;have hz2: ((t.names.length:Int)==(t.parts.length:Int))=false:=by rw[Z56]; exact hz
    clear hz;go_enter Tryz.func140,Tryz.ntmps140
    go_wp2_with fail
    refine hc.mono ?_;rintro e w' ⟨rfl,hb'⟩;obtain ⟨_,⟨c0,c1,c2,c3,c4⟩,_⟩:=HB.out.next hb';go_wp2;go_ret;exact ⟨by rw[HF.out]; rfl,Z00 HB0.out hb'⟩}
   {rw[hz] at HF;have hz2: ((t.names.length:Int)==(t.parts.length:Int))=true:=by rw[Z56]; exact hz
    clear hz;have hlen:t.names.length<=1000000:=by have:=HZ.out; have h2:=beq_iff_eq.1 hz2; omega
    have HA0:=HA.out.next HB0.out;go_enter Tryz.func140,Tryz.ntmps140
    go_wp2_with fail
    refine hc.mono ?_;rintro e w1 ⟨rfl,hb'⟩;have hn:=Z5t q.A q.c t.names w1 (HA0.next hb') hlen HS.out.ns;obtain ⟨_,⟨c0,c1,c2,c3,c4⟩,_⟩:=HB.out.next hb';have hbw:=Z00 HB0.out hb';clear hc hb' HA0
    go_wp2_with fail
    refine hn.mono ?_;rintro e w' ⟨rfl,hb2⟩;go_wp2;go_ret;exact ⟨Z08 (by rw[HF.out]; rfl),Z00 hbw hb2⟩}}
theorem Zfw (hk:t.kind=9):
 Y9 140 #[.agg (Y8 t q)] w (.bool (fits t)):=by
 have HS:=Y1 hq.small;have HA:=Y1 hq.strs;have hB:=Z0k w t q;have HB:=Y1 hB;have hb0:=Z01 w (.cells (Y8 t q) 43);have HB0:=Y1 hb0;have HG:=Y1 (hg.next hb0);obtain ⟨_,⟨c0,c1,c2,c3,c4⟩,_⟩:=hB;have k1:=Y3 1 hk rfl;have k2:=Y3 2 hk rfl;have k3:=Y3 3 hk rfl;have k4:=Y3 4 hk rfl;have k5:=Y3 5 hk rfl;have k6:=Y3 6 hk rfl;have k7:=Y3 7 hk rfl;have k8:=Y3 8 hk rfl;have k9:=Y4 9 hk rfl;have k10:=Y3 10 hk rfl;have HF:=Y1 (Zbm hk);have hc:=Z9N t q (w.alloc (.cells (Y8 t q) 43)) HS.out HG.out;clear hk hg hq hb0;cases hb:nameOk t wordB
 {rw[hb] at hc HF;clear hb;go_enter Tryz.func140,Tryz.ntmps140
  go_wp2_with fail
  refine hc.mono ?_;rintro e w' ⟨rfl,hb'⟩;go_wp2;go_ret;exact ⟨by rw[HF.out]; rfl,Z00 HB0.out hb'⟩}
 {rw[hb] at hc HF;clear hb;cases hz:decide (t.names.length=0)
  {rw[hz] at HF;have hz2: ((t.names.length:Int)==0)=false:=by rw[Z0w]; exact hz
   clear hz;go_enter Tryz.func140,Tryz.ntmps140
   go_wp2_with fail
   refine hc.mono ?_;rintro e w' ⟨rfl,hb'⟩;obtain ⟨_,⟨c0,c1,c2,c3,c4⟩,_⟩:=HB.out.next hb';go_wp2;go_ret;exact ⟨by rw[HF.out]; rfl,Z00 HB0.out hb'⟩}
  {rw[hz] at HF;have hz2: ((t.names.length:Int)==0)=true:=by rw[Z0w]; exact hz
   clear hz;go_enter Tryz.func140,Tryz.ntmps140
   go_wp2_with fail
   refine hc.mono ?_;rintro e w' ⟨rfl,hb'⟩;obtain ⟨_,⟨c0,c1,c2,c3,c4⟩,_⟩:=HB.out.next hb';go_wp2;go_ret;exact ⟨Z08 (by rw[HF.out,Bool.eq_iff_iff]; simp; try omega),Z00 HB0.out hb'⟩}}
theorem Zen (hk:t.kind=10):
 Y9 140 #[.agg (Y8 t q)] w (.bool (fits t)):=by
 have HS:=Y1 hq.small;have HA:=Y1 hq.strs;have hB:=Z0k w t q;have HB:=Y1 hB;have hb0:=Z01 w (.cells (Y8 t q) 43);have HB0:=Y1 hb0;have HG:=Y1 (hg.next hb0);obtain ⟨_,⟨c0,c1,c2,c3,c4⟩,_⟩:=hB;have k1:=Y3 1 hk rfl;have k2:=Y3 2 hk rfl;have k3:=Y3 3 hk rfl;have k4:=Y3 4 hk rfl;have k5:=Y3 5 hk rfl;have k6:=Y3 6 hk rfl;have k7:=Y3 7 hk rfl;have k8:=Y3 8 hk rfl;have k9:=Y3 9 hk rfl;have k10:=Y4 10 hk rfl;have HF:=Y1 (Z9L hk);have hn:=fun W=>Z0s t.of_ HS.out.o W;have hu:=fun W=>Z0R t.name HS.out.n W;clear hk hg hq hb0;cases h1:Lex.isName t.of_
 {rw[h1] at HF;simp only[h1] at hn;clear h1;go_enter Tryz.func140,Tryz.ntmps140
  go_wp2_with fail
  refine (hn _).mono ?_;rintro e w' ⟨rfl,rfl⟩;go_wp2;go_ret;exact ⟨by rw[HF.out]; rfl,HB0.out⟩}
 {rw[h1] at HF;simp only[h1] at hn;clear h1;cases h2:Lex.isUpper t.name
  {rw[h2] at HF;simp only[h2] at hu;clear h2;go_enter Tryz.func140,Tryz.ntmps140
   go_wp2_with fail
   refine (hn _).mono ?_;rintro e w' ⟨rfl,rfl⟩
   go_wp2_with fail
   refine (hu _).mono ?_;rintro e w' ⟨rfl,rfl⟩;go_wp2;go_ret;exact ⟨by rw[HF.out]; rfl,HB0.out⟩}
  {rw[h2] at HF;simp only[h2] at hu;clear h2;cases hz:decide (t.names.length=0)
   all_goals
    rw[hz] at HF;have hz2:=hz;rw[<-Z0w] at hz2;clear hz;go_enter Tryz.func140,Tryz.ntmps140
    go_wp2_with fail
    refine (hn _).mono ?_;rintro e w' ⟨rfl,rfl⟩
    go_wp2_with fail
    refine (hu _).mono ?_;rintro e w' ⟨rfl,rfl⟩;go_wp2;go_ret;exact ⟨Z08 (by rw[HF.out,Bool.eq_iff_iff]; simp),HB0.out⟩}}
theorem Zbn (hk:t.kind < 1\/10 < t.kind):
 Y9 140 #[.agg (Y8 t q)] w (.bool (fits t)):=by
 have HS:=Y1 hq.small;have HA:=Y1 hq.strs;have hB:=Z0k w t q;have HB:=Y1 hB;have hb0:=Z01 w (.cells (Y8 t q) 43);have HB0:=Y1 hb0;have HG:=Y1 (hg.next hb0);obtain ⟨_,⟨c0,c1,c2,c3,c4⟩,_⟩:=hB;have k1: (t.kind==1)=false:=by rw[beq_eq_false_iff_ne]; omega
 have k2: (t.kind==2)=false:=by rw[beq_eq_false_iff_ne]; omega
 have k3: (t.kind==3)=false:=by rw[beq_eq_false_iff_ne]; omega
 have k4: (t.kind==4)=false:=by rw[beq_eq_false_iff_ne]; omega
 have k5: (t.kind==5)=false:=by rw[beq_eq_false_iff_ne]; omega
 have k6: (t.kind==6)=false:=by rw[beq_eq_false_iff_ne]; omega
 have k7: (t.kind==7)=false:=by rw[beq_eq_false_iff_ne]; omega
 have k8: (t.kind==8)=false:=by rw[beq_eq_false_iff_ne]; omega
 have k9: (t.kind==9)=false:=by rw[beq_eq_false_iff_ne]; omega
 have k10: (t.kind==10)=false:=by rw[beq_eq_false_iff_ne]; omega
 have HF:=Y1 (ZcV hk);clear hk hg hq hb0;go_enter Tryz.func140,Tryz.ntmps140;go_wp2;go_ret;exact ⟨by rw[HF.out]; rfl,HB0.out⟩
theorem Zbo (hz:t.parts.length<=1000000):
 Y9 140 #[.agg (Y8 t q)] w (.bool (fits t)):=by
 by_cases h:t.kind < 1\/10 < t.kind
 {exact Zbn t q w hq hg h}
 {have:t.kind=1\/t.kind=2\/t.kind=3\/t.kind=4\/t.kind=5\/t.kind=6\/t.kind=7\/t.kind=8\/t.kind=9\/t.kind=10:=by omega
  rcases this with h | h | h | h | h | h | h | h | h | h
  case inr.inr.inr.inr.inr.inr.inr.inr.inl=>exact Zfw t q w hq hg h
  case inr.inr.inr.inr.inr.inr.inr.inr.inr=>exact Zen t q w hq hg h
  all_goals first | exact ZjX t q w hq hg (by omega) | exact ZjY t q w hq hg (by omega) hz}
end
end Go.Proofs.YtkncdbaoaeeoiaaGreatDoor
namespace Go.Proofs.YtkncdbaoaeeoiaaGreatDoor
section
open Go.RowKit Shp
def Z1q (p:Sh->Bool) (l:List Sh):Int:=match l.findIdx? p with
 | some i=>(i:Int)
 | none=> -1
theorem ZcX {p:Sh->Bool} {l:List Sh} {i:Nat} (hi:i < l.length) (h:p (l[i]'hi)=true) (hn: ∀j (hj:j < l.length),j < i->p (l[j]'hj)=false):Z1q p l=(i:Int):=by
 have:l.findIdx? p=some i:=List.findIdx?_eq_some_iff_getElem.2 ⟨hi,h,fun j hj=>by rw[hn j (by omega) hj]; simp⟩;unfold Z1q; rw[this]
theorem Z9O {p:Sh->Bool} {l:List Sh} (hn: ∀j (hj:j < l.length),p (l[j]'hj)=false):Z1q p l= -1:=by
 have:l.findIdx? p=none:=List.findIdx?_eq_none_iff.2 (fun x hx=>by
  obtain ⟨j,hj,rfl⟩:=List.getElem_of_mem hx;exact hn j hj)
 unfold Z1q; rw[this]
theorem Zbp (p:Sh->Bool) (l:List Sh):decide (0<=Z1q p l)=l.any p:=by
 unfold Z1q;cases h:l.findIdx? p with
 | some i=>
  obtain ⟨hi,hp,_⟩:=List.findIdx?_eq_some_iff_getElem.1 h;show decide ((0:Int)<=(i:Int))=_;rw[decide_eq_true (by omega)];exact (List.any_eq_true.2 ⟨_,List.getElem_mem hi,hp⟩).symm
 | none=>
  have:=List.findIdx?_eq_none_iff.1 h;show false=_;symm;rw[List.any_eq_false];intro x hx; rw[this x hx]; simp
theorem ZcY (p:Sh->Bool) (l:List Sh): -1<=Z1q p l:=by
 unfold Z1q;cases l.findIdx? p with
 | some i=>show (-1:Int)<=(i:Int); omega
 | none=>show (-1:Int)<= -1; omega
theorem Z7u (l:List Sh):l.any (fun p=> !right p)= !rights l:=by
 rw[rights_all];induction l with
 | nil=>rfl
 | cons a l ih=>simp[ih]
section
variable (P : Option Addr) (d : Nat) (l : List Sh) (g off : Nat) (qs : Nat -> Ptr) (w : World) (hl : l.length <= 1000000) (hp : l.length = 0 \/ P = some ⟨g, off, none⟩ /\ g < w.heap.size /\ (∀ i (h : i < l.length), Sh5 w g (off + i * 5) (l[i]'h) (qs i)) /\ ∀ i (h : i < l.length), ShAt w w.heap.size (qs i) (l[i]'h)) (hg : WGlobs w) (hf : ∀ x ∈ l, ∀ (q : Ptr) (w : World), ShAt w w.heap.size q x -> WGlobs w -> Y9 106 #[.agg (Y8 x q)] w (.bool (!right x)))
include P d l g off qs w hl hp hg hf
theorem ZcZ:
 Y9 171 #[.slice P l.length d,.func (.func 106) #[] #[]] w (.int .i64 (Z1q (fun p=> !right p) l)):=by
 have HP:=Y1 hp;have HF:=Y1 hf;have HG:=Y1 hg;clear hg;clear hp hf;go_enter Tryz.func171,Tryz.ntmps171
 go_wp2_with fail
 go_loopw [8] (fun ii wr=> ∃i:Nat,ii= .int .i64 i/\i<=l.length/\Hid (∀j (h:j < l.length),j < i->(!right (l[j]'h))=false)/\Below w.heap.size w wr) (fun i _=>l.length - (intOf i).toNat)
 case atStart=>exact ⟨0,rfl,Nat.zero_le _,Y1 (fun j _ hj=>absurd hj (by omega)),Below.refl _ _⟩
 case round=>
  obtain ⟨i,rfl,hi,HN,hb⟩:=hrel;by_cases hlt:i < l.length
  {rcases HP.out with h0 | ⟨rfl,hg,hc,hr⟩
   {omega}
   {obtain ⟨x,hx⟩: ∃x,x=l[i]'hlt:=⟨_,rfl⟩;obtain ⟨p0,p1,p2,p3,p4⟩:=(hc i hlt).keep hg hb;have hat:ShAt wr wr.heap.size (qs i) x:=by rw[hx]; exact (hr i hlt).next hb
    have ihx:=HF.out l[i] (List.getElem_mem _) (qs i) wr;rw[<-hx] at p0 p1 p2 p3 p4 ihx;have IH:=ihx hat (HG.out.next hb);have HX:=Y1 hx;clear hx hc hr hat ihx;have hi1: (i:Int) < (l.length:Int):=by omega
    cases hox: !right x with
    | true=>
     rw[hox] at IH;have HV:Hid (Z1q (fun p=> !right p) l=(i:Int)):=Y1 (ZcX hlt (by show (!right _)=true; rw[<-HX.out]; exact hox) (fun j hj hji=>HN.out j hj hji));clear hox
     go_wp2_with fail
     refine IH.mono ?_;rintro e w' ⟨rfl,hb'⟩;go_wp2;go_ret;exact ⟨Z0p HV.out.symm,Z00 hb hb'⟩
    | false=>
     rw[hox] at IH;have HO:=Y1 hox;clear hox
     go_wp2_with fail
     refine IH.mono ?_;rintro e w' ⟨rfl,hb'⟩;go_wp2
     go_roundw
     case rel=>exact ⟨i+1,by go_num,by omega,Y1 (fun j hj hji=>by
      rcases Nat.lt_succ_iff_lt_or_eq.1 hji with h | rfl
      {exact HN.out j hj h}
      · rw[<-HX.out]; exact HO.out),Z00 hb hb'⟩
     case measure=>simp[intOf]; omega}}
  {have hi1: ¬(i:Int) < (l.length:Int):=by omega
   have HV:Hid (Z1q (fun p=> !right p) l= -1):=Y1 (Z9O (fun j hj=>HN.out j hj (by omega)));go_wp2;go_ret;exact ⟨Z0p HV.out.symm,hb⟩}
theorem Z8w:
 Y9 141 #[.slice P l.length d,.func (.func 106) #[] #[]] w (.bool (l.any (fun p=> !right p))):=by
 have HI:=ZcZ P d l g off qs w hl hp hg hf;have HV:=Y1 (Zbp (fun p=> !right p) l);have hge:=ZcY (fun p=> !right p) l;generalize Z1q (fun p=> !right p) l=r at HI HV hge;clear hp hf;go_enter Tryz.func141,Tryz.ntmps141
 go_wp2_with fail
 refine HI.mono ?_;rintro e w' ⟨rfl,hb'⟩;go_wp2;go_ret;exact ⟨Z08 HV.out,hb'⟩
end
theorem Zfx {w:World} {q:Ptr} {t:Sh} (h:ShAt w w.heap.size q t): ∃(g off:Nat) (qs:Nat->Ptr),t.parts.length=0\/q.P=some ⟨g,off,none⟩/\g < w.heap.size/\(∀i (h:i < t.parts.length),Sh5 w g (off+i * 5) (t.parts[i]'h) (qs i))/\ ∀i (h:i < t.parts.length),ShAt w w.heap.size (qs i) (t.parts[i]'h):=by
 rcases h.part with h0 | ⟨g,off,qs,h1,h2,h3,h4⟩
 {exact ⟨0,0,fun _=>q,Or.inl h0⟩}
 {exact ⟨g,off,qs,Or.inr ⟨h1,h2,h3,h4⟩⟩}
theorem Z8x (t:Sh): ∀(q:Ptr) (w:World),ShAt w w.heap.size q t->WGlobs w->size t<=1000000->
 Y9 106 #[.agg (Y8 t q)] w (.bool (!right t)):=by
 induction t using Sh.ind with
 | h t ih=>
 intro q w hq hg hz;have hpl:t.parts.length<=1000000:=by have:=length_sizes t.parts; rw[size_eq] at hz; omega
 have hb0:=Z01 w (.cells (Y8 t q) 43);have hf:=Zbo t q _ (hq.next hb0) (hg.next hb0) hpl;have HC:=Y1 (fun W (h:Below w.heap.size w W)=>by
  obtain ⟨g,off,qs,h1⟩:=Zfx (hq.next h);exact Z8w q.P q.d t.parts g off qs W hpl h1 (hg.next h) (fun x hx q' w' hat hg'=>ih x hx q' w' hat hg' (by have:=sizes_mem hx; rw[size_eq] at hz; omega)))
 have HD:=Y1 (right_eq t);have HA:=Y1 (Z7u t.parts);have HB0:=Y1 hb0;have HB:=Y1 (Z0k w t q);obtain ⟨_,⟨c0,c1,c2,c3,c4⟩,_⟩:=HB.out;clear hb0 hq hg hz hpl ih;cases hft:fits t
 {have HF:Hid (right t=false):=Y1 (by rw[HD.out,hft]; rfl);rw[hft] at hf;clear hft;go_enter Tryz.func106,Tryz.ntmps106
  go_wp2_with fail
  refine hf.mono ?_;rintro e w' ⟨rfl,hb'⟩;go_wp2;go_ret;exact ⟨by rw[HF.out]; rfl,Z00 HB0.out hb'⟩}
 {have HF:Hid ((!right t)=t.parts.any (fun p=> !right p)):=Y1 (by rw[HD.out,hft,HA.out]; rfl);rw[hft] at hf;clear hft;go_enter Tryz.func106,Tryz.ntmps106
  go_wp2_with fail
  refine hf.mono ?_;rintro e w1 ⟨rfl,hb'⟩;have hbw:=Z00 HB0.out hb';have hc:=HC.out w1 hbw;obtain ⟨_,⟨d0,d1,d2,d3,d4⟩,_⟩:=HB.out.next hb';clear hf c0 c1 c2 c3 c4 hb'
  go_wp2_with fail
  refine hc.mono ?_;rintro e w' ⟨rfl,hb2⟩;go_wp2;go_ret;exact ⟨Z08 HF.out.symm,Z00 hbw hb2⟩}
theorem Zbq (b c:Addr) (x y:Int) (u:TypeId) (pv:Value) (older:List PanicEntry) (w:World) (hb:w.cell? b=some (.int .i64 x)) (hc:w.cell? c=some (.int .i64 y)) (fb:w.frozen? b=false) (fc:w.frozen? c=false)
 (hbc:b≠c):
 CallsD Tryz.prog 138 #[.pointer (some b),.pointer (some c)] (.panicking ({ v:= .iface u pv,recovered:=false }::older)) w fun e u' w'=>
  e= .returned (.tuple #[])/\u'= .panicking ({ v:= .iface u pv,recovered:=true }::older)/\w'=(w.setCell b (.int .i64 401)).setCell c (.int .i64 0):=by
 have hc2: (w.setCell b (.int .i64 401)).cell? c=some (.int .i64 y):=(World.cell?_setCell_other _ _ _ _ hbc).trans hc;refine callsD_of_wpS Tryz.func138 rfl fun c₀ cs hu=> ?_;apply wpS_seq;apply wpS_region;simp[wpOpsS,go_sem,recoverD,hu,Tryz.ntmps138,Exit.thenS];refine wpS_cond (t:=true) (by simp[Act.eval,Array.replicate]) ?_;simp only[if_true];apply wpS_region;simp[wpOpsS,go_sem,hb,hc2,fb,fc,bodyPostS,results,Tryz.results138]
theorem Zbr (b c:Addr) (w:World):
 CallsD Tryz.prog 138 #[.pointer (some b),.pointer (some c)] .returning w fun e u' w'=>e= .returned (.tuple #[])/\u'= .returning/\w'=w:=by
 refine callsD_of_wpS Tryz.func138 rfl fun c₀ cs hu=> ?_;apply wpS_seq;apply wpS_region;simp[wpOpsS,go_sem,recoverD,hu,Tryz.ntmps138,Exit.thenS];refine wpS_cond (t:=false) (by simp[Act.eval,Array.replicate]) ?_;simp only[Bool.false_eq_true,if_false];refine wpS_of_wp (wp_skip ?_);cases c₀;simp_all [bodyPostS,results,Tryz.results138]
def mW (w:World) (t:Sh) (q:Ptr):World:=
 (((w.alloc (.cells (Y8 t q) 43)).alloc (.cells #[.int .i64 0] 3)).alloc (.cells #[.int .i64 0] 3)).alloc (.cells #[.int .i64 0] 169)
structure MW (w W:World) (x y:Int):Prop where
 bel:Below w.heap.size w W
 size:w.heap.size+4<=W.heap.size
 b:W.cell? ⟨w.heap.size+1,0,none⟩=some (.int .i64 x)
 c:W.cell? ⟨w.heap.size+1+1,0,none⟩=some (.int .i64 y)
 fb:W.frozen? ⟨w.heap.size+1,0,none⟩=false
 fc:W.frozen? ⟨w.heap.size+1+1,0,none⟩=false
theorem Zd0 (w:World) (t:Sh) (q:Ptr):Cnt (mW w t q) (w.heap.size+1+1+1) 0 400:=by
 unfold mW;exact ⟨by simp,by simp[go_sem],rfl,by simp[go_sem]⟩
theorem Z7M (w:World) (t:Sh) (q:Ptr):MW w (mW w t q) 0 0:=by
 unfold mW;refine ⟨Z03 (Z03 (Z03 (Z01 _ _) _) _) _,by simp, ?_, ?_, ?_, ?_⟩ <;> simp[go_sem]
theorem MW.upc {w W W':World} {x y:Int} (h:MW w W x y) (hu:UpC (w.heap.size+1+1+1) W.heap.size W W'):MW w W' x y:=by
 have e: ∀g,g < w.heap.size+3->W'.heap[g]? =W.heap[g]? :=fun g hg=>hu.block g (by have:=h.size; omega) (by omega);refine ⟨h.bel.trans ⟨hu.os,hu.tape,hu.output,hu.size,fun k hk=>e k (by omega)⟩,Nat.le_trans h.size hu.size, ?_, ?_, ?_, ?_⟩
 {exact (World.cell?_of_block (w:=W) (e (w.heap.size+1) (by omega))).trans h.b}
 {exact (World.cell?_of_block (w:=W) (e (w.heap.size+1+1) (by omega))).trans h.c}
 {exact (World.frozen?_of_block (w:=W) (e (w.heap.size+1) (by omega))).trans h.fb}
 {exact (World.frozen?_of_block (w:=W) (e (w.heap.size+1+1) (by omega))).trans h.fc}
section
variable (t : Sh) (q : Ptr) (w : World) (hq : ShAt w w.heap.size q t)
include t q w hq
theorem Z8y (hov:400 < size t):
 Y9 105 #[.agg (Y8 t q)] w (.tuple #[.int .i64 401,.int .i64 0]):=by
 have hmf: ∀(fn:Fn) (first cap:Array Value) (w:World),(Instr.makeFunc fn first cap).run Tryz.prog w= .ok (.func fn first cap) w:=fun _ _ _ _=>rfl;have HL:=Y1 (Z9d t q w.heap.size _ 0 400 _ (hq.keep (Z7M w t q).bel (Nat.le_refl _)) (by omega) (Zd0 w t q) (Nat.zero_le _) (by omega) (by omega));have HW:=Y1 (Z7M w t q);clear hq hov
 go_enter_defers Tryz.func105,Tryz.ntmps105
 go_wp2_with fail
 change Calls _ _ _ (mW w t q) _;generalize mW w t q=W at HL HW ⊢;refine HL.out.mono ?_;rintro e w2 ⟨rfl,hu⟩;obtain ⟨hbel,hsz,cb,cc,fb,fc⟩:=HW.out.upc hu;have HBEL:=Y1 hbel;clear hbel hu HL
 go_wp2_with fail
 refine leaves_cons (f:=138) (args:=#[.pointer (some ⟨w.heap.size+1,0,none⟩),.pointer (some ⟨w.heap.size+1+1,0,none⟩)]) (by simp) (by simp[go_sem]) ?_;refine (Zbq ⟨w.heap.size+1,0,none⟩ ⟨w.heap.size+1+1,0,none⟩ 0 0 27 _ [] _ cb cc fb fc (by simp)).mono ?_;rintro e u' w'' ⟨rfl,rfl,rfl⟩;simp[Leaves,settle,results,Tryz.results105,go_sem,cb,cc];exact (HBEL.out.setCell (p:=⟨w.heap.size+1,0,none⟩) (by simp) _).setCell (p:=⟨w.heap.size+1+1,0,none⟩) (by simp; omega) _
theorem Zbs (hov:size t<=400):
 Y9 105 #[.agg (Y8 t q)] w (.tuple #[.int .i64 (size t:Int),.int .i64 (deep t:Int)]):=by
 have hmf: ∀(fn:Fn) (first cap:Array Value) (w:World),(Instr.makeFunc fn first cap).run Tryz.prog w= .ok (.func fn first cap) w:=fun _ _ _ _=>rfl;have HL:=Y1 (Z6S t q w.heap.size _ 0 400 _ (hq.keep (Z7M w t q).bel (Nat.le_refl _)) (by omega) (Zd0 w t q) (by omega) (by omega));have HW:=Y1 (Z7M w t q);clear hq hov
 go_enter_defers Tryz.func105,Tryz.ntmps105
 go_wp2_with fail
 change Calls _ _ _ (mW w t q) _;generalize mW w t q=W at HL HW ⊢;refine HL.out.mono ?_;rintro e w2 ⟨rfl,hu,hcn⟩;obtain ⟨hbel,hsz,cb,cc,fb,fc⟩:=HW.out.upc hu;have k0:=hcn.c0;have HBEL:=Y1 hbel;rw[Nat.zero_add] at k0;clear hbel hu HL hcn
 go_wp2_with fail
 have HB3:Hid (Below w.heap.size w (w2.setCell ⟨w.heap.size+1+1,0,none⟩ (.int .i64 (deep t:Int)))):=Y1 (HBEL.out.setCell (by simp; omega) _);have k3: (w2.setCell ⟨w.heap.size+1+1,0,none⟩ (.int .i64 (deep t:Int))).cell? ⟨w.heap.size+1+1+1,0,none⟩=some (.int .i64 (size t:Int)):=(World.cell?_setCell_other _ _ _ _ (fun e=>by have:=congrArg Addr.block e; simp at this)).trans k0;have b3: (w2.setCell ⟨w.heap.size+1+1,0,none⟩ (.int .i64 (deep t:Int))).cell? ⟨w.heap.size+1,0,none⟩=some (.int .i64 0):=(World.cell?_setCell_other _ _ _ _ (fun e=>by have:=congrArg Addr.block e; simp at this)).trans cb;have c3: (w2.setCell ⟨w.heap.size+1+1,0,none⟩ (.int .i64 (deep t:Int))).cell? ⟨w.heap.size+1+1,0,none⟩=some (.int .i64 (deep t:Int)):=by simp[go_sem,cc]
 have fb3: (w2.setCell ⟨w.heap.size+1+1,0,none⟩ (.int .i64 (deep t:Int))).frozen? ⟨w.heap.size+1,0,none⟩=false:=by rw[World.frozen?_setCell]; exact fb
 have fc3: (w2.setCell ⟨w.heap.size+1+1,0,none⟩ (.int .i64 (deep t:Int))).frozen? ⟨w.heap.size+1+1,0,none⟩=false:=by rw[World.frozen?_setCell]; exact fc
 generalize w2.setCell ⟨w.heap.size+1+1,0,none⟩ (.int .i64 (deep t:Int))=W3 at HB3 k3 b3 c3 fb3 fc3 ⊢;clear k0 cb cc fb fc hsz HBEL
 go_region
 all_goals
  go_wp2_with fail
  refine leaves_cons (f:=138) (args:=#[.pointer (some ⟨w.heap.size+1,0,none⟩),.pointer (some ⟨w.heap.size+1+1,0,none⟩)]) (by simp) (by simp[go_sem]) ?_;refine (Zbr ⟨w.heap.size+1,0,none⟩ ⟨w.heap.size+1+1,0,none⟩ _).mono ?_;rintro e u' w'' ⟨rfl,rfl,rfl⟩;simp[Leaves,settle,results,Tryz.results105,go_sem,b3,c3];exact ((HB3.out.setCell (p:=⟨w.heap.size+1,0,none⟩) (by simp) _).setCell (p:=⟨w.heap.size+1+1,0,none⟩) (by simp; omega) _).drew
end
end
end Go.Proofs.YtkncdbaoaeeoiaaGreatDoor
