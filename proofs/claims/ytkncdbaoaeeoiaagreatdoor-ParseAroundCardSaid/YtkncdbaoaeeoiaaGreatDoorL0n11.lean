/- What the proofs of ParseAround want, part 11. -/
import Derived.Test.YtkncdbaoaeeoiaaGreatDoorL0n10
set_option linter.unusedVariables false
set_option linter.unusedSimpArgs false
set_option linter.unusedSectionVars false
set_option maxRecDepth 100000
set_option maxHeartbeats 16000000
namespace Go.Proofs.YtkncdbaoaeeoiaaGreatDoor
section
open Go.RowKit Tms
open Shp (Sh)
open Pso (St Ok Goes betw loop want)
open Prs (sign)
section
variable {bp : Nat} {A : Option Addr} {c : Nat} {l : List Tk} {σ : St} {s : List UInt8}
theorem Z0C (d:sign l σ.1 s=false) (f:l.length<=5000) (b:σ.1<=l.length) (w:World) (h:PAt w bp A c l σ) {a:Nat} (hb0:a=w.heap.size:=by first | rfl | simp | omega):
 Calls Tryz.prog 64 #[.pointer (some ⟨bp,0,none⟩),.slice (some ⟨a,0,none⟩) 1 1] (w.alloc (.cells #[.string ⟨s.toArray⟩] 9)) fun e w'=>e= .returned (.bool false)/\PAt w' bp A c l σ/\UpT [bp] w w':=by
 have:=Z2U bp A c l σ s (by omega) b w h hb0;rw[d] at this;simpa using this
theorem Z0N (d:sign l σ.1 s=true) (f:l.length<=5000) (b:σ.1<=l.length) (w:World) (h:PAt w bp A c l σ) {a:Nat} (hb0:a=w.heap.size:=by first | rfl | simp | omega):
 Calls Tryz.prog 64 #[.pointer (some ⟨bp,0,none⟩),.slice (some ⟨a,0,none⟩) 1 1] (w.alloc (.cells #[.string ⟨s.toArray⟩] 9)) fun e w'=>e= .returned (.bool true)/\PAt w' bp A c l (σ.1+1,σ.2)/\UpT [bp] w w':=by
 have:=Z2U bp A c l σ s (by omega) b w h hb0;rw[d] at this;simpa using this
theorem Z0A {b:Bool} (f:sign l σ.1 s=b) (g:l.length<=5000) (d:σ.1<=l.length) (w:World) (h:PAt w bp A c l σ) {a:Nat} (hb0:a=w.heap.size:=by first | rfl | simp | omega):
 Calls Tryz.prog 69 #[.pointer (some ⟨bp,0,none⟩),.slice (some ⟨a,0,none⟩) 1 1] (w.alloc (.cells #[.string ⟨s.toArray⟩] 9)) fun e w'=>e= .returned (.bool b)/\PAt w' bp A c l σ/\UpT [bp] w w':=
 (Zbe bp A c l σ s (by omega) d w h hb0).mono (fun e w' h2=>⟨by rw[h2.1,f],h.below h2.2,Z05 h2.2⟩)
theorem Z1A (b:l.length<=5000) (a:σ.1<=l.length) (w:World) (h:PAt w bp A c l σ):
 Calls Tryz.prog 35 #[.pointer (some ⟨bp,0,none⟩)] w fun e w'=>e= .returned (.agg #[.int .i64 (Prs.look l σ.1).t.kind,.string ⟨(Prs.look l σ.1).t.text.toArray⟩,.int .i64 (Prs.look l σ.1).at_])/\PAt w' bp A c l σ/\UpT [bp] w w':=
 (Z1o bp A c l σ (by omega) a w h).mono (fun e w' h2=>⟨h2.1,h.below h2.2,Z05 h2.2⟩)
theorem Z2k (a:sign l σ.1 s=true):want l σ s=(σ.1+1,σ.2):=by unfold Pso.want; rw[a,if_pos rfl]
end
theorem Zgp {n:List UInt8} (a:n.length<=1000000) (w:World): ∃x:ES,(.agg #[.int .i64 (Prs.upper [] n).kind,.string ⟨(Prs.upper [] n).of_.toArray⟩,.string ⟨(Prs.upper [] n).name.toArray⟩,.slice none 0 0,.slice none 0 0]:Value)=valS x/\x.Is w/\w.heap.size<=x.lo/\x.t=Prs.upper [] n:=by
 unfold Prs.upper;split
 {exact ⟨_,rfl,Z32 w 1 (by simp) (by simp),Nat.le_refl _,rfl⟩}
 split
 {exact ⟨_,rfl,Z32 w 2 (by simp) (by simp),Nat.le_refl _,rfl⟩}
 split
 {exact ⟨_,rfl,Z32 w 3 (by simp) (by simp),Nat.le_refl _,rfl⟩}
 split
 {exact ⟨_,rfl,Z32 w 4 (by simp) (by simp),Nat.le_refl _,rfl⟩}
 {exact ⟨_,rfl,Z32 w 9 (by simp) a,Nat.le_refl _,rfl⟩}
theorem hidC {P:Program} {f:FuncId} {a:Array Value} {W0 w b:World} {E:Ending} {Q:World->Prop} {F:List Nat} (h:Calls P f a W0 fun e w'=>e=E/\Q w'/\UpT F w w') (c:Hid (UpT F b w)):Calls P f a W0 fun e w'=>e=E/\Hid (Q w')/\Hid (UpT F b w'):=
 h.mono fun e w' h=>⟨h.1,Y1 h.2.1,Y1 (c.out.trans h.2.2)⟩
theorem hidS {f:FuncId} {a:Array Value} {W0 b:World} {bp:Nat} {A:Option Addr} {c:Nat} {l:List Tk} {r:Sh×St} (n:Nat) (h:Calls Tryz.prog f a W0 (TyIs bp A c l r W0)) (d:Hid (UpT [bp] b W0)) (p:n<=b.heap.size):
 Calls Tryz.prog f a W0 fun e W'=> ∃x:ES,e= .returned (valS x)/\Hid (PAt W' bp A c l r.2)/\Hid (UpT [bp] b W')/\Hid (x.Is W')/\n<=x.lo/\Hid (x.t=r.1):=
 h.mono fun e W' h=>by
  obtain ⟨x,g,i,j,k,m,o⟩:=h;exact ⟨x,g,Y1 i,Y1 (d.out.trans j),Y1 k,Nat.le_trans (Nat.le_trans p d.out.size) m,Y1 o⟩
theorem ZjV {bp:Nat} {A:Option Addr} {c:Nat} {l:List Tk} {σ:St} (n:List UInt8) (a:n.length<=1000000) (W:World) (h:PAt W bp A c l σ):
 Calls Tryz.prog 103 #[.string ⟨n.toArray⟩] W (TyIs bp A c l (Prs.upper [] n,σ) W):=
 (Z6B n a W).mono fun e W' he=>by
  obtain ⟨x,g,b,d,f⟩:=Zgp a W';exact ⟨x,by rw[he.1,g],h.below he.2,Z05 he.2,b,Nat.le_trans he.2.size d,f⟩
theorem ZjW (bp:Nat) (A:Option Addr) (c:Nat) (l:List Tk) (m:Nat) (τ:St) (hl:l.length<=5000) (ht: ∀b∈l,b.t.text.length<=1000000) (hT:TyC bp A c l m) (hO:Ok l τ) (hm:l.length - τ.1 < m+1) (w:World) (hP:PAt w bp A c l τ):
 Calls Tryz.prog 72 #[.pointer (some ⟨bp,0,none⟩)] w (TyIs bp A c l (Pso.bodyT l (Pso.anyT l m) τ) w):=by
 have hb0:=Z01 w (.cells #[.int .i64 0,.string ⟨#[]⟩,.string ⟨#[]⟩,.slice none 0 0,.slice none 0 0] 43);have HP:=Y1 (hP.below hb0);have HB0:=Y1 hb0;have HV:=Y1 (UpT.refl [bp] (w.alloc (.cells #[.int .i64 0,.string ⟨#[]⟩,.string ⟨#[]⟩,.slice none 0 0,.slice none 0 0] 43)));have hbw:=hP.lt;have HT:=Y1 hT;have hfd:=Z6x (Prs.look l τ.1).t.kind ⟨(Prs.look l τ.1).t.text.toArray⟩ (Prs.look l τ.1).at_;clear hb0 hP hT;go_enter Tryz.func72,Tryz.ntmps72
 go_wp2_with fail
 rcases Bool.eq_false_or_eq_true (sign l τ.1 [91]) with h91 | h91
 rotate_left
 refine (hidC (Z0C h91 hl hO.1 _ HP.out) HV).mono ?_;rintro e W ⟨rfl,HP,HV⟩
 go_wp2_with fail
 rcases Bool.eq_false_or_eq_true (sign l τ.1 [123]) with h123 | h123
 rotate_left
 refine (hidC (Z0A h123 hl hO.1 _ HP.out) HV).mono ?_;rintro e W ⟨rfl,HP,HV⟩
 go_wp2_with fail
 rcases Bool.eq_false_or_eq_true (sign l τ.1 [60]) with h60 | h60
 rotate_left
 refine (hidC (Z0A h60 hl hO.1 _ HP.out) HV).mono ?_;rintro e W ⟨rfl,HP,HV⟩
 go_wp2_with fail
 rcases Bool.eq_false_or_eq_true (sign l τ.1 [40]) with h40 | h40
 rotate_left
 refine (hidC (Z0A h40 hl hO.1 _ HP.out) HV).mono ?_;rintro e W ⟨rfl,HP,HV⟩
 go_wp2_with fail
 refine (hidC (Z1A hl hO.1 _ HP.out) HV).mono ?_;rintro e W ⟨rfl,HP,HV⟩;by_cases hk: (Prs.look l τ.1).t.kind=1;have HF:Hid (Pso.bodyT l (Pso.anyT l m) τ=Pso.othersT l τ):=Y1 (by unfold Pso.bodyT; rw[if_neg (by rw[h91]; simp),if_neg (by rw[h123]; simp),if_neg (by rw[h60]; simp),if_neg (by rw[h40]; simp),if_pos hk]);have hke: ((Prs.look l τ.1).t.kind==1)=true:=by simpa using hk
 clear hk
 rotate_left
 have HF:Hid (Pso.bodyT l (Pso.anyT l m) τ=(Prs.upper [] (Pso.upperN l τ).1,(Pso.upperN l τ).2)):=Y1 (by unfold Pso.bodyT; rw[if_neg (by rw[h91]; simp),if_neg (by rw[h123]; simp),if_neg (by rw[h60]; simp),if_neg (by rw[h40]; simp),if_neg hk]);have hke: ((Prs.look l τ.1).t.kind==1)=false:=by simpa using hk
 clear hk
 go_wp2_with fail
 refine (hidC (Z2B bp A c l τ (by omega) hO.1 ht _ HP.out) HV).mono ?_;rintro e W ⟨rfl,HP,HV⟩
 go_wp2_with fail
 refine (hidS (w.heap.size+1) (ZjV (Pso.upperN l τ).1 (Z0q ht τ 2 (by decide) _) _ HP.out) HV (by simp)).mono ?_
 rotate_left
 have HF:Hid (Pso.bodyT l (Pso.anyT l m) τ=Pso.listT l (Pso.anyT l m) (τ.1+1,τ.2)):=Y1 (by unfold Pso.bodyT; rw[if_pos h91]);refine (hidC (Z0N h91 hl hO.1 _ HP.out) HV).mono ?_;rintro e W ⟨rfl,HP,HV⟩
 go_wp2_with fail
 refine (hidS (w.heap.size+1) (Z7t bp A c l m (τ.1+1,τ.2) hl (Pso.to_next hO (Pso.sign_lt h91)).1 HT.out (by have:=Pso.sign_lt h91; simp only; omega) _ HP.out) HV (by simp)).mono ?_
 rotate_left
 have HF:Hid (Pso.bodyT l (Pso.anyT l m) τ=Pso.fieldsT l (Pso.anyT l m) τ 6 [123] [44] [125]):=Y1 (by unfold Pso.bodyT; rw[if_neg (by rw[h91]; simp),if_pos h123]);refine (hidC (Z0A h123 hl hO.1 _ HP.out) HV).mono ?_;rintro e W ⟨rfl,HP,HV⟩
 go_wp2_with fail
 refine (hidS (w.heap.size+1) (Z3l bp A c l m τ 6 [123] [44] [125] hl ht hO HT.out (by have:=Pso.sign_lt h123; rw[Z2k h123]; simp only; omega) _ HP.out) HV (by simp)).mono ?_
 rotate_left
 have HF:Hid (Pso.bodyT l (Pso.anyT l m) τ=Pso.fieldsT l (Pso.anyT l m) τ 7 [60] [124] [62]):=Y1 (by unfold Pso.bodyT; rw[if_neg (by rw[h91]; simp),if_neg (by rw[h123]; simp),if_pos h60]);refine (hidC (Z0A h60 hl hO.1 _ HP.out) HV).mono ?_;rintro e W ⟨rfl,HP,HV⟩
 go_wp2_with fail
 refine (hidS (w.heap.size+1) (Z3l bp A c l m τ 7 [60] [124] [62] hl ht hO HT.out (by have:=Pso.sign_lt h60; rw[Z2k h60]; simp only; omega) _ HP.out) HV (by simp)).mono ?_
 rotate_left
 have HF:Hid (Pso.bodyT l (Pso.anyT l m) τ=Pso.funT l (Pso.anyT l m) τ):=Y1 (by unfold Pso.bodyT; rw[if_neg (by rw[h91]; simp),if_neg (by rw[h123]; simp),if_neg (by rw[h60]; simp),if_pos h40]);refine (hidC (Z0A h40 hl hO.1 _ HP.out) HV).mono ?_;rintro e W ⟨rfl,HP,HV⟩
 go_wp2_with fail
 refine (hidS (w.heap.size+1) (Z8s bp A c l m τ hl hO HT.out (by have:=Pso.sign_lt h40; rw[Z2k h40]; simp only; omega) _ HP.out) HV (by simp)).mono ?_
 rotate_left
 go_wp2_with fail
 refine (hidS (w.heap.size+1) (Z68 bp A c l τ hl hO ht _ HP.out) HV (by simp)).mono ?_
 rotate_left
 all_goals
  first | rintro e W ⟨x,rfl,HP,HV,HX,hlo,HXT⟩ | rintro e W x rfl HP HV HX hlo HXT
  obtain ⟨r0,r1,r2,r3,r4,g0,g1,g2,g3,g4,hrl⟩:=res5 HB0.out (Z0t w _ _ _ _ _ _) rfl HV.out hbw;simp only[valS];go_wp2;refine bodyPost_ret (v:=valS x) (by simp[results,Tryz.results72,go_sem,valS,r0,r1,r2,r3,r4,hrl]) rfl ?_;have hE:=end5 HP.out ((Z05 (F:= [bp]) HB0.out).trans HV.out) HX.out (rb:=w.heap.size) (Nat.le_refl _) (Or.inl (by omega)) hbw;rw[HF.out];exact ⟨x,rfl,(hE _ _ _ _ _).1,(hE _ _ _ _ _).2.1,(hE _ _ _ _ _).2.2,by omega,HXT.out⟩
theorem Z4J (bp:Nat) (A:Option Addr) (c:Nat) (l:List Tk) (a:l.length<=5000) (d: ∀b∈l,b.t.text.length<=1000000): ∀m,TyC bp A c l m
 | 0=>fun W τ hO hm=>absurd hm (by omega)
 | m+1=>fun W τ hO hm hP=>ZjW bp A c l m τ a d (Z4J bp A c l a d m) hO hm W hP
end
section
open Go.RowKit Shp
theorem Strs.cell7 {w:World} {B:Nat} {A:Option Addr} {l:List (List UInt8)} (h:Strs w B A (strs l)):l.length=0\/ ∃g off,A=some ⟨g,off,none⟩/\g < B/\ ∀i (hi:i < l.length),w.cell? ⟨g,off+i,none⟩=some (.string ⟨(l[i]'hi).toArray⟩):=by
 rcases h with h | ⟨g,off,a,c,b⟩
 {exact Or.inl (by rwa [Z2j] at h)}
 {refine Or.inr ⟨g,off,a,c,fun i hi=> ?_⟩;rw[b i (by rwa [Z2j])];simp[strs]}
end
section
open Go.RowKit Go.Maps Go.WideMaps Shp
theorem Z3J:Keyed Tryz.prog 9:=string_keyed Tryz.underlying9
theorem Z4K (w:World): (zeroValue 176).run Tryz.prog w= .ok (.agg #[]) w:=by kernel_rfl
def seenOf (l:List (List UInt8)) (k:Nat):DataW Unit:=setOf (.agg []) ((l.take k).map Lit.string)
theorem Z4L (l:List (List UInt8)):seenOf l 0= .map []:=by simp[seenOf,setOf]
theorem Z4M (l:List (List UInt8)) (k:Nat) (a:k < l.length):seenOf l (k+1)=(seenOf l k).put (.string (l[k]'a)) (.agg []):=by
 unfold seenOf;rw[List.take_succ_eq_append_getElem a,List.map_append,List.map_cons,List.map_nil,setOf_snoc]
theorem Z8t (x:List UInt8): ∀l:List (List UInt8),l.any ((fun y:Lit=>y.sameKey (.string x)) ∘ Lit.string)=l.contains x
 | []=>rfl
 | a::r=>by
  rw[List.any_cons,List.contains_cons,Z8t x r];congr 1;by_cases e:a=x
  {subst e; simp[Lit.sameKey]}
  {have b: ¬x=a:=fun h=>e h.symm;simp[Lit.sameKey];rw[show (a==x)=false from by simpa using e,show (x==a)=false from by simpa using b]}
theorem Z8u (l:List (List UInt8)) (k:Nat) (x:List UInt8):Maps.has (seenOf l k) (.string x)=(l.take k).contains x:=by
 unfold seenOf;rw[has_setOf _ _ _ (fun y hy=>by obtain ⟨_,_,rfl⟩:=List.mem_map.1 hy; trivial),List.any_map];exact Z8t x _
theorem Z5t (A:Option Addr) (c:Nat) (l:List (List UInt8)) (w:World) (M:Strs w w.heap.size A (strs l)) (X:l.length<=1000000) (u: ∀x∈l,x.length<=9223372036854775807):
 Y9 169 #[.slice A l.length c] w (.bool (areNames l)):=by
 have S:= @run_makeMap Tryz.prog;have O:=Y1 M;have Q:=Y1 u;clear M u;go_enter Tryz.func169,Tryz.ntmps169
 go_wp2_with fail
 go_loopw [11] (fun ii wr=> ∃k:Nat,k<=l.length/\ii= .int .i64 k/\wr.ownsMap Tryz.prog 9 unitElem w.heap.size k (seenOf l k)/\Below w.heap.size w wr/\Hid (∀j (hj:j < l.length),j < k->Lex.isName (l[j]'hj)=true/\ ∀m (y:m < j),l[m]'(by omega)≠l[j]'hj))
  (fun i _=>l.length - (intOf i).toNat)
 case atStart=>exact ⟨0,Nat.zero_le _,rfl,by rw[Z4L]; exact World.ownsMap_made _ _ _ _,Y2.alloc (Nat.le_refl _) _,Y1 (fun j _ hj=>absurd hj (by omega))⟩
 case round=>
  obtain ⟨k,V,rfl,a,E,G⟩:=hrel;by_cases f:k < l.length
  {have K: (k:Int) < (l.length:Int):=by omega
   rcases (O.out.next E).cell7 with T | ⟨g,off,rfl,U,N⟩
   {omega}
   {have s:=N k f;obtain ⟨x,u⟩: ∃x,x=l[k]'f:=⟨_,rfl⟩;rw[<-u] at s;have v:x.length<=9223372036854775807:=by rw[u]; exact Q.out _ (List.getElem_mem _)
    have B:=Y1 u;have o:keyOf Tryz.prog 9 (.string ⟨x.toArray⟩)=some (.string x):=keyOf_string_mk Tryz.underlying9 (by rw[Z07]; unfold maxLen; exact v);clear u N;have r:=Y1 (Z8u l k x);have L:=Y1 a;have b:=Y1 E;clear E;cases d: (l.take k).contains x with
    | true=>
     have F:Hid (areNames l=false):=Y1 (by
      have y:=List.contains_iff_mem.1 d;obtain ⟨m,y,C⟩:=List.getElem_of_mem y;rw[List.length_take] at y;rw[List.getElem_take] at C;exact Z6s (k:=m) f (by omega) (by rw[C,B.out]))
     have p:=r.out;rw[d] at p;clear d
     go_wp2_with (first
      | (at_lookup; refine wpList_lookup_own_unit _ rfl _ _ 175 rfl 9 176 Z3J Tryz.underlying175 (Z4K _) w.heap.size k _ rfl a _ _ rfl o ?_)
      | fail)
     go_ret;exact ⟨by rw[F.out]; rfl,b.out.alloc b.out.size _⟩
    | false=>
     have J:Hid (∀m (y:m < k),l[m]'(by omega)≠l[k]'f):=Y1 (fun m y C=>by
      rw[<-B.out] at C;have:x∈l.take k:=by
       rw[<-C];have:=List.getElem_mem (l:=l.take k) (n:=m) (by rw[List.length_take]; omega)
       rwa [List.getElem_take] at this
      rw[List.contains_iff_mem.2 this] at d;cases d)
     have p:=r.out;rw[d] at p;clear d;cases z:Lex.isName x with
     | false=>
      have F:Hid (areNames l=false):=Y1 (Z7W f (by rw[<-B.out]; exact z));have D:=fun W=>Z0s x v W;simp only[z] at D;clear z
      go_wp2_with (first
       | (at_lookup; refine wpList_lookup_own_unit _ rfl _ _ 175 rfl 9 176 Z3J Tryz.underlying175 (Z4K _) w.heap.size k _ rfl a _ _ rfl o ?_)
       | (go_at_call 126; refine (D _).mono ?_; rintro e w' ⟨rfl,rfl⟩))
      go_ret;exact ⟨by rw[F.out]; rfl,b.out.alloc b.out.size _⟩
     | true=>
      have I:Hid (Lex.isName (l[k]'f)=true):=Y1 (by rw[<-B.out]; exact z);have D:=fun W=>Z0s x v W;simp only[z] at D;clear z
      go_wp2_with (first
       | (at_lookup; refine wpList_lookup_own_unit _ rfl _ _ 175 rfl 9 176 Z3J Tryz.underlying175 (Z4K _) w.heap.size k _ rfl a _ _ rfl o ?_)
       | (go_at_call 126; refine (D _).mono ?_; rintro e w' ⟨rfl,rfl⟩)
       | (at_mapUpdate; refine wpList_mapUpdate_own _ rfl _ _ _ 175 rfl 9 176 Z3J Tryz.underlying175 (unitElem (H:=Unit)) w.heap.size k _ rfl (a.alloc _) (by unfold maxLen; omega) _ _ _ rfl rfl o _ [] unitElem_mk ?_; intro Y t q))
      go_roundw
      case rel=>
       refine ⟨k+1,by omega,by go_num, ?_, ?_,Y1 (fun j hj hji=>by
        rcases Nat.lt_succ_iff_lt_or_eq.1 hji with h | rfl
        {exact G.out j hj h}
        · exact ⟨I.out,J.out⟩)⟩
       {rw[Z4M l k f, <-B.out]; exact t}
       {exact (b.out.alloc b.out.size _).grown q (by have:=b.out.size; simp; omega) (fun j hj=>by cases hj; exact Nat.le_refl _)}
      case measure=>simp[intOf]; omega}}
  {have K: ¬(k:Int) < (l.length:Int):=by omega
   have P:Hid (areNames l=true):=Y1 (Z9a (fun j hj=>(G.out j hj (by omega)).1) (fun j hj=>(G.out j hj (by omega)).2));go_wp2;go_ret;exact ⟨by rw[P.out]; rfl,E⟩}
end
section
open Go.RowKit Shp
def wordB (s:List UInt8):Bool:= []==s|| [73,110,116]==s|| [66,111,111,108]==s|| [84,101,120,116]==s|| [65,110,121]==s
def NotYet (s:List UInt8) (i:Int):Prop:=((1:Int)<=i->(([]:List UInt8)==s)=false)/\((2:Int)<=i->([73,110,116]==s)=false)/\((3:Int)<=i->([66,111,111,108]==s)=false)/\((4:Int)<=i->([84,101,120,116]==s)=false)/\((5:Int)<=i->([65,110,121]==s)=false)
theorem Z8v (s:List UInt8) (w:World) (d:WGlobs w):
 Calls Tryz.prog 182 #[.string ⟨s.toArray⟩] w fun e w'=>e= .returned (.bool (wordB s))/\w=w':=by
 have g:w.cell? ⟨3,0,none⟩=some (.string ⟨#[]⟩):=d.cell 0;have c1:w.cell? ⟨3,1,none⟩=some (.string ⟨#[73,110,116]⟩):=d.cell 1;have c2:w.cell? ⟨3,2,none⟩=some (.string ⟨#[66,111,111,108]⟩):=d.cell 2;have c3:w.cell? ⟨3,3,none⟩=some (.string ⟨#[84,101,120,116]⟩):=d.cell 3;have c4:w.cell? ⟨3,4,none⟩=some (.string ⟨#[65,110,121]⟩):=d.cell 4;clear d;have o: ∀W,(Instr.index 221 (.agg #[.string ⟨#[]⟩,.string ⟨#[73,110,116]⟩,.string ⟨#[66,111,111,108]⟩,.string ⟨#[84,101,120,116]⟩,.string ⟨#[65,110,121]⟩]) (.int .i64 0)).run Tryz.prog W= .ok (.string ⟨#[]⟩) W:=fun W=>by kernel_rfl
 have p: ∀W,(Instr.index 221 (.agg #[.string ⟨#[]⟩,.string ⟨#[73,110,116]⟩,.string ⟨#[66,111,111,108]⟩,.string ⟨#[84,101,120,116]⟩,.string ⟨#[65,110,121]⟩]) (.int .i64 1)).run Tryz.prog W= .ok (.string ⟨#[73,110,116]⟩) W:=fun W=>by kernel_rfl
 have q: ∀W,(Instr.index 221 (.agg #[.string ⟨#[]⟩,.string ⟨#[73,110,116]⟩,.string ⟨#[66,111,111,108]⟩,.string ⟨#[84,101,120,116]⟩,.string ⟨#[65,110,121]⟩]) (.int .i64 2)).run Tryz.prog W= .ok (.string ⟨#[66,111,111,108]⟩) W:=fun W=>by kernel_rfl
 have r: ∀W,(Instr.index 221 (.agg #[.string ⟨#[]⟩,.string ⟨#[73,110,116]⟩,.string ⟨#[66,111,111,108]⟩,.string ⟨#[84,101,120,116]⟩,.string ⟨#[65,110,121]⟩]) (.int .i64 3)).run Tryz.prog W= .ok (.string ⟨#[84,101,120,116]⟩) W:=fun W=>by kernel_rfl
 have t: ∀W,(Instr.index 221 (.agg #[.string ⟨#[]⟩,.string ⟨#[73,110,116]⟩,.string ⟨#[66,111,111,108]⟩,.string ⟨#[84,101,120,116]⟩,.string ⟨#[65,110,121]⟩]) (.int .i64 4)).run Tryz.prog W= .ok (.string ⟨#[65,110,121]⟩) W:=fun W=>by kernel_rfl
 go_enter Tryz.func182,Tryz.ntmps182
 go_wp2_with fail
 go_loopw [6] (fun ii wr=> ∃i:Int,ii= .int .i64 i/\0<=i/\i<=5/\Hid (NotYet s i)/\w=wr)
  (fun i _=>(5 - intOf i).toNat)
 case atStart=>exact ⟨0,rfl,by omega,by omega,Y1 ⟨fun h=>absurd h (by omega),fun h=>absurd h (by omega),fun h=>absurd h (by omega),fun h=>absurd h (by omega),fun h=>absurd h (by omega)⟩,rfl⟩
 case round=>
  obtain ⟨i,rfl,m,n,c,rfl⟩:=hrel;clear g c1 c2 c3 c4;have l:i=0\/i=1\/i=2\/i=3\/i=4\/i=5:=by omega
  rcases l with rfl | rfl | rfl | rfl | rfl | rfl
  {cases a: (([]:List UInt8)==s)
   {have HN2:Hid (NotYet s 1):=Y1 (show ((1:Int)<=1->(([]:List UInt8)==s)=false)/\((2:Int)<=1->([73,110,116]==s)=false)/\((3:Int)<=1->([66,111,111,108]==s)=false)/\((4:Int)<=1->([84,101,120,116]==s)=false)/\((5:Int)<=1->([65,110,121]==s)=false) from ⟨fun _=>a,fun h=>absurd h (by omega),fun h=>absurd h (by omega),fun h=>absurd h (by omega),fun h=>absurd h (by omega)⟩);have f:s.isEmpty=false:=by cases s <;> simp_all
    go_wp2
    go_roundw
    case rel=>exact ⟨1,rfl,by omega,by omega,HN2,trivial⟩
    case measure=>simp[intOf]}
   {have b:Hid (wordB s=true):=Y1 (by unfold wordB; rw[a]; simp);have f:s.isEmpty=true:=by cases s <;> simp_all
    go_wp2;go_ret;exact ⟨by rw[b.out]; rfl,rfl⟩}}
  {cases a: ([73,110,116]==s)
   {have HN2:Hid (NotYet s 2):=Y1 (show ((1:Int)<=2->(([]:List UInt8)==s)=false)/\((2:Int)<=2->([73,110,116]==s)=false)/\((3:Int)<=2->([66,111,111,108]==s)=false)/\((4:Int)<=2->([84,101,120,116]==s)=false)/\((5:Int)<=2->([65,110,121]==s)=false) from ⟨fun _=>c.out.1 (by omega),fun _=>a,fun h=>absurd h (by omega),fun h=>absurd h (by omega),fun h=>absurd h (by omega)⟩);go_wp2
    go_roundw
    case rel=>exact ⟨2,rfl,by omega,by omega,HN2,trivial⟩
    case measure=>simp[intOf]}
   {have b:Hid (wordB s=true):=Y1 (by unfold wordB; rw[a]; simp);go_wp2;go_ret;exact ⟨by rw[b.out]; rfl,rfl⟩}}
  {cases a: ([66,111,111,108]==s)
   {have HN2:Hid (NotYet s 3):=Y1 (show ((1:Int)<=3->(([]:List UInt8)==s)=false)/\((2:Int)<=3->([73,110,116]==s)=false)/\((3:Int)<=3->([66,111,111,108]==s)=false)/\((4:Int)<=3->([84,101,120,116]==s)=false)/\((5:Int)<=3->([65,110,121]==s)=false) from ⟨fun _=>c.out.1 (by omega),fun _=>c.out.2.1 (by omega),fun _=>a,fun h=>absurd h (by omega),fun h=>absurd h (by omega)⟩);go_wp2
    go_roundw
    case rel=>exact ⟨3,rfl,by omega,by omega,HN2,trivial⟩
    case measure=>simp[intOf]}
   {have b:Hid (wordB s=true):=Y1 (by unfold wordB; rw[a]; simp);go_wp2;go_ret;exact ⟨by rw[b.out]; rfl,rfl⟩}}
  {cases a: ([84,101,120,116]==s)
   {have HN2:Hid (NotYet s 4):=Y1 (show ((1:Int)<=4->(([]:List UInt8)==s)=false)/\((2:Int)<=4->([73,110,116]==s)=false)/\((3:Int)<=4->([66,111,111,108]==s)=false)/\((4:Int)<=4->([84,101,120,116]==s)=false)/\((5:Int)<=4->([65,110,121]==s)=false) from ⟨fun _=>c.out.1 (by omega),fun _=>c.out.2.1 (by omega),fun _=>c.out.2.2.1 (by omega),fun _=>a,fun h=>absurd h (by omega)⟩);go_wp2
    go_roundw
    case rel=>exact ⟨4,rfl,by omega,by omega,HN2,trivial⟩
    case measure=>simp[intOf]}
   {have b:Hid (wordB s=true):=Y1 (by unfold wordB; rw[a]; simp);go_wp2;go_ret;exact ⟨by rw[b.out]; rfl,rfl⟩}}
  {cases a: ([65,110,121]==s)
   {have HN2:Hid (NotYet s 5):=Y1 (show ((1:Int)<=5->(([]:List UInt8)==s)=false)/\((2:Int)<=5->([73,110,116]==s)=false)/\((3:Int)<=5->([66,111,111,108]==s)=false)/\((4:Int)<=5->([84,101,120,116]==s)=false)/\((5:Int)<=5->([65,110,121]==s)=false) from ⟨fun _=>c.out.1 (by omega),fun _=>c.out.2.1 (by omega),fun _=>c.out.2.2.1 (by omega),fun _=>c.out.2.2.2.1 (by omega),fun _=>a⟩);go_wp2
    go_roundw
    case rel=>exact ⟨5,rfl,by omega,by omega,HN2,trivial⟩
    case measure=>simp[intOf]}
   {have b:Hid (wordB s=true):=Y1 (by unfold wordB; rw[a]; simp);go_wp2;go_ret;exact ⟨by rw[b.out]; rfl,rfl⟩}}
  {have b:Hid (wordB s=false):=Y1 (by
    unfold wordB;obtain ⟨j,h1,h2,h3,k⟩:=c.out;rw[j (by omega),h1 (by omega),h2 (by omega),h3 (by omega),k (by omega)]; rfl)
   go_wp2;go_ret;exact ⟨by rw[b.out]; rfl,rfl⟩}
theorem Z1b {l:List UInt8} {b:Bool} (h: (l== [])=b):l.isEmpty=b:=by cases l <;> simp_all
theorem Z0w {l:List (List UInt8)}: ((l.length:Int)==0)=decide (l.length=0):=by rw[Bool.eq_iff_iff]; simp
end
end Go.Proofs.YtkncdbaoaeeoiaaGreatDoor
namespace Shp
def nameOk (t:Sh) (wordB:List UInt8->Bool):Bool:=if t.of_= [] then Lex.isUpper t.name&& !wordB t.name else Lex.isName t.of_&&Lex.isUpper t.name
section
variable {t : Sh}
include t
theorem Z2W (c:1<=t.kind) (d:t.kind<=4):fits t=(bare t&&decide (t.names.length=0)&&decide (t.parts.length=0)):=by
 cases a:bare t with
 | false=>rw[Z20 (by omega) a]; rfl
 | true=>
  by_cases b:0 < t.names.length
  {rw[Z2E (by omega) a (by omega) b,decide_eq_false (p:=t.names.length=0) (by omega)]; rfl}
  {rw[Z4v a (by omega) (by omega) b (by omega) (by omega),decide_eq_true c,decide_eq_true d,decide_eq_true (p:=t.names.length=0) (by omega)]}
theorem Zbl (h:t.kind=5):fits t=(bare t&&decide (t.names.length=0)&&decide (t.parts.length=1)):=by
 cases a:bare t with
 | false=>rw[Z20 (by omega) a]; rfl
 | true=>
  by_cases b:0 < t.names.length
  {rw[Z2E (by omega) a (by omega) b,decide_eq_false (p:=t.names.length=0) (by omega)]; rfl}
  {rw[Z6P a h b,decide_eq_true (p:=t.names.length=0) (by omega)]; rfl}
theorem ZcU (h:t.kind=8):fits t=(bare t&&decide (t.names.length=0)&&decide (0 < t.parts.length)):=by
 cases a:bare t with
 | false=>rw[Z20 (by omega) a]; rfl
 | true=>
  by_cases b:0 < t.names.length
  {rw[Z2E (by omega) a (by omega) b,decide_eq_false (p:=t.names.length=0) (by omega)]; rfl}
  {rw[Z7Y a h b,decide_eq_true (p:=t.names.length=0) (by omega)]; rfl}
theorem Z78 (h:t.kind=6\/t.kind=7):fits t=(bare t&&decide (t.names.length=t.parts.length)&&areNames t.names):=by
 cases a:bare t with
 | false=>rw[Z20 (by omega) a]; rfl
 | true=>rw[Z7X a h,Bool.true_and,Bool.and_comm]
theorem ZcV (h:t.kind < 1\/10 < t.kind):fits t=false:=by
 cases a:bare t with
 | false=>rw[Z20 (by omega) a]
 | true=>
  by_cases b:0 < t.names.length
  {rw[Z2E (by omega) a (by omega) b]}
  {rw[Z4v a (by omega) (by omega) b (by omega) (by omega)];rcases h with h | h
   {rw[decide_eq_false (by omega)]; rfl}
   {rw[decide_eq_false (p:=t.kind<=4) (by omega),Bool.and_false]; rfl}}
theorem Z9L (h:t.kind=10):fits t=(Lex.isName t.of_&&Lex.isUpper t.name&&decide (t.names.length=0)&&decide (t.parts.length=0)):=by
 rw[Z4u (Or.inr h)];unfold ofOk;rw[h,show decide ((10:Int)=9)=false from rfl,Bool.and_false,Bool.false_and,Bool.or_false,Bool.and_comm (Lex.isUpper t.name)]
end
end Shp
namespace Go.Proofs.YtkncdbaoaeeoiaaGreatDoor
open Go.RowKit Shp
theorem ZcW:Lex.isUpper []=false:=rfl
theorem Z9M {s:List UInt8} (h:Lex.isUpper s=true):wordB s=plain s:=by
 have d: ([]==s)=false:=by
  cases s with
  | nil=>rw[ZcW] at h; cases h
  | cons a l=>rfl
 have c: ∀a b:List UInt8,(a==b)=(b==a):=fun a b=>by rw[Bool.eq_iff_iff,beq_iff_eq,beq_iff_eq]; exact eq_comm
 unfold wordB plain;rw[d,Bool.false_or,c [73,110,116],c [66,111,111,108],c [84,101,120,116],c [65,110,121]]
theorem Zbm {t:Sh} (h:t.kind=9):fits t=(nameOk t wordB&&decide (t.names.length=0)&&decide (t.parts.length=0)):=by
 rw[Z4u (Or.inl h)];congr 2;unfold ofOk nameOk;rw[h,show decide ((9:Int)=9)=true from rfl,Bool.and_true];by_cases a:t.of_= []
 {rw[if_pos a,a];cases b:Lex.isUpper t.name with
  | false=>rfl
  | true=>rw[Z9M b]; rfl}
 {rw[if_neg a,show (t.of_== [])=false from beq_eq_false_iff_ne.2 a,Bool.false_and,Bool.or_false,Bool.and_comm]}
theorem Z0T (t:Sh) (q:Ptr) (w:World):
 Y9 168 #[.agg (Y8 t q)] w (.bool (bare t)):=by
 have e:Hid (bare t=(t.of_== []&&t.name== [])):=Y1 rfl;have hb0:=Z01 w (.cells (Y8 t q) 43);have a:=Y1 hb0;clear hb0;obtain ⟨_,⟨g,c1,c2,c3,c4⟩,_⟩:=Z0k w t q;cases h1: (t.of_== [])
 {have d:=Z1b h1;have b:Hid (bare t=false):=Y1 (by rw[e.out,h1]; rfl);clear h1;go_enter Tryz.func168,Tryz.ntmps168;go_wp2;go_ret;exact ⟨by rw[b.out]; rfl,a.out⟩}
 {have d:=Z1b h1;cases c: (t.name== [])
  all_goals
   have f:=Z1b c;have b:Hid _:=Y1 (show bare t=_ from by rw[e.out,h1,c]);clear h1 c;go_enter Tryz.func168,Tryz.ntmps168;go_wp2;go_ret;exact ⟨Z08 (by rw[b.out]; rfl),a.out⟩}
theorem Z9N (t:Sh) (q:Ptr) (w:World) (l:Small t q) (j:WGlobs w):
 Y9 170 #[.agg (Y8 t q)] w (.bool (nameOk t wordB)):=by
 have i:=Y1 l;have h:Hid (nameOk t wordB=if t.of_= [] then Lex.isUpper t.name&& !wordB t.name else Lex.isName t.of_&&Lex.isUpper t.name):=Y1 rfl;have hb0:=Z01 w (.cells (Y8 t q) 43);have g:=fun W=>Z0R t.name i.out.n W;have k:=fun W=>Z0s t.of_ i.out.o W;have m:=Z8v t.name _ (j.next hb0);have a:=Y1 hb0;clear hb0 j l;obtain ⟨_,⟨n,c1,c2,c3,c4⟩,_⟩:=Z0k w t q;cases d: (t.of_== [])
 {have f:=Z1b d;have b:Hid (nameOk t wordB=(Lex.isName t.of_&&Lex.isUpper t.name)):=Y1 (by rw[h.out,if_neg (by simpa using d)]);clear d;cases c:Lex.isName t.of_
  all_goals
   rw[c] at b;simp only[c] at k;clear c;go_enter Tryz.func170,Tryz.ntmps170
   go_wp2_with fail
   refine (k _).mono ?_;rintro e w' ⟨rfl,rfl⟩
  {go_wp2;go_ret;exact ⟨by rw[b.out]; rfl,a.out⟩}
  {go_wp2_with fail
   refine (g _).mono ?_;rintro e w' ⟨rfl,rfl⟩;go_wp2;go_ret;exact ⟨Z08 (by rw[b.out]; rfl),a.out⟩}}
 {have f:=Z1b d;have b:Hid (nameOk t wordB=(Lex.isUpper t.name&& !wordB t.name)):=Y1 (by rw[h.out,if_pos (by simpa using d)]);clear d;cases c:Lex.isUpper t.name
  all_goals
   rw[c] at b;simp only[c] at g;clear c;go_enter Tryz.func170,Tryz.ntmps170
   go_wp2_with fail
   refine (g _).mono ?_;rintro e w' ⟨rfl,rfl⟩
  {go_wp2;go_ret;exact ⟨by rw[b.out]; rfl,a.out⟩}
  {go_wp2_with fail
   refine m.mono ?_;rintro e w' ⟨rfl,rfl⟩;go_wp2;go_ret;exact ⟨Z08 (by rw[b.out]; rfl),a.out⟩}}
theorem Z56 {a b:Nat}: ((a:Int)==(b:Int))=decide (a=b):=by rw[Bool.eq_iff_iff,beq_iff_eq,decide_eq_true_eq]; omega
theorem ZaJ {k n:Int} (m:Int) (h:k=n) (e: (n==m)=true): (k==m)=true:=by rw[h]; exact e
theorem Z5P {k n:Int} (m:Int) (h:k=n) (e: (n==m)=false): (k==m)=false:=by rw[h]; exact e
section
variable (t : Sh) (q : Ptr) (w : World) (hq : ShAt w w.heap.size q t) (hg : WGlobs w)
include t q w hq hg
theorem ZjX (a:t.kind=1\/t.kind=2\/t.kind=3\/t.kind=4\/t.kind=5\/t.kind=8):
 Y9 140 #[.agg (Y8 t q)] w (.bool (fits t)):=by
 have C:=Y1 hq.small;have A:=Y1 hq.strs;have m:=Z0k w t q;have k:=Y1 m;have hb0:=Z01 w (.cells (Y8 t q) 43);have d:=Y1 hb0;have B:=Y1 (hg.next hb0);obtain ⟨_,⟨l,c1,c2,c3,c4⟩,_⟩:=m;rcases a with a | a | a | a | a | a
 all_goals
  first | have n:=ZaJ 1 a rfl | have n:=Z5P 1 a rfl
  first | have o:=ZaJ 2 a rfl | have o:=Z5P 2 a rfl
  first | have p:=ZaJ 3 a rfl | have p:=Z5P 3 a rfl
  first | have r:=ZaJ 4 a rfl | have r:=Z5P 4 a rfl
  first | have s:=ZaJ 5 a rfl | have s:=Z5P 5 a rfl
  first | have u:=ZaJ 6 a rfl | have u:=Z5P 6 a rfl
  first | have v:=ZaJ 7 a rfl | have v:=Z5P 7 a rfl
  first | have y:=ZaJ 8 a rfl | have y:=Z5P 8 a rfl
  first | have z:=ZaJ 9 a rfl | have z:=Z5P 9 a rfl
  first | have j:=ZaJ 10 a rfl | have j:=Z5P 10 a rfl
  first | have c:=Y1 (Zbl a) | have c:=Y1 (ZcU a) | have c:=Y1 (Z2W (t:=t) (by omega) (by omega))
  have g:=Z0T t q (w.alloc (.cells (Y8 t q) 43));clear a hg hq hb0;cases h:bare t
  {rw[h] at g c;clear h;go_enter Tryz.func140,Tryz.ntmps140
   go_wp2_with fail
   refine g.mono ?_;rintro e w' ⟨rfl,b⟩;go_wp2;go_ret;exact ⟨by rw[c.out]; rfl,Z00 d.out b⟩}
  {rw[h] at g c;clear h;cases f:decide (t.names.length=0)
   {rw[f] at c;have i: ((t.names.length:Int)==0)=false:=by rw[Z0w]; exact f
    clear f;go_enter Tryz.func140,Tryz.ntmps140
    go_wp2_with fail
    refine g.mono ?_;rintro e w' ⟨rfl,b⟩;obtain ⟨_,⟨l,c1,c2,c3,c4⟩,_⟩:=k.out.next b;go_wp2;go_ret;exact ⟨by rw[c.out]; rfl,Z00 d.out b⟩}
   {rw[f] at c;have i: ((t.names.length:Int)==0)=true:=by rw[Z0w]; exact f
    clear f;go_enter Tryz.func140,Tryz.ntmps140
    go_wp2_with fail
    refine g.mono ?_;rintro e w' ⟨rfl,b⟩;obtain ⟨_,⟨l,c1,c2,c3,c4⟩,_⟩:=k.out.next b;go_wp2;go_ret;exact ⟨Z08 (by rw[c.out,Bool.eq_iff_iff]; simp; try omega),Z00 d.out b⟩}}
theorem ZjY (a:t.kind=6\/t.kind=7) (d:t.parts.length<=1000000):
 Y9 140 #[.agg (Y8 t q)] w (.bool (fits t)):=by
 have u:=Y1 hq.small;have s:=Y1 hq.strs;have r:=Z0k w t q;have o:=Y1 r;have hb0:=Z01 w (.cells (Y8 t q) 43);have c:=Y1 hb0;have J:=Y1 (hg.next hb0);have v:=Y1 d;clear d;obtain ⟨_,⟨p,c1,c2,c3,c4⟩,_⟩:=r;rcases a with a | a
 all_goals
  first | have z:=ZaJ 1 a rfl | have z:=Z5P 1 a rfl
  first | have A:=ZaJ 2 a rfl | have A:=Z5P 2 a rfl
  first | have B:=ZaJ 3 a rfl | have B:=Z5P 3 a rfl
  first | have C:=ZaJ 4 a rfl | have C:=Z5P 4 a rfl
  first | have D:=ZaJ 5 a rfl | have D:=Z5P 5 a rfl
  first | have E:=ZaJ 6 a rfl | have E:=Z5P 6 a rfl
  first | have F:=ZaJ 7 a rfl | have F:=Z5P 7 a rfl
  first | have G:=ZaJ 8 a rfl | have G:=Z5P 8 a rfl
  first | have H:=ZaJ 9 a rfl | have H:=Z5P 9 a rfl
  first | have n:=ZaJ 10 a rfl | have n:=Z5P 10 a rfl
  have f:=Y1 (Z78 (t:=t) (by first | exact Or.inl a | exact Or.inr a));have g:=Z0T t q (w.alloc (.cells (Y8 t q) 43));clear a hg hq hb0;cases k:bare t
  {rw[k] at g f;clear k;go_enter Tryz.func140,Tryz.ntmps140
   go_wp2_with fail
   refine g.mono ?_;rintro e w' ⟨rfl,b⟩;go_wp2;go_ret;exact ⟨by rw[f.out]; rfl,Z00 c.out b⟩}
  {rw[k] at g f;clear k;cases d:decide (t.names.length=t.parts.length)
   {rw[d] at f;have j: ((t.names.length:Int)==(t.parts.length:Int))=false:=by rw[Z56]; exact d
    clear d;go_enter Tryz.func140,Tryz.ntmps140
    go_wp2_with fail
    refine g.mono ?_;rintro e w' ⟨rfl,b⟩;obtain ⟨_,⟨p,c1,c2,c3,c4⟩,_⟩:=o.out.next b;go_wp2;go_ret;exact ⟨by rw[f.out]; rfl,Z00 c.out b⟩}
   {rw[d] at f;have j: ((t.names.length:Int)==(t.parts.length:Int))=true:=by rw[Z56]; exact d
    clear d;have i:t.names.length<=1000000:=by have:=v.out; have K:=beq_iff_eq.1 j; omega
    have h:=s.out.next c.out;go_enter Tryz.func140,Tryz.ntmps140
    go_wp2_with fail
    refine g.mono ?_;rintro e I ⟨rfl,b⟩;have y:=Z5t q.A q.c t.names I (h.next b) i u.out.ns;obtain ⟨_,⟨p,c1,c2,c3,c4⟩,_⟩:=o.out.next b;have m:=Z00 c.out b;clear g b h
    go_wp2_with fail
    refine y.mono ?_;rintro e w' ⟨rfl,l⟩;go_wp2;go_ret;exact ⟨Z08 (by rw[f.out]; rfl),Z00 m l⟩}}
theorem Zfw (b:t.kind=9):
 Y9 140 #[.agg (Y8 t q)] w (.bool (fits t)):=by
 have n:=Y1 hq.small;have p:=Y1 hq.strs;have l:=Z0k w t q;have j:=Y1 l;have hb0:=Z01 w (.cells (Y8 t q) 43);have c:=Y1 hb0;have m:=Y1 (hg.next hb0);obtain ⟨_,⟨k,c1,c2,c3,c4⟩,_⟩:=l;have r:=Y3 1 b rfl;have s:=Y3 2 b rfl;have u:=Y3 3 b rfl;have v:=Y3 4 b rfl;have y:=Y3 5 b rfl;have z:=Y3 6 b rfl;have A:=Y3 7 b rfl;have B:=Y3 8 b rfl;have C:=Y4 9 b rfl;have o:=Y3 10 b rfl;have d:=Y1 (Zbm b);have g:=Z9N t q (w.alloc (.cells (Y8 t q) 43)) n.out m.out;clear b hg hq hb0;cases h:nameOk t wordB
 {rw[h] at g d;clear h;go_enter Tryz.func140,Tryz.ntmps140
  go_wp2_with fail
  refine g.mono ?_;rintro e w' ⟨rfl,a⟩;go_wp2;go_ret;exact ⟨by rw[d.out]; rfl,Z00 c.out a⟩}
 {rw[h] at g d;clear h;cases f:decide (t.names.length=0)
  {rw[f] at d;have i: ((t.names.length:Int)==0)=false:=by rw[Z0w]; exact f
   clear f;go_enter Tryz.func140,Tryz.ntmps140
   go_wp2_with fail
   refine g.mono ?_;rintro e w' ⟨rfl,a⟩;obtain ⟨_,⟨k,c1,c2,c3,c4⟩,_⟩:=j.out.next a;go_wp2;go_ret;exact ⟨by rw[d.out]; rfl,Z00 c.out a⟩}
  {rw[f] at d;have i: ((t.names.length:Int)==0)=true:=by rw[Z0w]; exact f
   clear f;go_enter Tryz.func140,Tryz.ntmps140
   go_wp2_with fail
   refine g.mono ?_;rintro e w' ⟨rfl,a⟩;obtain ⟨_,⟨k,c1,c2,c3,c4⟩,_⟩:=j.out.next a;go_wp2;go_ret;exact ⟨Z08 (by rw[d.out,Bool.eq_iff_iff]; simp; try omega),Z00 c.out a⟩}}
theorem Zen (a:t.kind=10):
 Y9 140 #[.agg (Y8 t q)] w (.bool (fits t)):=by
 have k:=Y1 hq.small;have n:=Y1 hq.strs;have l:=Z0k w t q;have o:=Y1 l;have hb0:=Z01 w (.cells (Y8 t q) 43);have c:=Y1 hb0;have p:=Y1 (hg.next hb0);obtain ⟨_,⟨r,c1,c2,c3,c4⟩,_⟩:=l;have s:=Y3 1 a rfl;have u:=Y3 2 a rfl;have v:=Y3 3 a rfl;have y:=Y3 4 a rfl;have z:=Y3 5 a rfl;have A:=Y3 6 a rfl;have B:=Y3 7 a rfl;have C:=Y3 8 a rfl;have D:=Y3 9 a rfl;have m:=Y4 10 a rfl;have b:=Y1 (Z9L a);have g:=fun W=>Z0s t.of_ k.out.o W;have h:=fun W=>Z0R t.name k.out.n W;clear a hg hq hb0;cases d:Lex.isName t.of_
 {rw[d] at b;simp only[d] at g;clear d;go_enter Tryz.func140,Tryz.ntmps140
  go_wp2_with fail
  refine (g _).mono ?_;rintro e w' ⟨rfl,rfl⟩;go_wp2;go_ret;exact ⟨by rw[b.out]; rfl,c.out⟩}
 {rw[d] at b;simp only[d] at g;clear d;cases f:Lex.isUpper t.name
  {rw[f] at b;simp only[f] at h;clear f;go_enter Tryz.func140,Tryz.ntmps140
   go_wp2_with fail
   refine (g _).mono ?_;rintro e w' ⟨rfl,rfl⟩
   go_wp2_with fail
   refine (h _).mono ?_;rintro e w' ⟨rfl,rfl⟩;go_wp2;go_ret;exact ⟨by rw[b.out]; rfl,c.out⟩}
  {rw[f] at b;simp only[f] at h;clear f;cases i:decide (t.names.length=0)
   all_goals
    rw[i] at b;have j:=i;rw[<-Z0w] at j;clear i;go_enter Tryz.func140,Tryz.ntmps140
    go_wp2_with fail
    refine (g _).mono ?_;rintro e w' ⟨rfl,rfl⟩
    go_wp2_with fail
    refine (h _).mono ?_;rintro e w' ⟨rfl,rfl⟩;go_wp2;go_ret;exact ⟨Z08 (by rw[b.out,Bool.eq_iff_iff]; simp),c.out⟩}}
theorem Zbn (c:t.kind < 1\/10 < t.kind):
 Y9 140 #[.agg (Y8 t q)] w (.bool (fits t)):=by
 have i:=Y1 hq.small;have f:=Y1 hq.strs;have b:=Z0k w t q;have g:=Y1 b;have hb0:=Z01 w (.cells (Y8 t q) 43);have a:=Y1 hb0;have h:=Y1 (hg.next hb0);obtain ⟨_,⟨j,c1,c2,c3,c4⟩,_⟩:=b;have k: (t.kind==1)=false:=by rw[beq_eq_false_iff_ne]; omega
 have l: (t.kind==2)=false:=by rw[beq_eq_false_iff_ne]; omega
 have m: (t.kind==3)=false:=by rw[beq_eq_false_iff_ne]; omega
 have n: (t.kind==4)=false:=by rw[beq_eq_false_iff_ne]; omega
 have o: (t.kind==5)=false:=by rw[beq_eq_false_iff_ne]; omega
 have p: (t.kind==6)=false:=by rw[beq_eq_false_iff_ne]; omega
 have r: (t.kind==7)=false:=by rw[beq_eq_false_iff_ne]; omega
 have s: (t.kind==8)=false:=by rw[beq_eq_false_iff_ne]; omega
 have u: (t.kind==9)=false:=by rw[beq_eq_false_iff_ne]; omega
 have e: (t.kind==10)=false:=by rw[beq_eq_false_iff_ne]; omega
 have d:=Y1 (ZcV c);clear c hg hq hb0;go_enter Tryz.func140,Tryz.ntmps140;go_wp2;go_ret;exact ⟨by rw[d.out]; rfl,a.out⟩
theorem Zbo (a:t.parts.length<=1000000):
 Y9 140 #[.agg (Y8 t q)] w (.bool (fits t)):=by
 by_cases h:t.kind < 1\/10 < t.kind
 {exact Zbn t q w hq hg h}
 {have:t.kind=1\/t.kind=2\/t.kind=3\/t.kind=4\/t.kind=5\/t.kind=6\/t.kind=7\/t.kind=8\/t.kind=9\/t.kind=10:=by omega
  rcases this with h | h | h | h | h | h | h | h | h | h
  case inr.inr.inr.inr.inr.inr.inr.inr.inl=>exact Zfw t q w hq hg h
  case inr.inr.inr.inr.inr.inr.inr.inr.inr=>exact Zen t q w hq hg h
  all_goals first | exact ZjX t q w hq hg (by omega) | exact ZjY t q w hq hg (by omega) a}
end
end Go.Proofs.YtkncdbaoaeeoiaaGreatDoor
namespace Go.Proofs.YtkncdbaoaeeoiaaGreatDoor
section
open Go.RowKit Shp
def Z1q (p:Sh->Bool) (l:List Sh):Int:=match l.findIdx? p with
 | some i=>(i:Int)
 | none=> -1
theorem ZcX {p:Sh->Bool} {l:List Sh} {i:Nat} (a:i < l.length) (h:p (l[i]'a)=true) (b: ∀j (hj:j < l.length),j < i->p (l[j]'hj)=false):Z1q p l=(i:Int):=by
 have:l.findIdx? p=some i:=List.findIdx?_eq_some_iff_getElem.2 ⟨a,h,fun j hj=>by rw[b j (by omega) hj]; simp⟩;unfold Z1q; rw[this]
theorem Z9O {p:Sh->Bool} {l:List Sh} (b: ∀j (a:j < l.length),p (l[j]'a)=false):Z1q p l= -1:=by
 have:l.findIdx? p=none:=List.findIdx?_eq_none_iff.2 (fun x hx=>by
  obtain ⟨j,a,rfl⟩:=List.getElem_of_mem hx;exact b j a)
 unfold Z1q; rw[this]
theorem Zbp (p:Sh->Bool) (l:List Sh):decide (0<=Z1q p l)=l.any p:=by
 unfold Z1q;cases h:l.findIdx? p with
 | some i=>
  obtain ⟨a,b,_⟩:=List.findIdx?_eq_some_iff_getElem.1 h;show decide ((0:Int)<=(i:Int))=_;rw[decide_eq_true (by omega)];exact (List.any_eq_true.2 ⟨_,List.getElem_mem a,b⟩).symm
 | none=>
  have:=List.findIdx?_eq_none_iff.1 h;show false=_;symm;rw[List.any_eq_false];intro x c; rw[this x c]; simp
theorem ZcY (p:Sh->Bool) (l:List Sh): -1<=Z1q p l:=by
 unfold Z1q;cases l.findIdx? p with
 | some i=>show (-1:Int)<=(i:Int); omega
 | none=>show (-1:Int)<= -1; omega
theorem Z7u (l:List Sh):l.any (fun p=> !right p)= !rights l:=by
 rw[rights_all];induction l with
 | nil=>rfl
 | cons a l ih=>simp[ih]
section
variable (P : Option Addr) (d : Nat) (l : List Sh) (g off : Nat) (qs : Nat -> Ptr) (w : World) (hl : l.length <= 1000000) (hp : l.length = 0 \/ P = some ⟨g, off, none⟩ /\ g < w.heap.size /\ (∀ i (h : i < l.length), Sh5 w g (off + i * 5) (l[i]'h) (qs i)) /\ ∀ i (h : i < l.length), ShAt w w.heap.size (qs i) (l[i]'h)) (hg : WGlobs w) (hf : ∀ x ∈ l, ∀ (q : Ptr) (w : World), ShAt w w.heap.size q x -> WGlobs w -> Y9 106 #[.agg (Y8 x q)] w (.bool (!right x)))
include P d l g off qs w hl hp hg hf
theorem ZcZ:
 Y9 171 #[.slice P l.length d,.func (.func 106) #[] #[]] w (.int .i64 (Z1q (fun p=> !right p) l)):=by
 have C:=Y1 hp;have z:=Y1 hf;have A:=Y1 hg;clear hg;clear hp hf;go_enter Tryz.func171,Tryz.ntmps171
 go_wp2_with fail
 go_loopw [8] (fun ii wr=> ∃i:Nat,ii= .int .i64 i/\i<=l.length/\Hid (∀j (h:j < l.length),j < i->(!right (l[j]'h))=false)/\Below w.heap.size w wr) (fun i _=>l.length - (intOf i).toNat)
 case atStart=>exact ⟨0,rfl,Nat.zero_le _,Y1 (fun j _ hj=>absurd hj (by omega)),Below.refl _ _⟩
 case round=>
  obtain ⟨i,rfl,E,r,k⟩:=hrel;by_cases b:i < l.length
  {rcases C.out with D | ⟨rfl,hg,v,y⟩
   {omega}
   {obtain ⟨x,o⟩: ∃x,x=l[i]'b:=⟨_,rfl⟩;obtain ⟨p0,p1,p2,p3,p4⟩:=(v i b).keep hg k;have m:ShAt wr wr.heap.size (qs i) x:=by rw[o]; exact (y i b).next k
    have f:=z.out l[i] (List.getElem_mem _) (qs i) wr;rw[<-o] at p0 p1 p2 p3 p4 f;have n:=f m (A.out.next k);have u:=Y1 o;clear o v y m f;have t: (i:Int) < (l.length:Int):=by omega
    cases a: !right x with
    | true=>
     rw[a] at n;have s:Hid (Z1q (fun p=> !right p) l=(i:Int)):=Y1 (ZcX b (by show (!right _)=true; rw[<-u.out]; exact a) (fun j hj hji=>r.out j hj hji));clear a
     go_wp2_with fail
     refine n.mono ?_;rintro e w' ⟨rfl,c⟩;go_wp2;go_ret;exact ⟨Z0p s.out.symm,Z00 k c⟩
    | false=>
     rw[a] at n;have B:=Y1 a;clear a
     go_wp2_with fail
     refine n.mono ?_;rintro e w' ⟨rfl,c⟩;go_wp2
     go_roundw
     case rel=>exact ⟨i+1,by go_num,by omega,Y1 (fun j hj hji=>by
      rcases Nat.lt_succ_iff_lt_or_eq.1 hji with h | rfl
      {exact r.out j hj h}
      · rw[<-u.out]; exact B.out),Z00 k c⟩
     case measure=>simp[intOf]; omega}}
  {have t: ¬(i:Int) < (l.length:Int):=by omega
   have s:Hid (Z1q (fun p=> !right p) l= -1):=Y1 (Z9O (fun j hj=>r.out j hj (by omega)));go_wp2;go_ret;exact ⟨Z0p s.out.symm,k⟩}
theorem Z8w:
 Y9 141 #[.slice P l.length d,.func (.func 106) #[] #[]] w (.bool (l.any (fun p=> !right p))):=by
 have c:=ZcZ P d l g off qs w hl hp hg hf;have f:=Y1 (Zbp (fun p=> !right p) l);have b:=ZcY (fun p=> !right p) l;generalize Z1q (fun p=> !right p) l=r at c f b;clear hp hf;go_enter Tryz.func141,Tryz.ntmps141
 go_wp2_with fail
 refine c.mono ?_;rintro e w' ⟨rfl,a⟩;go_wp2;go_ret;exact ⟨Z08 f.out,a⟩
end
theorem Zfx {w:World} {q:Ptr} {t:Sh} (h:ShAt w w.heap.size q t): ∃(g off:Nat) (qs:Nat->Ptr),t.parts.length=0\/q.P=some ⟨g,off,none⟩/\g < w.heap.size/\(∀i (h:i < t.parts.length),Sh5 w g (off+i * 5) (t.parts[i]'h) (qs i))/\ ∀i (h:i < t.parts.length),ShAt w w.heap.size (qs i) (t.parts[i]'h):=by
 rcases h.part with a | ⟨g,off,qs,b,c,d,e⟩
 {exact ⟨0,0,fun _=>q,Or.inl a⟩}
 {exact ⟨g,off,qs,Or.inr ⟨b,c,d,e⟩⟩}
theorem Z8x (t:Sh): ∀(q:Ptr) (w:World),ShAt w w.heap.size q t->WGlobs w->size t<=1000000->
 Y9 106 #[.agg (Y8 t q)] w (.bool (!right t)):=by
 induction t using Sh.ind with
 | h t ih=>
 intro q w l k m;have b:t.parts.length<=1000000:=by have:=length_sizes t.parts; rw[size_eq] at m; omega
 have hb0:=Z01 w (.cells (Y8 t q) 43);have f:=Zbo t q _ (l.next hb0) (k.next hb0) b;have s:=Y1 (fun W (h:Below w.heap.size w W)=>by
  obtain ⟨g,off,qs,v⟩:=Zfx (l.next h);exact Z8w q.P q.d t.parts g off qs W b v (k.next h) (fun x hx q' w' hat hg'=>ih x hx q' w' hat hg' (by have:=sizes_mem hx; rw[size_eq] at m; omega)))
 have o:=Y1 (right_eq t);have r:=Y1 (Z7u t.parts);have c:=Y1 hb0;have n:=Y1 (Z0k w t q);obtain ⟨_,⟨u,c1,c2,c3,c4⟩,_⟩:=n.out;clear hb0 l k m b ih;cases hft:fits t
 {have i:Hid (right t=false):=Y1 (by rw[o.out,hft]; rfl);rw[hft] at f;clear hft;go_enter Tryz.func106,Tryz.ntmps106
  go_wp2_with fail
  refine f.mono ?_;rintro e w' ⟨rfl,a⟩;go_wp2;go_ret;exact ⟨by rw[i.out]; rfl,Z00 c.out a⟩}
 {have i:Hid ((!right t)=t.parts.any (fun p=> !right p)):=Y1 (by rw[o.out,hft,r.out]; rfl);rw[hft] at f;clear hft;go_enter Tryz.func106,Tryz.ntmps106
  go_wp2_with fail
  refine f.mono ?_;rintro e z ⟨rfl,a⟩;have d:=Z00 c.out a;have y:=s.out z d;obtain ⟨_,⟨A,d1,d2,d3,B⟩,_⟩:=n.out.next a;clear f u c1 c2 c3 c4 a
  go_wp2_with fail
  refine y.mono ?_;rintro e w' ⟨rfl,j⟩;go_wp2;go_ret;exact ⟨Z08 i.out.symm,Z00 d j⟩}
theorem Zbq (b c:Addr) (x y:Int) (u:TypeId) (g:Value) (a:List PanicEntry) (w:World) (j:w.cell? b=some (.int .i64 x)) (k:w.cell? c=some (.int .i64 y)) (h:w.frozen? b=false) (i:w.frozen? c=false)
 (d:b≠c):
 CallsD Tryz.prog 138 #[.pointer (some b),.pointer (some c)] (.panicking ({ v:= .iface u g,recovered:=false }::a)) w fun e u' w'=>
  e= .returned (.tuple #[])/\u'= .panicking ({ v:= .iface u g,recovered:=true }::a)/\w'=(w.setCell b (.int .i64 401)).setCell c (.int .i64 0):=by
 have f: (w.setCell b (.int .i64 401)).cell? c=some (.int .i64 y):=(World.cell?_setCell_other _ _ _ _ d).trans k;refine callsD_of_wpS Tryz.func138 rfl fun c₀ cs hu=> ?_;apply wpS_seq;apply wpS_region;simp[wpOpsS,go_sem,recoverD,hu,Tryz.ntmps138,Exit.thenS];refine wpS_cond (t:=true) (by simp[Act.eval,Array.replicate]) ?_;simp only[if_true];apply wpS_region;simp[wpOpsS,go_sem,j,f,h,i,bodyPostS,results,Tryz.results138]
theorem Zbr (b c:Addr) (w:World):
 CallsD Tryz.prog 138 #[.pointer (some b),.pointer (some c)] .returning w fun e u' w'=>e= .returned (.tuple #[])/\u'= .returning/\w'=w:=by
 refine callsD_of_wpS Tryz.func138 rfl fun c₀ cs hu=> ?_;apply wpS_seq;apply wpS_region;simp[wpOpsS,go_sem,recoverD,hu,Tryz.ntmps138,Exit.thenS];refine wpS_cond (t:=false) (by simp[Act.eval,Array.replicate]) ?_;simp only[Bool.false_eq_true,if_false];refine wpS_of_wp (wp_skip ?_);cases c₀;simp_all [bodyPostS,results,Tryz.results138]
def mW (w:World) (t:Sh) (q:Ptr):World:=
 (((w.alloc (.cells (Y8 t q) 43)).alloc (.cells #[.int .i64 0] 3)).alloc (.cells #[.int .i64 0] 3)).alloc (.cells #[.int .i64 0] 169)
structure MW (w W:World) (x y:Int):Prop where
 bel:Below w.heap.size w W
 size:w.heap.size+4<=W.heap.size
 b:W.cell? ⟨w.heap.size+1,0,none⟩=some (.int .i64 x)
 c:W.cell? ⟨w.heap.size+1+1,0,none⟩=some (.int .i64 y)
 fb:W.frozen? ⟨w.heap.size+1,0,none⟩=false
 fc:W.frozen? ⟨w.heap.size+1+1,0,none⟩=false
theorem Zd0 (w:World) (t:Sh) (q:Ptr):Cnt (mW w t q) (w.heap.size+1+1+1) 0 400:=by
 unfold mW;exact ⟨by simp,by simp[go_sem],rfl,by simp[go_sem]⟩
theorem Z7M (w:World) (t:Sh) (q:Ptr):MW w (mW w t q) 0 0:=by
 unfold mW;refine ⟨Z03 (Z03 (Z03 (Z01 _ _) _) _) _,by simp, ?_, ?_, ?_, ?_⟩ <;> simp[go_sem]
theorem MW.upc {w W W':World} {x y:Int} (h:MW w W x y) (a:UpC (w.heap.size+1+1+1) W.heap.size W W'):MW w W' x y:=by
 have e: ∀g,g < w.heap.size+3->W'.heap[g]? =W.heap[g]? :=fun g hg=>a.block g (by have:=h.size; omega) (by omega);refine ⟨h.bel.trans ⟨a.os,a.tape,a.output,a.size,fun k hk=>e k (by omega)⟩,Nat.le_trans h.size a.size, ?_, ?_, ?_, ?_⟩
 {exact (World.cell?_of_block (w:=W) (e (w.heap.size+1) (by omega))).trans h.b}
 {exact (World.cell?_of_block (w:=W) (e (w.heap.size+1+1) (by omega))).trans h.c}
 {exact (World.frozen?_of_block (w:=W) (e (w.heap.size+1) (by omega))).trans h.fb}
 {exact (World.frozen?_of_block (w:=W) (e (w.heap.size+1+1) (by omega))).trans h.fc}
section
variable (t : Sh) (q : Ptr) (w : World) (hq : ShAt w w.heap.size q t)
include t q w hq
theorem Z8y (d:400 < size t):
 Y9 105 #[.agg (Y8 t q)] w (.tuple #[.int .i64 401,.int .i64 0]):=by
 have m: ∀(fn:Fn) (first cap:Array Value) (w:World),(Instr.makeFunc fn first cap).run Tryz.prog w= .ok (.func fn first cap) w:=fun _ _ _ _=>rfl;have c:=Y1 (Z9d t q w.heap.size _ 0 400 _ (hq.keep (Z7M w t q).bel (Nat.le_refl _)) (by omega) (Zd0 w t q) (Nat.zero_le _) (by omega) (by omega));have g:=Y1 (Z7M w t q);clear hq d
 go_enter_defers Tryz.func105,Tryz.ntmps105
 go_wp2_with fail
 change Calls _ _ _ (mW w t q) _;generalize mW w t q=W at c g ⊢;refine c.out.mono ?_;rintro e s ⟨rfl,j⟩;obtain ⟨a,n,h,i,k,l⟩:=g.out.upc j;have b:=Y1 a;clear a j c
 go_wp2_with fail
 refine leaves_cons (f:=138) (args:=#[.pointer (some ⟨w.heap.size+1,0,none⟩),.pointer (some ⟨w.heap.size+1+1,0,none⟩)]) (by simp) (by simp[go_sem]) ?_;refine (Zbq ⟨w.heap.size+1,0,none⟩ ⟨w.heap.size+1+1,0,none⟩ 0 0 27 _ [] _ h i k l (by simp)).mono ?_;rintro e r o ⟨rfl,rfl,rfl⟩;simp[Leaves,settle,results,Tryz.results105,go_sem,h,i];exact (b.out.setCell (p:=⟨w.heap.size+1,0,none⟩) (by simp) _).setCell (p:=⟨w.heap.size+1+1,0,none⟩) (by simp; omega) _
theorem Zbs (k:size t<=400):
 Y9 105 #[.agg (Y8 t q)] w (.tuple #[.int .i64 (size t:Int),.int .i64 (deep t:Int)]):=by
 have z: ∀(fn:Fn) (first cap:Array Value) (w:World),(Instr.makeFunc fn first cap).run Tryz.prog w= .ok (.func fn first cap) w:=fun _ _ _ _=>rfl;have h:=Y1 (Z6S t q w.heap.size _ 0 400 _ (hq.keep (Z7M w t q).bel (Nat.le_refl _)) (by omega) (Zd0 w t q) (by omega) (by omega));have n:=Y1 (Z7M w t q);clear hq k
 go_enter_defers Tryz.func105,Tryz.ntmps105
 go_wp2_with fail
 change Calls _ _ _ (mW w t q) _;generalize mW w t q=W at h n ⊢;refine h.out.mono ?_;rintro e c ⟨rfl,y,g⟩;obtain ⟨b,l,r,s,u,v⟩:=n.out.upc y;have m:=g.c0;have a:=Y1 b;rw[Nat.zero_add] at m;clear b y h g
 go_wp2_with fail
 have d:Hid (Below w.heap.size w (c.setCell ⟨w.heap.size+1+1,0,none⟩ (.int .i64 (deep t:Int)))):=Y1 (a.out.setCell (by simp; omega) _);have A: (c.setCell ⟨w.heap.size+1+1,0,none⟩ (.int .i64 (deep t:Int))).cell? ⟨w.heap.size+1+1+1,0,none⟩=some (.int .i64 (size t:Int)):=(World.cell?_setCell_other _ _ _ _ (fun e=>by have:=congrArg Addr.block e; simp at this)).trans m;have o: (c.setCell ⟨w.heap.size+1+1,0,none⟩ (.int .i64 (deep t:Int))).cell? ⟨w.heap.size+1,0,none⟩=some (.int .i64 0):=(World.cell?_setCell_other _ _ _ _ (fun e=>by have:=congrArg Addr.block e; simp at this)).trans r;have c3: (c.setCell ⟨w.heap.size+1+1,0,none⟩ (.int .i64 (deep t:Int))).cell? ⟨w.heap.size+1+1,0,none⟩=some (.int .i64 (deep t:Int)):=by simp[go_sem,s]
 have i: (c.setCell ⟨w.heap.size+1+1,0,none⟩ (.int .i64 (deep t:Int))).frozen? ⟨w.heap.size+1,0,none⟩=false:=by rw[World.frozen?_setCell]; exact u
 have j: (c.setCell ⟨w.heap.size+1+1,0,none⟩ (.int .i64 (deep t:Int))).frozen? ⟨w.heap.size+1+1,0,none⟩=false:=by rw[World.frozen?_setCell]; exact v
 generalize c.setCell ⟨w.heap.size+1+1,0,none⟩ (.int .i64 (deep t:Int))=W3 at d A o c3 i j ⊢;clear m r s u v l a
 go_region
 all_goals
  go_wp2_with fail
  refine leaves_cons (f:=138) (args:=#[.pointer (some ⟨w.heap.size+1,0,none⟩),.pointer (some ⟨w.heap.size+1+1,0,none⟩)]) (by simp) (by simp[go_sem]) ?_;refine (Zbr ⟨w.heap.size+1,0,none⟩ ⟨w.heap.size+1+1,0,none⟩ _).mono ?_;rintro e C B ⟨rfl,rfl,rfl⟩;simp[Leaves,settle,results,Tryz.results105,go_sem,o,c3];exact ((d.out.setCell (p:=⟨w.heap.size+1,0,none⟩) (by simp) _).setCell (p:=⟨w.heap.size+1+1,0,none⟩) (by simp; omega) _).drew
end
end
end Go.Proofs.YtkncdbaoaeeoiaaGreatDoor
