/- What the proofs of SubtypeBelows, SubtypeBoth, SubtypeGreatest, SubtypeLeast, SubtypeOrder want, part 5. -/
import Derived.DeepKeys4
import Derived.Test.YtlomianlcnmfgaaDoorK0n4
set_option linter.unusedVariables false
set_option linter.unusedSimpArgs false
set_option linter.unusedSectionVars false
set_option maxRecDepth 100000
set_option maxHeartbeats 16000000
namespace Lex
def named (l:List UInt8):Bool:=decide (l.length<=24)&&l.tail.all nameB
section
variable {p : UInt8 -> Bool} {l : List UInt8}
include p l
theorem ZaR (h: ∀j (hj:j < l.length),1<=j->p (l[j]'hj)=true):l.tail.all p=true:=by
 cases l with
 | nil=>rfl
 | cons c r=>
  refine List.all_eq_true.2 (fun x hx=> ?_);obtain ⟨j,hj,rfl⟩:=List.mem_iff_getElem.1 hx;exact h (j+1) (by simpa using hj) (by omega)
theorem Zbg {j:Nat} (hj:j < l.length) (h1:1<=j) (h:p (l[j]'hj)=false):l.tail.all p=false:=by
 cases l with
 | nil=>simp at hj
 | cons c r=>
  obtain ⟨k,rfl⟩: ∃k,j=k+1:=⟨j - 1,by omega⟩;have hm: (r[k]'(by simpa using hj))∈r:=List.getElem_mem _;cases hq: (c::r).tail.all p with
  | false=>rfl
  | true=>
   have:=List.all_eq_true.1 hq _ hm;have h':p (r[k]'(by simpa using hj))=false:=h;rw[h'] at this; cases this
end
theorem Z8P (c:UInt8) (r:List UInt8):isName (c::r)=(small c&&named (c::r)&& !isWord (c::r)):=by
 show (decide ((c::r).length<=24)&&small c&&(c::r).all nameB&& !isWord (c::r))=_;cases h:small c with
 | false=>simp
 | true=>
  have:nameB c=true:=by unfold nameB; rw[h]; rfl
  unfold named;simp[this]
theorem Z7k (c:UInt8) (r:List UInt8):isUpper (c::r)=(great c&&named (c::r)):=by
 show (decide ((c::r).length<=24)&&great c&&(c::r).all nameB)=_;cases h:great c with
 | false=>simp
 | true=>
  have:nameB c=true:=by unfold nameB; rw[h]; simp
  unfold named;simp[this]
end Lex
namespace Go.Proofs.YtlomianlcnmfgaaDoor
open Go.RowKit
section
variable (l : List UInt8) (hl : l.length <= 9223372036854775807) (w : World)
include l hl w
theorem Z2Z:
 Calls Tryd.prog 76 #[.string ⟨l.toArray⟩] w fun e w'=>e= .returned (.bool (Lex.named l))/\w=w':=by
 have hz: (⟨l.toArray⟩:ByteArray).size=l.length:=Z0Y _;have HM:Hid (Lex.named l=(decide (l.length<=24)&&l.tail.all Lex.nameB)):=Y1 rfl;by_cases h24:l.length<=24
 {have h24d: ¬((24:Int) < (l.length:Int)):=by omega
  go_enter Tryd.func76,Tryd.ntmps76
  go_wp2_with fail
  go_loopw [3] (fun ii wr=> ∃n:Nat,ii= .int .i64 n/\1<=n/\(n<=l.length\/n=1)/\Hid (∀j (hj:j < l.length),1<=j->j < n->Lex.nameB (l[j]'hj)=true)/\w=wr)
   (fun i _=>l.length - (intOf i).toNat)
  case atStart=>exact ⟨1,rfl,Nat.le_refl _,Or.inr rfl,Y1 (fun j _ h1 hj=>absurd hj (by omega)),rfl⟩
  case round=>
   obtain ⟨n,rfl,h1,hn,HN,rfl⟩:=hrel;by_cases hlt:n < l.length
   {have hi1: (n:Int) < (l.length:Int):=by omega
    obtain ⟨c,hc⟩: ∃c,c=l[n]'hlt:=⟨_,rfl⟩;have hidx: ∀W,(Instr.index 9 (.string ⟨l.toArray⟩) (.int .i64 (n:Int))).run Tryd.prog W= .ok (.int .u8 c.toNat) W:=fun W=>by
     rw[hc]; exact Z4J ⟨l.toArray⟩ n (by omega) W
    have HC:=Y1 hc;clear hc;cases hb:Lex.nameB c
    {have HF:Hid (Lex.named l=false):=Y1 (by rw[HM.out,Lex.Zbg hlt h1 (by rw[<-HC.out]; exact hb)]; simp)
     go_wp2_with fail
     refine (Z4i c _).mono ?_;rintro e w2 ⟨rfl,rfl⟩;rw[hb];go_wp2;go_ret;exact ⟨by rw[HF.out]; rfl,rfl⟩}
    {have HN2:Hid (∀j (hj:j < l.length),1<=j->j < n+1->Lex.nameB (l[j]'hj)=true):=Y1 (fun j hj h1 hji=>by
      rcases Nat.lt_succ_iff_lt_or_eq.1 hji with h' | rfl
      {exact HN.out j hj h1 h'}
      · rw[<-HC.out]; exact hb)
     go_wp2_with fail
     refine (Z4i c _).mono ?_;rintro e w2 ⟨rfl,rfl⟩;rw[hb];go_wp2
     go_roundw
     case rel=>exact ⟨n+1,by go_num,by omega,Or.inl (by omega),HN2,trivial⟩
     case measure=>simp[intOf]; omega}}
   {have hi1: ¬(n:Int) < (l.length:Int):=by omega
    have HF:Hid (Lex.named l=true):=Y1 (by rw[HM.out,decide_eq_true h24,Lex.ZaR (fun j hj h1=>HN.out j hj h1 (by omega))]; rfl);go_wp2;go_ret;exact ⟨by rw[HF.out]; rfl,rfl⟩}}
 {have h24d: (24:Int) < (l.length:Int):=by omega
  have HF:Hid (Lex.named l=false):=Y1 (by rw[HM.out,decide_eq_false h24]; rfl);go_enter Tryd.func76,Tryd.ntmps76;go_wp2;go_ret;exact ⟨by rw[HF.out]; rfl,rfl⟩}
theorem Z2m:
 Calls Tryd.prog 60 #[.string ⟨l.toArray⟩] w fun e w'=>e= .returned (.bool (Lex.isName l))/\w=w':=by
 cases l with
 | nil=>
  have HM:Hid (Lex.isName []=false):=Y1 rfl;go_enter Tryd.func60,Tryd.ntmps60;go_wp2;go_ret;exact ⟨by rw[HM.out]; rfl,rfl⟩
 | cons c r=>
  have HM:=Y1 (Lex.Z8P c r);obtain ⟨l,hll⟩: ∃l:List UInt8,l=c::r:=⟨_,rfl⟩;rw[<-hll] at hl HM ⊢;have hz: (⟨l.toArray⟩:ByteArray).size=l.length:=Z0Y _;have he:l.isEmpty=false:=by rw[hll]; rfl
  have he2: (l== [])=false:=by rw[hll]; rfl
  have he3: (l != [])=true:=by rw[hll]; rfl
  have hidx: ∀W,(Instr.index 9 (.string ⟨l.toArray⟩) (.int .i64 0)).run Tryd.prog W= .ok (.int .u8 c.toNat) W:=fun W=>by rw[hll]; rfl
  clear hll;cases h1:Lex.small c
  {have HF:Hid (Lex.isName l=false):=Y1 (by rw[HM.out,h1]; rfl);go_enter Tryd.func60,Tryd.ntmps60
   go_wp2_with fail
   refine (Z1x c _).mono ?_;rintro e w2 ⟨rfl,rfl⟩;rw[h1];go_wp2;go_ret;exact ⟨by rw[HF.out]; rfl,rfl⟩}
  {cases h2:Lex.named l
   {have HF:Hid (Lex.isName l=false):=Y1 (by rw[HM.out,h1,h2]; rfl);go_enter Tryd.func60,Tryd.ntmps60
    go_wp2_with fail
    refine (Z1x c _).mono ?_;rintro e w2 ⟨rfl,rfl⟩;rw[h1]
    go_wp2_with fail
    refine (Z2Z l hl _).mono ?_;rintro e w2 ⟨rfl,rfl⟩;rw[h2];go_wp2;go_ret;exact ⟨by rw[HF.out]; rfl,rfl⟩}
   {have HF:Hid (Lex.isName l= !Lex.isWord l):=Y1 (by rw[HM.out,h1,h2]; rfl);go_enter Tryd.func60,Tryd.ntmps60
    go_wp2_with fail
    refine (Z1x c _).mono ?_;rintro e w2 ⟨rfl,rfl⟩;rw[h1]
    go_wp2_with fail
    refine (Z2Z l hl _).mono ?_;rintro e w2 ⟨rfl,rfl⟩;rw[h2]
    go_wp2_with fail
    refine (Z8O l _).mono ?_;rintro e w2 ⟨rfl,rfl⟩;go_wp2;go_ret;exact ⟨by rw[HF.out]; rfl,rfl⟩}}
theorem Z4j:
 Calls Tryd.prog 61 #[.string ⟨l.toArray⟩] w fun e w'=>e= .returned (.bool (Lex.isUpper l))/\w=w':=by
 cases l with
 | nil=>
  have HM:Hid (Lex.isUpper []=false):=Y1 rfl;go_enter Tryd.func61,Tryd.ntmps61;go_wp2;go_ret;exact ⟨by rw[HM.out]; rfl,rfl⟩
 | cons c r=>
  have HM:=Y1 (Lex.Z7k c r);obtain ⟨l,hll⟩: ∃l:List UInt8,l=c::r:=⟨_,rfl⟩;rw[<-hll] at hl HM ⊢;have hz: (⟨l.toArray⟩:ByteArray).size=l.length:=Z0Y _;have he:l.isEmpty=false:=by rw[hll]; rfl
  have he2: (l== [])=false:=by rw[hll]; rfl
  have he3: (l != [])=true:=by rw[hll]; rfl
  have hidx: ∀W,(Instr.index 9 (.string ⟨l.toArray⟩) (.int .i64 0)).run Tryd.prog W= .ok (.int .u8 c.toNat) W:=fun W=>by rw[hll]; rfl
  clear hll;cases h1:Lex.great c
  {have HF:Hid (Lex.isUpper l=false):=Y1 (by rw[HM.out,h1]; rfl);go_enter Tryd.func61,Tryd.ntmps61
   go_wp2_with fail
   refine (Z2X c _).mono ?_;rintro e w2 ⟨rfl,rfl⟩;rw[h1];go_wp2;go_ret;exact ⟨by rw[HF.out]; rfl,rfl⟩}
  {have HF:Hid (Lex.isUpper l=Lex.named l):=Y1 (by rw[HM.out,h1]; rfl);go_enter Tryd.func61,Tryd.ntmps61
   go_wp2_with fail
   refine (Z2X c _).mono ?_;rintro e w2 ⟨rfl,rfl⟩;rw[h1]
   go_wp2_with fail
   refine (Z2Z l hl _).mono ?_;rintro e w2 ⟨rfl,rfl⟩;go_wp2;go_ret;exact ⟨by rw[HF.out]; rfl,rfl⟩}
end
end Go.Proofs.YtlomianlcnmfgaaDoor
namespace Go.Proofs.YtlomianlcnmfgaaDoor
section
open Go.RowKit Go.Maps Go.WideMaps Shp
theorem Z1h:Keyed Tryd.prog 9:=string_keyed Tryd.underlying9
theorem Z3Z (w:World): (zeroValue 83).run Tryd.prog w= .ok (.agg #[]) w:=by kernel_rfl
def seenOf (l:List (List UInt8)) (k:Nat):DataW Unit:=setOf (.agg []) ((l.take k).map Lit.string)
theorem Z9X (l:List (List UInt8)):seenOf l 0= .map []:=by simp[seenOf,setOf]
theorem Z9Y (l:List (List UInt8)) (k:Nat) (hk:k < l.length):seenOf l (k+1)=(seenOf l k).put (.string (l[k]'hk)) (.agg []):=by
 unfold seenOf;rw[List.take_succ_eq_append_getElem hk,List.map_append,List.map_cons,List.map_nil,setOf_snoc]
theorem Z6n (x:List UInt8): ∀l:List (List UInt8),l.any ((fun y:Lit=>y.sameKey (.string x)) ∘ Lit.string)=l.contains x
 | []=>rfl
 | a::r=>by
  rw[List.any_cons,List.contains_cons,Z6n x r];congr 1;by_cases e:a=x
  {subst e; simp[Lit.sameKey]}
  {have e': ¬x=a:=fun h=>e h.symm;simp[Lit.sameKey];rw[show (a==x)=false from by simpa using e,show (x==a)=false from by simpa using e']}
theorem ZaS (l:List (List UInt8)) (k:Nat) (x:List UInt8):Maps.has (seenOf l k) (.string x)=(l.take k).contains x:=by
 unfold seenOf;rw[has_setOf _ _ _ (fun y hy=>by obtain ⟨_,_,rfl⟩:=List.mem_map.1 hy; trivial),List.any_map];exact Z6n x _
theorem Z7l (A:Option Addr) (c:Nat) (l:List (List UInt8)) (w:World) (hA:Strs w w.heap.size A (strs l)) (hl:l.length<=1000000) (hx: ∀x∈l,x.length<=9223372036854775807):
 Y9 58 #[.slice A l.length c] w (.bool (areNames l)):=by
 have hmm:= @run_makeMap Tryd.prog;have HA:=Y1 hA;have HX:=Y1 hx;clear hA hx;go_enter Tryd.func58,Tryd.ntmps58
 go_wp2_with fail
 go_loopw [11] (fun ii wr=> ∃k:Nat,k<=l.length/\ii= .int .i64 k/\wr.ownsMap Tryd.prog 9 unitElem w.heap.size k (seenOf l k)/\Below w.heap.size w wr/\Hid (∀j (hj:j < l.length),j < k->Lex.isName (l[j]'hj)=true/\ ∀m (hm:m < j),l[m]'(by omega)≠l[j]'hj))
  (fun i _=>l.length - (intOf i).toNat)
 case atStart=>exact ⟨0,Nat.zero_le _,rfl,by rw[Z9X]; exact World.ownsMap_made _ _ _ _,Y2.alloc (Nat.le_refl _) _,Y1 (fun j _ hj=>absurd hj (by omega))⟩
 case round=>
  obtain ⟨k,hk,rfl,hown,hb,HN⟩:=hrel;by_cases hlt:k < l.length
  {have hi1: (k:Int) < (l.length:Int):=by omega
   rcases (HA.out.next hb).cell7 with h0 | ⟨g,off,rfl,hg,hc⟩
   {omega}
   {have hcell:=hc k hlt;obtain ⟨x,hx⟩: ∃x,x=l[k]'hlt:=⟨_,rfl⟩;rw[<-hx] at hcell;have hxl:x.length<=9223372036854775807:=by rw[hx]; exact HX.out _ (List.getElem_mem _)
    have HE:=Y1 hx;have hkey:keyOf Tryd.prog 9 (.string ⟨x.toArray⟩)=some (.string x):=keyOf_string_mk Tryd.underlying9 (by rw[Z0Y]; unfold maxLen; exact hxl);clear hx hc;have HHAS:=Y1 (ZaS l k x);have HOWN:=Y1 hown;have HBB:=Y1 hb;clear hb;cases hin: (l.take k).contains x with
    | true=>
     have HF:Hid (areNames l=false):=Y1 (by
      have hm:=List.contains_iff_mem.1 hin;obtain ⟨m,hm,he⟩:=List.getElem_of_mem hm;rw[List.length_take] at hm;rw[List.getElem_take] at he;exact Z33 (k:=m) hlt (by omega) (by rw[he,HE.out]))
     have hhas:=HHAS.out;rw[hin] at hhas;clear hin
     go_wp2_with (first
      | (at_lookup; refine wpList_lookup_own_unit _ rfl _ _ 82 rfl 9 83 Z1h Tryd.underlying82 (Z3Z _) w.heap.size k _ rfl hown _ _ rfl hkey ?_)
      | fail)
     go_ret;exact ⟨by rw[HF.out]; rfl,HBB.out.alloc HBB.out.size _⟩
    | false=>
     have HNU:Hid (∀m (hm:m < k),l[m]'(by omega)≠l[k]'hlt):=Y1 (fun m hm he=>by
      rw[<-HE.out] at he;have:x∈l.take k:=by
       rw[<-he];have:=List.getElem_mem (l:=l.take k) (n:=m) (by rw[List.length_take]; omega)
       rwa [List.getElem_take] at this
      rw[List.contains_iff_mem.2 this] at hin;cases hin)
     have hhas:=HHAS.out;rw[hin] at hhas;clear hin;cases hn:Lex.isName x with
     | false=>
      have HF:Hid (areNames l=false):=Y1 (Z3Q hlt (by rw[<-HE.out]; exact hn));have hw:=fun W=>Z2m x hxl W;simp only[hn] at hw;clear hn
      go_wp2_with (first
       | (at_lookup; refine wpList_lookup_own_unit _ rfl _ _ 82 rfl 9 83 Z1h Tryd.underlying82 (Z3Z _) w.heap.size k _ rfl hown _ _ rfl hkey ?_)
       | (go_at_call 60; refine (hw _).mono ?_; rintro e w' ⟨rfl,rfl⟩))
      go_ret;exact ⟨by rw[HF.out]; rfl,HBB.out.alloc HBB.out.size _⟩
     | true=>
      have HNA:Hid (Lex.isName (l[k]'hlt)=true):=Y1 (by rw[<-HE.out]; exact hn);have hw:=fun W=>Z2m x hxl W;simp only[hn] at hw;clear hn
      go_wp2_with (first
       | (at_lookup; refine wpList_lookup_own_unit _ rfl _ _ 82 rfl 9 83 Z1h Tryd.underlying82 (Z3Z _) w.heap.size k _ rfl hown _ _ rfl hkey ?_)
       | (go_at_call 60; refine (hw _).mono ?_; rintro e w' ⟨rfl,rfl⟩)
       | (at_mapUpdate; refine wpList_mapUpdate_own _ rfl _ _ _ 82 rfl 9 83 Z1h Tryd.underlying82 (unitElem (H:=Unit)) w.heap.size k _ rfl (hown.alloc _) (by unfold maxLen; omega) _ _ _ rfl rfl hkey _ [] unitElem_mk ?_; intro w1 hown1 hgrow1))
      go_roundw
      case rel=>
       refine ⟨k+1,by omega,by go_num, ?_, ?_,Y1 (fun j hj hji=>by
        rcases Nat.lt_succ_iff_lt_or_eq.1 hji with h | rfl
        {exact HN.out j hj h}
        · exact ⟨HNA.out,HNU.out⟩)⟩
       {rw[Z9Y l k hlt, <-HE.out]; exact hown1}
       {exact (HBB.out.alloc HBB.out.size _).grown hgrow1 (by have:=HBB.out.size; simp; omega) (fun j hj=>by cases hj; exact Nat.le_refl _)}
      case measure=>simp[intOf]; omega}}
  {have hi1: ¬(k:Int) < (l.length:Int):=by omega
   have HM:Hid (areNames l=true):=Y1 (Z4d (fun j hj=>(HN.out j hj (by omega)).1) (fun j hj=>(HN.out j hj (by omega)).2));go_wp2;go_ret;exact ⟨by rw[HM.out]; rfl,hb⟩}
end
end Go.Proofs.YtlomianlcnmfgaaDoor
namespace Go.Proofs.YtlomianlcnmfgaaDoor
open Go.RowKit Go.Maps Go.WideMaps Shp
namespace SubM
abbrev Ky:=List UInt8
def Fine (k:Ky):Prop:=k.length<=9223372036854775807
def KL (k:Ky):Lit:= .string k
theorem Z2n {k:Ky} (h:Fine k):keyOf Tryd.prog 9 (.string ⟨k.toArray⟩)=some (KL k):=keyOf_string_mk Tryd.underlying9 (by rw[Z0Y]; unfold maxLen; exact h)
theorem Z4W {k k':Ky} (h:Fine k) (h':Fine k') (e:KL k=KL k'):k=k':=by cases e; rfl
theorem Z9Z (k:Ky):WideAt.IsKeyLit (KL k):=trivial
def slEl:Value->Option (DataW Unit×List MemPlace)
 | .pointer none=>some (.agg [],[])
 | .pointer (some ⟨g,o,none⟩)=>some (.agg [.lit (.int .i64 (g:Int)),.lit (.int .i64 (o:Int))],[])
 | _=>none
theorem Z6o {v v':Value} {d:DataW Unit} {p p':List MemPlace} (h:slEl v=some (d,p)) (h':slEl v'=some (d,p')):v=v':=by
 unfold slEl at h h';split at h <;> split at h' <;> simp only[Option.some.injEq,Prod.mk.injEq,reduceCtorEq] at h h'
 {rfl}
 {obtain ⟨rfl,_⟩:=h;simp at h'}
 {obtain ⟨rfl,_⟩:=h;simp at h'}
 {obtain ⟨rfl,_⟩:=h;simp at h';obtain ⟨⟨h1,h2⟩,_⟩:=h';have e1:_=_:=Int.ofNat_inj.1 h1;have e2:_=_:=Int.ofNat_inj.1 h2;rw[e1,e2]}
theorem Z7W (w:World): (zeroValue 42).run Tryd.prog w= .ok (.pointer none) w:=by kernel_rfl
def Mp (W:World) (b N:Nat) (S:List Ky) (m:Ky->Value):Prop:=
 ∃D:DataW Unit,W.ownsMap Tryd.prog 9 slEl b N D/\Maps.size D=S.length/\S.Nodup/\(∀k∈S,Fine k)/\(∀k,Fine k->(Maps.has D (KL k)=true ↔ k∈S))/\
  ∀k,Fine k-> ∃p,slEl (if k∈S then m k else .pointer none)=some (D.atKey (KL k) (.agg []),p)
theorem Mp.made (W:World) (m:Ky->Value):Mp (W.alloc (.map #[] 0)) W.heap.size 0 [] m:=by
 refine ⟨.map [],World.ownsMap_made _ _ _ _,rfl,List.nodup_nil,nofun,fun k _=>⟨fun h=>by simp[Maps.has] at h,nofun⟩,fun k _=>⟨[], ?_⟩⟩;rw[if_neg (by simp)];rfl
theorem Mp.lt {W:World} {b N:Nat} {S:List Ky} {m:Ky->Value} (h:Mp W b N S m):b < W.heap.size:=by obtain ⟨_,h,_⟩:=h; exact h.lt
theorem Mp.kept {W W':World} {b N:Nat} {S:List Ky} {m:Ky->Value} (h:Mp W b N S m) {row:Option Nat} (hg:W.grownBy W' row) (hne:some b≠row):Mp W' b N S m:=by
 obtain ⟨D,h1,h2⟩:=h; exact ⟨D,h1.kept hg hne,h2⟩
theorem Mp.same {W W':World} {b N:Nat} {S:List Ky} {m:Ky->Value} (h:Mp W b N S m) (hb:W'.heap[b]? =W.heap[b]?):Mp W' b N S m:=by
 obtain ⟨D,⟨es,clock,h0,h1⟩,h2⟩:=h; exact ⟨D,⟨es,clock,hb.trans h0,h1⟩,h2⟩
section
variable {W : World} {b N : Nat} {S : List Ky}
include W b N S
theorem Mp.like {m m':Ky->Value} (h:Mp W b N S m) (hm: ∀k∈S,m' k=m k):Mp W b N S m':=by
 obtain ⟨D,h1,h2,h3,h4,h5,h6⟩:=h;refine ⟨D,h1,h2,h3,h4,h5,fun k hk=> ?_⟩;obtain ⟨p,hp⟩:=h6 k hk;refine ⟨p, ?_⟩;rw[<-hp];by_cases e:k∈S
 {rw[if_pos e,if_pos e,hm k e]}
 {rw[if_neg e,if_neg e]}
theorem Mp.look {m:Ky->Value} (h:Mp W b N S m) {k:Ky} (hk:Fine k):
 (Instr.lookup 62 (.map (some b)) ((.string ⟨k.toArray⟩)) false).run Tryd.prog W= .ok (if k∈S then m k else .pointer none) W:=by
 obtain ⟨D,h1,_,_,_,_,h6⟩:=h;obtain ⟨v,ps,hr,hv⟩:=h1.lookup Z1h Tryd.underlying62 (Z7W W) (zd:= .agg []) (zp:= []) rfl (Z2n hk);obtain ⟨p,hp⟩:=h6 k hk;rw[hr,Z6o hv hp]
end
theorem Mp.len {W:World} {b N:Nat} {S:List Ky} {m:Ky->Value} (h:Mp W b N S m) (ty:TypeId):
 (Builtin.len_ #[62] ty #[.map (some b)]).run Tryd.prog W= .ok (.int .i64 S.length) W:=by
 obtain ⟨D,h1,h2,_⟩:=h;rw[h1.len Tryd.underlying62 ty,h2]
theorem Mp.put {W:World} {b N:Nat} {S:List Ky} {m:Ky->Value} (h:Mp W b N S m) {k:Ky} (hk:Fine k) (hN:N < maxLen) {v:Value} {z:DataW Unit×List MemPlace} (hv:slEl v=some z):
 ∃W',(Instr.mapUpdate 62 (.map (some b)) ((.string ⟨k.toArray⟩)) v).run Tryd.prog W= .ok () W'/\Mp W' b (N+1) (if k∈S then S else k::S) (fun x=>if x=k then v else m x)/\W.mapTurned W' b:=by
 obtain ⟨D,h1,h2,h3,h4,h5,h6⟩:=h;obtain ⟨W',hr,ho,hg⟩:=h1.store Z1h Tryd.underlying62 hN (Z2n hk) (ps:=z.2) (d:=z.1) (by rw[hv]);have hT:=h1.tidy Z1h;have hsz:=Maps.size_put (k:=KL k) hT z.1;have hmem: ∀x,x∈(if k∈S then S else k::S) ↔ x=k\/x∈S:=fun x=>by
  by_cases e:k∈S
  {rw[if_pos e]; exact ⟨Or.inr,fun h=>h.elim (fun h=>h▸e) id⟩}
  {rw[if_neg e]; exact List.mem_cons}
 refine ⟨W',hr,⟨D.put (KL k) z.1,ho, ?_, ?_, ?_, ?_, ?_⟩,hg⟩
 {rw[hsz,h2];by_cases e:k∈S
  {rw[if_pos ((h5 k hk).2 e),if_pos e]}
  {rw[if_neg (fun h=>e ((h5 k hk).1 h)),if_neg e]; rfl}}
 {by_cases e:k∈S
  {rw[if_pos e]; exact h3}
  {rw[if_neg e]; exact List.nodup_cons.2 ⟨e,h3⟩}}
 {intro x hx;rcases (hmem x).1 hx with rfl | hx
  {exact hk}
  {exact h4 x hx}}
 {intro x hx;rw[hmem];by_cases e:x=k
  {subst e;exact ⟨fun _=>Or.inl rfl,fun _=>Maps.has_put_same h1.isMap (Z9Z _) _⟩}
  {rw[Maps.has_put_other (fun h=>e (Z4W hx hk h)),h5 x hx];exact ⟨Or.inr,fun h=>h.resolve_left e⟩}}
 {intro x hx;by_cases e:x=k
  {subst e;refine ⟨z.2, ?_⟩;rw[if_pos ((hmem _).2 (Or.inl rfl))];simp only[if_true];rw[Maps.atKey_put_same h1.isMap (Z9Z _),hv]}
  {obtain ⟨p,hp⟩:=h6 x hx;refine ⟨p, ?_⟩;rw[Maps.atKey_put_other (fun h=>e (Z4W hx hk h)), <-hp];by_cases e2:x∈S
   {rw[if_pos ((hmem x).2 (Or.inr e2)),if_pos e2]; simp only[if_neg e]}
   {rw[if_neg (fun h=>e2 (((hmem x).1 h).resolve_left e)),if_neg e2]}}}
theorem Mp.del {W:World} {b N:Nat} {S:List Ky} {m:Ky->Value} (h:Mp W b N S m) {k:Ky} (hk:Fine k) (ty:TypeId):
 ∃W',(Builtin.delete_ #[62,9] ty #[.map (some b),(.string ⟨k.toArray⟩)]).run Tryd.prog W= .ok (.tuple #[]) W'/\Mp W' b N (S.filter (· ≠k)) m/\W.mapTurned W' b:=by
 obtain ⟨D,h1,h2,h3,h4,h5,h6⟩:=h;obtain ⟨W',hr,ho,hg⟩:=h1.drop Z1h Tryd.underlying62 (Z2n hk) ty;have hT:=h1.tidy Z1h;have hsz:=Maps.size_del (k:=KL k) hT;have hmem: ∀x,x∈S.filter (· ≠k) ↔ x∈S/\x≠k:=fun x=>by simp[List.mem_filter]
 have hlen: (S.filter (· ≠k)).length+(if k∈S then 1 else 0)=S.length:=by
  clear h2 h4 h5 h6 hsz hmem;induction S with
  | nil=>rfl
  | cons a S ih=>
   rw[List.nodup_cons] at h3;have:=ih h3.2;by_cases e:a=k
   {subst e;have hf:S.filter (· ≠a)=S:=List.filter_eq_self.2 (fun x hx=>by simp; rintro rfl; exact h3.1 hx)
    rw[List.filter_cons_of_neg (by simp),hf,if_pos (by simp)]; rfl}
   {rw[List.filter_cons_of_pos (by simp[e]),List.length_cons,List.length_cons];have: (k∈a::S) ↔ k∈S:=by simp[Ne.symm e]
    by_cases e2:k∈S
    {rw[if_pos (this.2 e2)]; rw[if_pos e2] at *; omega}
    {rw[if_neg (fun h=>e2 (this.1 h))]; rw[if_neg e2] at *; omega}}
 refine ⟨W',hr,⟨D.del (KL k),ho, ?_, ?_, ?_, ?_, ?_⟩,hg⟩
 {rw[h2] at hsz;by_cases e:k∈S
  {rw[if_pos ((h5 k hk).2 e)] at hsz; rw[if_pos e] at hlen; omega}
  {rw[if_neg (fun h=>e ((h5 k hk).1 h))] at hsz; rw[if_neg e] at hlen; omega}}
 {exact h3.filter _}
 {exact fun x hx=>h4 x ((hmem x).1 hx).1}
 {intro x hx;rw[hmem];by_cases e:x=k
  {subst e;rw[Maps.has_del_same];exact ⟨nofun,fun h=>absurd rfl h.2⟩}
  {rw[Maps.has_del_other (fun h=>e (Z4W hx hk h)),h5 x hx];exact ⟨fun h=>⟨h,e⟩,fun h=>h.1⟩}}
 {intro x hx;by_cases e:x=k
  {subst e;refine ⟨[], ?_⟩;rw[if_neg (fun h=>((hmem _).1 h).2 rfl),Maps.atKey_del_same]; rfl}
  {obtain ⟨p,hp⟩:=h6 x hx;refine ⟨p, ?_⟩;rw[Maps.atKey_del_other (fun h=>e (Z4W hx hk h)), <-hp];by_cases e2:x∈S
   {rw[if_pos ((hmem x).2 ⟨e2,e⟩),if_pos e2]}
   {rw[if_neg (fun h=>e2 ((hmem x).1 h).1),if_neg e2]}}}
theorem Mp.look2 {W:World} {b N:Nat} {S:List Ky} {m:Ky->Value} (h:Mp W b N S m) {k:Ky} (hk:Fine k):
 (Instr.lookup 62 (.map (some b)) (.string ⟨k.toArray⟩) true).run Tryd.prog W= .ok (.tuple #[if k∈S then m k else .pointer none,.bool (decide (k∈S))]) W:=by
 obtain ⟨D,h1,_,_,_,h5,h6⟩:=h;obtain ⟨v,ps,hr,hv⟩:=h1.look_ok Z1h Tryd.underlying62 (Z7W W) (zd:= .agg []) (zp:= []) rfl (Z2n hk);obtain ⟨p,hp⟩:=h6 k hk;rw[hr,Z6o hv hp];have:Maps.has D (KL k)=decide (k∈S):=by rw[Bool.eq_iff_iff,h5 k hk,decide_eq_true_eq]
 rw[this]
end SubM
end Go.Proofs.YtlomianlcnmfgaaDoor
namespace Go.Proofs.YtlomianlcnmfgaaDoor
open Go.RowKit Shp
namespace SubM
abbrev sv (s:Sh) (q:Ptr):Value:= .agg (Y8 s q)
structure Upd (S:Nat->Prop) (a b:World):Prop where
 os:b.os=a.os
 tape:b.tape=a.tape
 output:b.output=a.output
 size:a.heap.size<=b.heap.size
 block: ∀x,x < a.heap.size-> ¬S x->b.heap[x]? =a.heap[x]?
section
variable {S T : Nat -> Prop} {a b c : World} {B n0 : Nat}
theorem Upd.refl (S:Nat->Prop) (a:World):Upd S a a:=⟨rfl,rfl,rfl,Nat.le_refl _,fun _ _ _=>rfl⟩
theorem Upd.trans (h:Upd S a b) (k:Upd S b c):Upd S a c:=
 ⟨k.os.trans h.os,k.tape.trans h.tape,k.output.trans h.output,Nat.le_trans h.size k.size,fun x h1 h2=>(k.block x (Nat.lt_of_lt_of_le h1 h.size) h2).trans (h.block x h1 h2)⟩
theorem Upd.mono (h:Upd S a b) (hs: ∀x,x < a.heap.size->S x->T x):Upd T a b:=⟨h.os,h.tape,h.output,h.size,fun x h1 h2=>h.block x h1 (fun hx=>h2 (hs x h1 hx))⟩
theorem Upd.of_below (h:Below B a b) (hB: ∀x,x < a.heap.size->B<=x->S x):Upd S a b:=
 ⟨h.os,h.tape,h.output,h.size,fun x h1 h2=>h.block x (Nat.lt_of_not_le (fun hx=>h2 (hB x h1 hx)))⟩
theorem Upd.new (h:Below a.heap.size a b):Upd S a b:=Upd.of_below h (fun x h1 h2=>absurd h1 (by omega))
theorem Upd.below (h:Upd S a b) (hB:B<=a.heap.size) (hS: ∀x,S x->B<=x):Below B a b:=⟨h.os,h.tape,h.output,h.size,fun x h1=>h.block x (by omega) (fun hx=>by have:=hS x hx; omega)⟩
theorem Upd.drew (h:Upd S a b):Upd S a b.drew:=⟨h.os,h.tape,h.output,h.size,h.block⟩
theorem Upd.grown (h:Upd S a b) {row:Option Nat} (hg:b.grownBy c row) (hr: ∀k,row=some k->k < a.heap.size->S k):Upd S a c:=
 ⟨hg.os.trans h.os,hg.tape.trans h.tape,hg.output.trans h.output,Nat.le_trans h.size hg.size,fun x h1 h2=>(hg.block x (Nat.lt_of_lt_of_le h1 h.size) (fun e=>h2 (hr x e.symm h1))).trans (h.block x h1 h2)⟩
theorem Upd.set (h:Upd S a b) (p:Addr) (hp:p.block < a.heap.size->S p.block) (v:Value):Upd S a (b.setCell p v):=
 ⟨h.os,h.tape,h.output,by simpa[World.setCell] using h.size,fun x h1 h2=>(Below.heap_setCell _ _ _ _ (fun e=>h2 (by
  have e':x=p.block:=by first | exact e | exact e.symm
  rw[e']; exact hp (e'▸h1)))).trans (h.block x h1 h2)⟩
theorem Upd.cell (h:Upd S a b) {g k:Nat} (hg:g < a.heap.size) (hS: ¬S g):b.cell? ⟨g,k,none⟩=a.cell? ⟨g,k,none⟩:=World.cell?_of_block (w:=a) (h.block g hg hS)
theorem Upd.frozen (h:Upd S a b) {g k:Nat} (hg:g < a.heap.size) (hS: ¬S g):b.frozen? ⟨g,k,none⟩=a.frozen? ⟨g,k,none⟩:=World.frozen?_of_block (w:=a) (h.block g hg hS)
theorem Z1n {g:Nat} {t:Sh} {q:Ptr} (h:Box5 a g t q) (hu:Upd S a b) (hS: ¬S g):Box5 b g t q:=by
 obtain ⟨h0,h1,f0,f1,f2,f3,f4⟩:=h;exact ⟨Nat.lt_of_lt_of_le h0 hu.size,h1.of (fun k=>hu.cell h0 hS),(hu.frozen h0 hS).trans f0,(hu.frozen h0 hS).trans f1,(hu.frozen h0 hS).trans f2,(hu.frozen h0 hS).trans f3,(hu.frozen h0 hS).trans f4⟩
theorem Z0s {t:Sh} {q:Ptr} (h:ShAt a n0 q t) (hn:n0<=a.heap.size) (hu:Upd S a b) (hS: ∀x,x < n0-> ¬S x):ShAt b n0 q t:=
 h.of (Nat.le_refl _) (fun g k hg=>hu.cell (by omega) (hS g hg))
theorem ZbA {g N:Nat} {K:List Ky} {m:Ky->Value} (h:Mp a g N K m) (hu:Upd S a b) (hS: ¬S g):Mp b g N K m:=h.same (hu.block g h.lt hS)
end
def At (W:World) (n0:Nat) (o:Option Sh) (v:Value):Prop:=
 match o with
 | none=>v= .pointer none
 | some p=> ∃g off q,v= .pointer (some ⟨g,off,none⟩)/\g < n0/\Sh5 W g off p q/\ShAt W n0 q p
theorem At.upd {a b:World} {S:Nat->Prop} {n0:Nat} {o:Option Sh} {v:Value} (h:At a n0 o v) (hn:n0<=a.heap.size) (hu:Upd S a b) (hS: ∀x,x < n0-> ¬S x):At b n0 o v:=by
 cases o with
 | none=>exact h
 | some p=>
  obtain ⟨g,off,q,h1,h2,h3,h4⟩:=h;exact ⟨g,off,q,h1,h2,h3.of (fun k=>hu.cell (by omega) (hS g h2)),Z0s h4 hn hu hS⟩
end SubM
end Go.Proofs.YtlomianlcnmfgaaDoor
namespace Go.Proofs.YtlomianlcnmfgaaDoor
open Go.RowKit Shp Sub
namespace SubM
structure Takes (n0 N:Nat) (a b:Sh) (fn:Nat) (cs:List Value) (step:Cl->Bool) (K:Bool->List Cl->World->Prop):Prop where
 keep: ∀ok done W W',K ok done W->Upd (fun x=>N<=x/\x < N+3) W W'->K ok done W'
 call: ∀done c rest W (x y:Value),calls a b=done++c::rest->N+3<=W.heap.size->K true done W->At W n0 c.2.1 x->At W n0 c.2.2 y->
  Calls Tryd.prog fn (.string ⟨c.1.toArray⟩::x::y::cs).toArray W fun e W'=>e= .returned (.bool (step c))/\K (step c) (done++ [c]) W'/\Upd (fun x=>n0<=x/\ ¬(N<=x/\x < N+3)) W W'
def numOf:List (List UInt8)->List UInt8->Nat
 | [],_=>0
 | x::l,n=>if x=n then 0 else numOf l n+1
theorem Z6p: ∀ {ns:List (List UInt8)} (hd:ns.Nodup) {k:Nat} (hk:k < ns.length),numOf ns (ns[k]'hk)=k
 | x::l,hd,0,hk=>by simp[numOf]
 | x::l,hd,k+1,hk=>by
  rw[List.nodup_cons] at hd;unfold numOf;rw[if_neg,List.getElem_cons_succ,Z6p hd.2];rw[List.getElem_cons_succ];exact fun e=>hd.1 (by rw[e]; exact List.getElem_mem _)
def place (g off:Nat) (ns:List (List UInt8)) (n:List UInt8):Value:= .pointer (some ⟨g,off+numOf ns n * 5,none⟩)
theorem Z4w {g off:Nat} {ns:List (List UInt8)} (hd:ns.Nodup) {k:Nat} (hk:k < ns.length):place g off ns (ns[k]'hk)= .pointer (some ⟨g,off+k * 5,none⟩):=by
 unfold place;rw[Z6p hd]
def Parts (W:World) (n0:Nat) (t:Sh) (q:Ptr) (g off:Nat) (qs:Nat->Ptr):Prop:=
 t.parts.length=0\/(q.P=some ⟨g,off,none⟩/\g < n0/\ ∀i (h:i < t.parts.length),Sh5 W g (off+i * 5) (t.parts[i]'h) (qs i)/\ShAt W n0 (qs i) (t.parts[i]'h))
theorem Z3u {W:World} {n0:Nat} {t:Sh} {q:Ptr} (h:ShAt W n0 q t): ∃g off qs,Parts W n0 t q g off qs:=by
 rcases h.part with h | ⟨g,off,qs,hP,hg,h5,hr⟩
 {exact ⟨0,0,fun _=>q,Or.inl h⟩}
 {exact ⟨g,off,qs,Or.inr ⟨hP,hg,fun i hi=>⟨h5 i hi,hr i hi⟩⟩⟩}
theorem Parts.upd {a b:World} {S:Nat->Prop} {n0:Nat} {t:Sh} {q:Ptr} {g off:Nat} {qs:Nat->Ptr} (h:Parts a n0 t q g off qs) (hn:n0<=a.heap.size) (hu:Upd S a b) (hS: ∀x,x < n0-> ¬S x):Parts b n0 t q g off qs:=by
 rcases h with h | ⟨hP,hg,hc⟩
 {exact Or.inl h}
 {exact Or.inr ⟨hP,hg,fun i hi=>⟨(hc i hi).1.of (fun k=>hu.cell (by omega) (hS g hg)),Z0s (hc i hi).2 hn hu hS⟩⟩}
theorem Z4x {W:World} {n0:Nat} {t:Sh} {q:Ptr} (h:ShAt W n0 q t) {k:Nat} (hk:k < t.names.length):
 ∃g off,q.A=some ⟨g,off,none⟩/\g < n0/\W.cell? ⟨g,off+k,none⟩=some (.string ⟨(t.names[k]'hk).toArray⟩):=by
 rcases h.strs.cell7 with h0 | ⟨g,off,hA,hg,hc⟩
 {omega}
 {exact ⟨g,off,hA,hg,hc k hk⟩}
structure L1 (N:Nat) (a b:Sh) (pa pb:Ptr) (g off:Nat) (w:World) (k:Nat) (W:World):Prop where
 ba:Box5 W N a pa
 bb:Box5 W (N+1) b pb
 mp: ∃S,Mp W (N+2) k S (place g off b.names)/\ ∀n,n∈S ↔ n∈b.names.take k
 up:Upd (fun x=>N<=x/\x < N+3) w W
theorem L1.put {N:Nat} {a b:Sh} {pa pb:Ptr} {g off:Nat} {w:World} {k:Nat} {W:World} (h:L1 N a b pa pb g off w k W) (hd:b.names.Nodup) (hlt:k < b.names.length) (hk:k<=1000) (hf:Fine (b.names[k]'hlt)):
 ∃W',(Instr.mapUpdate 62 (.map (some (N+2))) (.string ⟨(b.names[k]'hlt).toArray⟩) (.pointer (some ⟨g,off+k * 5,none⟩))).run Tryd.prog W= .ok () W'/\L1 N a b pa pb g off w (k+1) W':=by
 obtain ⟨hB1,hB2,⟨S,hM,hS⟩,hU⟩:=h;have hpl:=Z4w (g:=g) (off:=off) hd hlt;obtain ⟨W',hr,hM',ht⟩:=hM.put hf (by unfold maxLen; omega) (v:= .pointer (some ⟨g,off+k * 5,none⟩)) (z:=_) rfl;have hu2:Upd (fun x=>x=N+2) W W':=(Upd.refl _ W).grown ht.grown (fun k h _=>by cases h; rfl);refine ⟨W',hr,Z1n hB1 hu2 (by omega),Z1n hB2 hu2 (by omega),⟨_,hM'.like (fun x _=> ?_),fun n=> ?_⟩,hU.trans (hu2.mono (fun x _ h=>by omega))⟩
 {by_cases e:x=b.names[k]'hlt
  {rw[if_pos e,e,hpl]}
  {rw[if_neg e]}}
 {rw[List.take_succ_eq_append_getElem hlt,List.mem_append,List.mem_singleton];by_cases e:b.names[k]'hlt∈S
  {rw[if_pos e,hS];refine ⟨Or.inl,fun h=>h.elim id (fun h=>by rw[h]; exact (hS _).1 e)⟩}
  {rw[if_neg e,List.mem_cons,hS];exact ⟨fun h=>h.symm,fun h=>h.symm⟩}}
section
variable {a b : Sh} (A : Rec a)
include a b A
theorem Z2o: (callsA a b).length=a.names.length:=by unfold callsA; rw[List.length_map,List.length_zip,A.l,Nat.min_self]
theorem Za0 {k:Nat} (h:k < a.names.length) (h2:k < a.parts.length): (callsA a b)[k]'(by rw[Z2o A]; exact h)=(a.names[k]'h,some (a.parts[k]'h2),get b (a.names[k]'h)):=by
 unfold callsA; simp
theorem Za1 {k:Nat} (h:k < a.names.length) (h2:k < a.parts.length): ∃rest,calls a b=(callsA a b).take k++(a.names[k]'h,some (a.parts[k]'h2),get b (a.names[k]'h))::rest/\(callsA a b).take k++ [(a.names[k]'h,some (a.parts[k]'h2),get b (a.names[k]'h))]=(callsA a b).take (k+1):=by
 have hl:k < (callsA a b).length:=by rw[Z2o A]; exact h
 have e: (callsA a b).take (k+1)=(callsA a b).take k++ [(a.names[k]'h,some (a.parts[k]'h2),get b (a.names[k]'h))]:=by rw[List.take_succ_eq_append_getElem hl,Za0 A h h2]
 refine ⟨(callsA a b).drop (k+1)++callsB a b, ?_,e.symm⟩;unfold calls;rw[show (callsA a b).take k++(a.names[k]'h,some (a.parts[k]'h2),get b (a.names[k]'h))::((callsA a b).drop (k+1)++callsB a b)=((callsA a b).take k++ [(a.names[k]'h,some (a.parts[k]'h2),get b (a.names[k]'h))])++((callsA a b).drop (k+1)++callsB a b) from by simp, <-e, <-List.append_assoc,List.take_append_drop]
end
structure L2 (n0 N:Nat) (a b:Sh) (pa pb:Ptr) (g off:Nat) (w:World) (K:Bool->List Cl->World->Prop) (gone:List (List UInt8)) (done:List Cl) (W:World):Prop where
 ba:Box5 W N a pa
 bb:Box5 W (N+1) b pb
 mp: ∃S,Mp W (N+2) b.names.length S (place g off b.names)/\ ∀n,n∈S ↔ n∈b.names/\n∉gone
 up:Upd (fun x=>n0<=x) w W
 sz:N+3<=W.heap.size
 k:K true done W
section
variable {n0 : Nat} {a b : Sh} {pa pb : Ptr} {g off : Nat} {w : World} {K : Bool -> List Cl -> World -> Prop} {gone : List (List UInt8)} {done : List Cl} {W W' : World} {fn : Nat} {cs : List Value} {step : Cl -> Bool}
theorem L2.upd (h:L2 n0 w.heap.size a b pa pb g off w K gone done W) (hn:n0<=w.heap.size) (hu:Upd (fun x=>n0<=x/\ ¬(w.heap.size<=x/\x < w.heap.size+3)) W W') {done':List Cl} (hk:K true done' W'):L2 n0 w.heap.size a b pa pb g off w K gone done' W':=by
 obtain ⟨S,hM,hS⟩:=h.mp;exact ⟨Z1n h.ba hu (by omega),Z1n h.bb hu (by omega),⟨S,ZbA hM hu (by omega),hS⟩,h.up.trans (hu.mono (fun x _ hx=>hx.1)),Nat.le_trans h.sz hu.size,hk⟩
theorem L2.drew (h:L2 n0 w.heap.size a b pa pb g off w K gone done W) (hT:Takes n0 w.heap.size a b fn cs step K) (hn:n0<=w.heap.size):L2 n0 w.heap.size a b pa pb g off w K gone done W.drew:=
 h.upd hn (Upd.refl _ W).drew (hT.keep _ _ _ _ h.k (Upd.refl _ W).drew)
theorem L2.del (h:L2 n0 w.heap.size a b pa pb g off w K gone done W) (hT:Takes n0 w.heap.size a b fn cs step K) (hn:n0<=w.heap.size) {n:List UInt8} (hf:Fine n) (ty:TypeId):
 ∃W',(Builtin.delete_ #[62,9] ty #[.map (some (w.heap.size+2)),(.string ⟨n.toArray⟩)]).run Tryd.prog W= .ok (.tuple #[]) W'/\L2 n0 w.heap.size a b pa pb g off w K (gone++ [n]) done W':=by
 obtain ⟨S,hM,hS⟩:=h.mp;obtain ⟨W',hr,hM',ht⟩:=hM.del hf ty;have hu:Upd (fun x=>x=w.heap.size+2) W W':=(Upd.refl _ W).grown ht.grown (fun k h _=>by cases h; rfl);refine ⟨W',hr,Z1n h.ba hu (by omega),Z1n h.bb hu (by omega),⟨_,hM',fun x=> ?_⟩,h.up.trans (hu.mono (fun x _ hx=>by omega)),Nat.le_trans h.sz hu.size,hT.keep _ _ _ _ h.k (hu.mono (fun x _ hx=>by omega))⟩;rw[List.mem_filter,hS,List.mem_append,List.mem_singleton];simp;exact ⟨fun ⟨⟨h1,h2⟩,h3⟩=>⟨h1,h2,h3⟩,fun ⟨h1,h2,h3⟩=>⟨⟨h1,h2⟩,h3⟩⟩
end
def callsBk (a b:Sh) (i:Nat):List Cl:=(((b.names.zip b.parts).take i).filter (fun x=>(get a x.1).isNone)).map (fun x=>(x.1,none,some x.2))
theorem Z4k (a b:Sh) (B:Rec b):callsBk a b b.names.length=callsB a b:=by
 unfold callsBk callsB;rw[List.take_of_length_le (by rw[List.length_zip]; omega)]
theorem Z6q {b:Sh} {i:Nat} (h:i < b.names.length) (h2:i < b.parts.length): (b.names.zip b.parts).take (i+1)=(b.names.zip b.parts).take i++ [(b.names[i]'h,b.parts[i]'h2)]:=by
 rw[List.take_succ_eq_append_getElem (by rw[List.length_zip]; omega),List.getElem_zip]
section
variable {a b : Sh} {i : Nat} (h : i < b.names.length) (h2 : i < b.parts.length)
include a b i h h2
theorem Z7m (hn: (get a (b.names[i]'h)).isNone=false):callsBk a b (i+1)=callsBk a b i:=by
 unfold callsBk;rw[Z6q h h2,List.filter_append];simp[hn]
theorem Z7n (hn: (get a (b.names[i]'h)).isNone=true):callsBk a b (i+1)=callsBk a b i++ [(b.names[i]'h,none,some (b.parts[i]'h2))]:=by
 unfold callsBk;rw[Z6q h h2,List.filter_append,List.map_append];simp[hn]
end
theorem Z8Q (a b:Sh) (B:Rec b) (i:Nat): ∃rest,calls a b=callsA a b++callsBk a b i++rest:=by
 refine ⟨(((b.names.zip b.parts).drop i).filter (fun x=>(get a x.1).isNone)).map (fun x=>(x.1,none,some x.2)), ?_⟩;unfold calls callsB callsBk;rw[List.append_assoc, <-List.map_append, <-List.filter_append,List.take_append_drop]
theorem Zbh {W:World} {n0 g off:Nat} {b:Sh} {pb:Ptr} {qs:Nat->Ptr} (B:Rec b) (hP:Parts W n0 b pb g off qs) {n:List UInt8} {x:Bool} (hx:x=true ↔ n∈b.names):At W n0 (get b n) (if x=true then place g off b.names n else .pointer none):=by
 by_cases e:n∈b.names
 {obtain ⟨i,hi,rfl⟩:=List.getElem_of_mem e;have hi2:i < b.parts.length:=by rw[<-B.l]; exact hi
  rw[if_pos (hx.2 e),Z4w B.nodup hi];have hg:get b (b.names[i]'hi)=some (b.parts[i]'hi2):=Z5a B.nodup hi hi2;rw[hg];rcases hP with h | ⟨_,hlt,hc⟩
  {omega}
  {exact ⟨g,off+i * 5,qs i,rfl,hlt,(hc i hi2).1,(hc i hi2).2⟩}}
 {rw[if_neg (fun h=>e (hx.1 h)),B.get_none.2 e];rfl}
theorem Z1z (a b:Sh) (pa pb:Ptr) (n0:Nat) (w:World) (A:Rec a) (B:Rec b) (ha:ShAt w n0 pa a) (hb:ShAt w n0 pb b) (hn:n0<=w.heap.size) (la:a.names.length<=1000) (lb:b.names.length<=1000)
 (fn:Nat) (hen: ∀args W,(callFunc fn args).run Tryd.prog W= .ok (.enter fn args) W) (cs:List Value) (step:Cl->Bool) (K:Bool->List Cl->World->Prop)
 (hT:Takes n0 w.heap.size a b fn cs step K) (h0:K true [] w):
 Calls Tryd.prog 33 #[sv a pa,sv b pb,.func (.func fn) #[] cs.toArray] w fun e w'=>e= .returned (.bool ((calls a b).all step))/\
  (∃D,K ((calls a b).all step) D w'/\((calls a b).all step=true->D=calls a b))/\Upd (fun x=>n0<=x) w w':=by
 obtain ⟨Aa,ca,Pa,da⟩:=pa;obtain ⟨Ab,cb,Pb,db⟩:=pb;have hb1:=Z02 w (.cells #[.int .i64 a.kind,.string ⟨a.of_.toArray⟩,.string ⟨a.name.toArray⟩,.slice Aa a.names.length ca,.slice Pa a.parts.length da] 25);obtain ⟨w1,hw1⟩: ∃w1,w1=w.alloc (.cells #[.int .i64 a.kind,.string ⟨a.of_.toArray⟩,.string ⟨a.name.toArray⟩,.slice Aa a.names.length ca,.slice Pa a.parts.length da] 25):=⟨_,rfl⟩;have hb2:=Z02 w1 (.cells #[.int .i64 b.kind,.string ⟨b.of_.toArray⟩,.string ⟨b.name.toArray⟩,.slice Ab b.names.length cb,.slice Pb b.parts.length db] 25);obtain ⟨w2,hw2⟩: ∃w2,w2=w1.alloc (.cells #[.int .i64 b.kind,.string ⟨b.of_.toArray⟩,.string ⟨b.name.toArray⟩,.slice Ab b.names.length cb,.slice Pb b.parts.length db] 25):=⟨_,rfl⟩;have hs1:w1.heap.size=w.heap.size+1:=by rw[hw1]; simp
 have hs2:w2.heap.size=w.heap.size+2:=by rw[hw2]; simp[hs1]
 have hb3:=Z02 w2 (.map #[] 0);obtain ⟨w3,hw3⟩: ∃w3,w3=w2.alloc (.map #[] 0):=⟨_,rfl⟩;have hs3:w3.heap.size=w.heap.size+3:=by rw[hw3]; simp[hs2]
 rw[<-hw1] at hb1;rw[<-hw2] at hb2;rw[<-hw3] at hb3;have hB1:Box5 w1 w.heap.size a ⟨Aa,ca,Pa,da⟩:=by rw[hw1]; exact Z03 w a ⟨Aa,ca,Pa,da⟩
 have hB2:Box5 w2 w1.heap.size b ⟨Ab,cb,Pb,db⟩:=by rw[hw2]; exact Z03 w1 b ⟨Ab,cb,Pb,db⟩
 have hBA:=(hB1.next hb2).next hb3;have hBB:=hB2.next hb3;rw[hs1] at hBB;have hM: ∀m,Mp w3 (w.heap.size+2) 0 [] m:=fun m=>by
  have:=Mp.made w2 m;rw[<-hw3,hs2] at this;exact this
 have hU:Upd (fun x=>w.heap.size<=x/\x < w.heap.size+3) w w3:=Upd.new (Z00 hb1 (Z00 hb2 hb3));have HB1:=Y1 hBA;have HB2:=Y1 hBB;have HM:=Y1 hM;have HU:=Y1 hU;have HA:=Y1 A;have HBB:=Y1 B;have HSA:=Y1 ha;have HSB:=Y1 hb;have HN:=Y1 hn;have HLA:=Y1 la;have HLB:=Y1 lb;have HT:=Y1 hT;have HK:=Y1 h0;have HS:=Y1 hs3;obtain ⟨_,⟨a0,a1,a2,a3,a4⟩,_⟩:=hBA;obtain ⟨_,⟨b0,b1,b2,b3,b4⟩,_⟩:=hBB;simp only[Nat.zero_add] at a0 a1 a2 a3 a4 b0 b1 b2 b3 b4;have hw1':=hw1.symm;have hw2':=hw2.symm;have hw3':=hw3.symm;clear hw1 hw2 hw3 hb1 hb2 hb3 hB1 hB2 hM hU A B ha hb hn la lb hT h0;unfold sv
 try dsimp only
 have hmm:= @run_makeMap Tryd.prog;go_enter Tryd.func33,Tryd.ntmps33
 go_wp2_with fail
 obtain ⟨g,off,qs,hP⟩:=Z3u HSB.out;have HP:=Y1 hP;clear hP
 go_loopw [20] (fun ii wr=> ∃k:Nat,k<=b.names.length/\ii= .int .i64 (k:Int)/\Hid (L1 w.heap.size a b ⟨Aa,ca,Pa,da⟩ ⟨Ab,cb,Pb,db⟩ g off w k wr)) (fun i _=>b.names.length - (intOf i).toNat)
 case atStart=>exact ⟨0,Nat.zero_le _,rfl,Y1 ⟨HB1.out,HB2.out,⟨[],HM.out _,by simp⟩,HU.out⟩⟩
 case round=>
  obtain ⟨k,hk,rfl,HR⟩:=hrel;have hlb:=HLB.out;clear b0 b1 b2 b3 b4 a0 a1 a2 a3 a4;by_cases hlt:k < b.names.length
  {have hi1: (k:Int) < (b.names.length:Int):=by omega
   have hi2: (k:Int) < (b.parts.length:Int):=by rw[<-HBB.out.l]; omega
   have hn0:=HN.out;have hsb:=Z0s HSB.out hn0 HR.out.up (fun x hx hs=>by omega);have hpp:=HP.out.upd hn0 HR.out.up (fun x hx hs=>by omega);obtain ⟨gA,oA,rfl,hgA,hcA⟩:=Z4x hsb hlt;rcases hpp with h | ⟨rfl,hgP,_⟩
   {have:=HBB.out.l; omega}
   obtain ⟨W',hr,hL⟩:=HR.out.put HBB.out.nodup hlt (by omega) (HSB.out.small.ns _ (List.getElem_mem _));obtain ⟨nm,hnm⟩: ∃nm,nm=b.names[k]'hlt:=⟨_,rfl⟩;rw[<-hnm] at hcA hr;have HL:=Y1 hL;obtain ⟨_,⟨b0,b1,b2,b3,b4⟩,_⟩:=HR.out.bb;simp only[Nat.zero_add] at b0 b1 b2 b3 b4;clear hL HR hsb hnm hgA hgP hn0;go_wp2
   go_roundw
   case rel=>exact ⟨k+1,by omega,by go_num,HL⟩
   case measure=>simp[intOf]; omega}
  {obtain rfl:k=b.names.length:=by omega
   have hi1: ¬(b.names.length:Int) < (b.names.length:Int):=by omega
   have hL:L2 n0 w.heap.size a b ⟨Aa,ca,Pa,da⟩ ⟨Ab,cb,Pb,db⟩ g off w K (a.names.take 0) ((callsA a b).take 0) wr:=by
    obtain ⟨S,hM,hS⟩:=HR.out.mp;refine ⟨HR.out.ba,HR.out.bb,⟨S,hM,fun n=> ?_⟩,HR.out.up.mono (fun x _ hx=>by have:=HN.out; omega), ?_,HT.out.keep _ _ _ _ HK.out HR.out.up⟩
    {rw[hS,List.take_length]; simp}
    {have:=hM.lt; omega}
   have HL:=Y1 hL;obtain ⟨_,⟨a0,a1,a2,a3,a4⟩,_⟩:=HR.out.ba;simp only[Nat.zero_add] at a0 a1 a2 a3 a4;clear hL HR hlt hk
   go_wp2_with fail
   go_loopw [35] (fun ii wr=> ∃k:Nat,k<=a.names.length/\ii= .int .i64 (k:Int)/\Hid (((callsA a b).take k).all step=true)/\Hid (L2 n0 w.heap.size a b ⟨Aa,ca,Pa,da⟩ ⟨Ab,cb,Pb,db⟩ g off w K (a.names.take k) ((callsA a b).take k) wr)) (fun i _=>a.names.length - (intOf i).toNat)
   case atStart=>exact ⟨0,Nat.zero_le _,rfl,Y1 (by simp),HL⟩
   case round=>
    obtain ⟨k,hk,rfl,HST,HL2⟩:=hrel;clear a0 a1 a2 a3 a4 HL;have hla:=HLA.out;by_cases hlt:k < a.names.length
    {have hi3: (k:Int) < (a.names.length:Int):=by omega
     have hi4: (k:Int) < (a.parts.length:Int):=by rw[<-HA.out.l]; omega
     have hk2:k < a.parts.length:=by omega
     have hn0:=HN.out;have hsa:=Z0s HSA.out hn0 HL2.out.up (fun x hx hs=>by omega);obtain ⟨gq,oq,rs,hpa⟩:=Z3u hsa;have hpb:=HP.out.upd hn0 HL2.out.up (fun x hx hs=>by omega);obtain ⟨gA,oA,rfl,hgA,hcA⟩:=Z4x hsa hlt;rcases hpa with h | ⟨rfl,hgP,h5⟩
     {omega}
     obtain ⟨S,hM,hS⟩:=HL2.out.mp;have hfine:Fine (a.names[k]'hlt):=HSA.out.small.ns _ (List.getElem_mem _);have hlook:=(show Mp wr.drew _ _ _ _ from hM.same rfl).look hfine;have hmem: (decide (a.names[k]'hlt∈S))=true ↔ (a.names[k]'hlt)∈b.names:=by
      rw[decide_eq_true_eq,hS];refine ⟨fun h=>h.1,fun h=>⟨h,fun hm=> ?_⟩⟩;obtain ⟨i,hi,e⟩:=List.getElem_of_mem hm;rw[List.getElem_take] at e;rw[List.length_take] at hi;have:=(List.getElem_inj HA.out.nodup).1 e;omega
     have hat:=Zbh HBB.out hpb hmem;obtain ⟨rest,hcut,hnext⟩:=Za1 (b:=b) HA.out hlt hk2;obtain ⟨nm,hnm⟩: ∃nm,nm=a.names[k]'hlt:=⟨_,rfl⟩;obtain ⟨xa,hxa⟩: ∃xa,xa=a.parts[k]'hk2:=⟨_,rfl⟩;have hax:At wr n0 (some xa) (.pointer (some ⟨gq,oq+k * 5,none⟩)):=⟨gq,oq+k * 5,rs k,rfl,hgP,by rw[hxa]; exact (h5 k hk2).1,by rw[hxa]; exact (h5 k hk2).2⟩;rw[<-hnm] at hcA hlook hmem hat hcut hnext hfine;rw[<-hxa] at hcut hnext;obtain ⟨y,hy⟩: ∃y,y=(if nm∈S then place g off b.names nm else .pointer none):=⟨_,rfl⟩;rw[<-hy] at hlook;have hat':At wr n0 (get b nm) y:=by
      rw[hy];by_cases e:nm∈S
      {simpa[e] using hat}
      {simpa[e] using hat}
     have hL3:=HL2.out.drew HT.out hn0;have hcall:=HT.out.call _ _ _ wr.drew _ _ hcut hL3.sz hL3.k (At.upd hax (by have:=HL2.out.up.size; omega) (Upd.refl (fun _=>False) wr).drew (fun _ _ h=>h)) (At.upd hat' (by have:=HL2.out.up.size; omega) (Upd.refl (fun _=>False) wr).drew (fun _ _ h=>h));have HCALL:=Y1 hcall;have HFI:=Y1 hfine;have HNX:=Y1 hnext;have HL3:=Y1 hL3;have HCUT:=Y1 hcut;obtain ⟨_,⟨a0,a1,a2,a3,a4⟩,_⟩:=HL2.out.ba;simp only[Nat.zero_add] at a0 a1 a2 a3 a4;have HNM:=Y1 hnm;clear hcall hfine hnext hL3 hcut hsa hpb hM hS hmem hat hat' hax hnm hxa hy h5 hgA hgP HL2
     go_wp2_with fail
     go_still_tail 9,(by kernel_rfl)
     change wpList _ _ _ _ _ wr.drew
     go_wp2_with fail
     refine HCALL.out.mono ?_;rintro e W2 ⟨rfl,hk2',hu2⟩;have HK2:=Y1 hk2';have HU2:=Y1 hu2;clear hk2' hu2 HCALL a0 a1 a2 a3 a4;cases hst:step (nm,some xa,get b nm) with
     | false=>
      have HALL:Hid ((calls a b).all step=false):=Y1 (by rw[HCUT.out,List.all_append,List.all_cons,hst]; simp);rw[hst] at HK2;clear hst;go_wp2;go_ret;rw[HALL.out];exact ⟨rfl,⟨_,HK2.out,nofun⟩,HL3.out.up.trans (HU2.out.mono (fun x _ h=>h.1))⟩
     | true=>
      rw[hst] at HK2;have HL4:=Y1 (HL3.out.upd HN.out HU2.out HK2.out);have HST2:Hid (((callsA a b).take (k+1)).all step=true):=Y1 (by rw[<-HNX.out,List.all_append,HST.out]; simp[hst]);rw[HNX.out] at HL4;clear hst HK2 HU2 HCUT;obtain ⟨W5,hr,hL5⟩:=HL4.out.del HT.out HN.out HFI.out 0;have HL5:=Y1 hL5;clear hL5;go_wp2
      go_roundw
      case rel=>exact ⟨k+1,by omega,by go_num,HST2,by rw[show a.names.take (k+1)=a.names.take k++ [nm] from by rw[List.take_succ_eq_append_getElem hlt,HNM.out]]; exact HL5⟩
      case measure=>simp[intOf]; omega}
    {obtain rfl:k=a.names.length:=by omega
     have hi3: ¬(a.names.length:Int) < (a.names.length:Int):=by omega
     have e0: (callsA a b).take a.names.length=callsA a b++callsBk a b 0:=by
      rw[<-Z2o (b:=b) HA.out,List.take_length]; simp[callsBk]
     have hst0:=HST.out;have hl0:=HL2.out;rw[e0] at hst0 hl0;rw[List.take_length] at hl0;have HST0:=Y1 hst0;have HL0:=Y1 hl0;obtain ⟨_,⟨b0,b1,b2,b3,b4⟩,_⟩:=HL2.out.bb;simp only[Nat.zero_add] at b0 b1 b2 b3 b4;clear hst0 hl0 HST HL2 hlt hk e0
     go_wp2_with fail
     go_loopw [57] (fun ii wr=> ∃k:Nat,k<=b.names.length/\ii= .int .i64 (k:Int)/\Hid ((callsA a b++callsBk a b k).all step=true)/\Hid (L2 n0 w.heap.size a b ⟨Aa,ca,Pa,da⟩ ⟨Ab,cb,Pb,db⟩ g off w K a.names (callsA a b++callsBk a b k) wr)) (fun i _=>b.names.length - (intOf i).toNat)
     case atStart=>exact ⟨0,Nat.zero_le _,rfl,HST0,HL0⟩
     case round=>
      obtain ⟨k,hk,rfl,HST,HL2⟩:=hrel;clear b0 b1 b2 b3 b4 HL0 HST0;by_cases hlt:k < b.names.length
      {have hi5: (k:Int) < (b.names.length:Int):=by omega
       have hk2:k < b.parts.length:=by rw[<-HBB.out.l]; exact hlt
       have hn0:=HN.out;have hsb:=Z0s HSB.out hn0 HL2.out.up (fun x hx hs=>by omega);have hpb:=HP.out.upd hn0 HL2.out.up (fun x hx hs=>by omega);obtain ⟨gA,oA,rfl,hgA,hcA⟩:=Z4x hsb hlt;obtain ⟨S,hM,hS⟩:=HL2.out.mp;have hfine:Fine (b.names[k]'hlt):=HSB.out.small.ns _ (List.getElem_mem _);have hlook:=hM.look2 hfine;have hmem:b.names[k]'hlt∈S ↔ get a (b.names[k]'hlt)=none:=by
        rw[hS,HA.out.get_none];exact ⟨fun h=>h.2,fun h=>⟨List.getElem_mem _,h⟩⟩
       obtain ⟨rest,hcut⟩:=Z8Q a b HBB.out (k+1);by_cases hin:b.names[k]'hlt∈S
       {have hnone:=hmem.1 hin;have hnew:=Z7n hlt hk2 (by rw[hnone]; rfl);rw[hnew] at hcut;rw[if_pos hin,decide_eq_true hin,Z4w HBB.out.nodup hlt] at hlook;obtain ⟨nm,hnm⟩: ∃nm,nm=b.names[k]'hlt:=⟨_,rfl⟩;obtain ⟨xb,hxb⟩: ∃xb,xb=b.parts[k]'hk2:=⟨_,rfl⟩;have hat:At wr n0 (some xb) (.pointer (some ⟨g,off+k * 5,none⟩)):=by
         rcases hpb with h | ⟨_,hgP,h5⟩
         {omega}
         {exact ⟨g,off+k * 5,qs k,rfl,hgP,by rw[hxb]; exact (h5 k hk2).1,by rw[hxb]; exact (h5 k hk2).2⟩}
        rw[<-hnm] at hcA hlook hnew hcut;rw[<-hxb] at hnew hcut;have hL3:=HL2.out;have hcut':calls a b=(callsA a b++callsBk a b k)++(nm,none,some xb)::rest:=by rw[hcut]; simp
        have hcall:=HT.out.call _ _ _ wr (.pointer none) _ hcut' hL3.sz hL3.k rfl hat;have HCALL:=Y1 hcall;have HNX:=Y1 hnew;have HL3:=Y1 hL3;have HCUT:=Y1 hcut';clear hcall hnew hL3 hcut hcut' hsb hpb hM hS hmem hat hnm hxb hgA HL2 hin hnone hfine
        go_wp2_with fail
        refine HCALL.out.mono ?_;rintro e W2 ⟨rfl,hk2',hu2⟩;have HK2:=Y1 hk2';have HU2:=Y1 hu2;clear hk2' hu2 HCALL;cases hst:step (nm,none,some xb) with
        | false=>
         have HALL:Hid ((calls a b).all step=false):=Y1 (by rw[HCUT.out,List.all_append,List.all_cons,hst]; simp);rw[hst] at HK2;clear hst;go_wp2;go_ret;rw[HALL.out];exact ⟨rfl,⟨_,HK2.out,nofun⟩,HL3.out.up.trans (HU2.out.mono (fun x _ h=>h.1))⟩
        | true=>
         rw[hst] at HK2;have hl4:=HL3.out.upd HN.out HU2.out HK2.out;rw[List.append_assoc, <-HNX.out] at hl4;have HL4:=Y1 hl4;have HST2:Hid ((callsA a b++callsBk a b (k+1)).all step=true):=Y1 (by rw[HNX.out, <-List.append_assoc,List.all_append,HST.out]; simp[hst]);clear hst HK2 HU2 HCUT hl4;go_wp2
         go_roundw
         case rel=>exact ⟨k+1,by omega,by go_num,HST2,HL4⟩
         case measure=>simp[intOf]; omega}
       {have hold:=Z7m (a:=a) hlt hk2 (by
         cases hg:get a (b.names[k]'hlt) with
         | none=>exact absurd (hmem.2 hg) hin
         | some _=>rfl)
        rw[if_neg hin,decide_eq_false hin] at hlook;obtain ⟨nm,hnm⟩: ∃nm,nm=b.names[k]'hlt:=⟨_,rfl⟩;rw[<-hnm] at hcA hlook;have HL3:Hid (L2 n0 w.heap.size a b ⟨Aa,ca,Pa,da⟩ ⟨some ⟨gA,oA,none⟩,cb,Pb,db⟩ g off w K a.names (callsA a b++callsBk a b (k+1)) wr):=Y1 (by rw[hold]; exact HL2.out);have HST2:Hid ((callsA a b++callsBk a b (k+1)).all step=true):=Y1 (by rw[hold]; exact HST.out);clear hold hsb hpb hM hS hmem hnm hgA HL2 hin hcut hfine;go_wp2
        go_roundw
        case rel=>exact ⟨k+1,by omega,by go_num,HST2,HL3⟩
        case measure=>simp[intOf]; omega}}
      {obtain rfl:k=b.names.length:=by omega
       have hi5: ¬(b.names.length:Int) < (b.names.length:Int):=by omega
       have hall: (calls a b).all step=true:=by
        have:=HST.out;rw[Z4k a b HBB.out] at this;exact this
       have hl:=HL2.out;rw[Z4k a b HBB.out] at hl;have HALL:=Y1 hall;have HL:=Y1 hl;clear hall hl HL2 HST;go_wp2;go_ret;rw[HALL.out];exact ⟨rfl,⟨_,HL.out.k,fun _=>rfl⟩,HL.out.up⟩}}}
end SubM
end Go.Proofs.YtlomianlcnmfgaaDoor
