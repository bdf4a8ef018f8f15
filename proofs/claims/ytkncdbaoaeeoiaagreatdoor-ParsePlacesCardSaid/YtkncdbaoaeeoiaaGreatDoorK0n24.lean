/- What the proofs of ParsePlaces want, part 24. -/
import Derived.Test.YtkncdbaoaeeoiaaGreatDoorK0n23
set_option linter.unusedVariables false
set_option linter.unusedSimpArgs false
set_option linter.unusedSectionVars false
set_option maxRecDepth 100000
set_option maxHeartbeats 16000000
namespace Go.Proofs.YtkncdbaoaeeoiaaGreatDoor
section
open Go.RowKit Tms Go.Maps Go.WideMaps
open Shp (Sh)
def badName (s:List UInt8):Bool:= !Lex.isName s
theorem Z8R (x:List UInt8) (hx:x.length<=9223372036854775807) (w:World):Y9 144 #[.string ⟨x.toArray⟩] w (.bool (badName x)):=by
 have HN:=Z0s x hx w;go_enter Tryz.func144,Tryz.ntmps144
 go_wp2_with fail
 refine HN.mono ?_;rintro e w' ⟨rfl,rfl⟩;go_wp2;go_ret;exact ⟨rfl,Below.refl _ _⟩
section
variable (P : Option Addr) (d : Nat) (l : List (List UInt8)) (w : World) (hl : l.length <= 9223372036854775807) (hp : Strs w w.heap.size P (strs l)) (hf : ∀ x ∈ l, x.length <= 9223372036854775807)
include P d l w hl hp hf
theorem Za3:
 Y9 173 #[.slice P l.length d,.func (.func 144) #[] #[]] w (.int .i64 (placeG badName l)):=by
 have HP:=Y1 hp;have HF:=Y1 hf;clear hp hf;go_enter Tryz.func173,Tryz.ntmps173
 go_wp2_with fail
 go_loopw [8] (fun ii wr=> ∃i:Nat,ii= .int .i64 i/\i<=l.length/\Hid (∀j (h:j < l.length),j < i->badName (l[j]'h)=false)/\Below w.heap.size w wr) (fun i _=>l.length - (intOf i).toNat)
 case atStart=>exact ⟨0,rfl,Nat.zero_le _,Y1 (fun j _ hj=>absurd hj (by omega)),Below.refl _ _⟩
 case round=>
  obtain ⟨i,rfl,hi,HN,hb⟩:=hrel;by_cases hlt:i < l.length
  {rcases (HP.out.next hb).cell7 with h0 | ⟨g,off,rfl,hg,hc⟩
   {omega}
   {obtain ⟨x,hx⟩: ∃x,x=l[i]'hlt:=⟨_,rfl⟩;have p0:=hc i hlt;rw[<-hx] at p0;have IH:=Z8R x (by rw[hx]; exact HF.out _ (List.getElem_mem _)) wr;have HX:=Y1 hx;clear hx hc;have hi1: (i:Int) < (l.length:Int):=by omega
    cases hox:badName x with
    | true=>
     rw[hox] at IH;have HV:Hid (placeG badName l=(i:Int)):=Y1 (Z2J hlt (by show badName _=true; rw[<-HX.out]; exact hox) (fun j hj hji=>HN.out j hj hji));clear hox
     go_wp2_with fail
     refine IH.mono ?_;rintro e w' ⟨rfl,hb'⟩;go_wp2;go_ret;exact ⟨Z0p HV.out.symm,Z00 hb hb'⟩
    | false=>
     rw[hox] at IH;have HO:=Y1 hox;clear hox
     go_wp2_with fail
     refine IH.mono ?_;rintro e w' ⟨rfl,hb'⟩;go_wp2
     go_roundw
     case rel=>exact ⟨i+1,by go_num,by omega,Y1 (fun j hj hji=>by
      rcases Nat.lt_succ_iff_lt_or_eq.1 hji with h | rfl
      {exact HN.out j hj h}
      · rw[<-HX.out]; exact HO.out),Z00 hb hb'⟩
     case measure=>simp[intOf]; omega}}
  {have hi1: ¬(i:Int) < (l.length:Int):=by omega
   have HV:Hid (placeG badName l= -1):=Y1 (Z1O (fun j hj=>HN.out j hj (by omega)));go_wp2;go_ret;exact ⟨Z0p HV.out.symm,hb⟩}
theorem Z6H:
 Y9 143 #[.slice P l.length d,.func (.func 144) #[] #[]] w (.bool (l.any badName)):=by
 have HI:=Za3 P d l w hl hp hf;have HV:=Y1 (Z2a badName l);have hge:=Z3i badName l;generalize placeG badName l=r at HI HV hge;clear hp hf;go_enter Tryz.func143,Tryz.ntmps143
 go_wp2_with fail
 refine HI.mono ?_;rintro e w' ⟨rfl,hb'⟩;go_wp2;go_ret;exact ⟨Z08 HV.out,hb'⟩
end
section
variable (P : Option Addr) (d : Nat)
include P d
theorem Z3P (l:List (List UInt8)) (w:World) (hp:Strs w w.heap.size P (strs l)) (hl:l.length<=9223372036854775807) (hx: ∀x∈l,x.length<=9223372036854775807):
 Y9 111 #[.slice P l.length d] w (.bool (l.all Lex.isName)):=by
 have HC:=Z6H P d l w hl hp hx;have HV:Hid (l.any badName= !l.all Lex.isName):=Y1 (Z6w Lex.isName l);rw[HV.out] at HC;clear hp hx;go_enter Tryz.func111,Tryz.ntmps111
 go_wp2_with fail
 refine HC.mono ?_;rintro e w' ⟨rfl,hb⟩;go_wp2;go_ret;exact ⟨Z08 (by simp),hb⟩
theorem Zdv (l:List Sh) (w:World) (hl:l.length<=9223372036854775807)
 (hp:ShsAt w w.heap.size P l)
 (hf: ∀x∈l,∀(q:Ptr) (w:World),ShAt w w.heap.size q x->Y9 146 #[.agg (Y8 x q)] w (.bool (hasOpaque x))):
 Y9 171 #[.slice P l.length d,.func (.func 146) #[] #[]] w (.int .i64 (placeG hasOpaque l)):=by
 have HP:=Y1 hp;have HF:=Y1 hf;clear hp hf;go_enter Tryz.func171,Tryz.ntmps171
 go_wp2_with fail
 go_loopw [8] (fun ii wr=> ∃i:Nat,ii= .int .i64 i/\i<=l.length/\Hid (∀j (h:j < l.length),j < i->hasOpaque (l[j]'h)=false)/\Below w.heap.size w wr) (fun i _=>l.length - (intOf i).toNat)
 case atStart=>exact ⟨0,rfl,Nat.zero_le _,Y1 (fun j _ hj=>absurd hj (by omega)),Below.refl _ _⟩
 case round=>
  obtain ⟨i,rfl,hi,HN,hb⟩:=hrel;by_cases hlt:i < l.length
  {rcases HP.out.next hb with h0 | ⟨g,off,qs,rfl,hg,hc,hr⟩
   {omega}
   {obtain ⟨x,hx⟩: ∃x,x=l[i]'hlt:=⟨_,rfl⟩;obtain ⟨p0,p1,p2,p3,p4⟩:=hc i hlt;have hat:ShAt wr wr.heap.size (qs i) x:=by rw[hx]; exact hr i hlt
    have ihx:=HF.out l[i] (List.getElem_mem _) (qs i) wr;rw[<-hx] at p0 p1 p2 p3 p4 ihx;have IH:=ihx hat;have HX:=Y1 hx;clear hx hc hr hat ihx;have hi1: (i:Int) < (l.length:Int):=by omega
    cases hox:hasOpaque x with
    | true=>
     rw[hox] at IH;have HV:Hid (placeG hasOpaque l=(i:Int)):=Y1 (Z2J hlt (by show hasOpaque _=true; rw[<-HX.out]; exact hox) (fun j hj hji=>HN.out j hj hji));clear hox
     go_wp2_with fail
     refine IH.mono ?_;rintro e w' ⟨rfl,hb'⟩;go_wp2;go_ret;exact ⟨Z0p HV.out.symm,Z00 hb hb'⟩
    | false=>
     rw[hox] at IH;have HO:=Y1 hox;clear hox
     go_wp2_with fail
     refine IH.mono ?_;rintro e w' ⟨rfl,hb'⟩;go_wp2
     go_roundw
     case rel=>exact ⟨i+1,by go_num,by omega,Y1 (fun j hj hji=>by
      rcases Nat.lt_succ_iff_lt_or_eq.1 hji with h | rfl
      {exact HN.out j hj h}
      · rw[<-HX.out]; exact HO.out),Z00 hb hb'⟩
     case measure=>simp[intOf]; omega}}
  {have hi1: ¬(i:Int) < (l.length:Int):=by omega
   have HV:Hid (placeG hasOpaque l= -1):=Y1 (Z1O (fun j hj=>HN.out j hj (by omega)));go_wp2;go_ret;exact ⟨Z0p HV.out.symm,hb⟩}
theorem Z8S (l:List Sh) (w:World) (hl:l.length<=9223372036854775807)
 (hp:ShsAt w w.heap.size P l)
 (hf: ∀x∈l,∀(q:Ptr) (w:World),ShAt w w.heap.size q x->Y9 146 #[.agg (Y8 x q)] w (.bool (hasOpaque x))):
 Y9 141 #[.slice P l.length d,.func (.func 146) #[] #[]] w (.bool (l.any hasOpaque)):=by
 have HI:=Zdv P d l w hl hp hf;have HV:=Y1 (Z2a hasOpaque l);have hge:=Z3i hasOpaque l;generalize placeG hasOpaque l=r at HI HV hge;clear hp hf;go_enter Tryz.func141,Tryz.ntmps141
 go_wp2_with fail
 refine HI.mono ?_;rintro e w' ⟨rfl,hb'⟩;go_wp2;go_ret;exact ⟨Z08 HV.out,hb'⟩
end
theorem Z6m (t:Sh): ∀(q:Ptr) (w:World),ShAt w w.heap.size q t->
 Y9 146 #[.agg (Y8 t q)] w (.bool (hasOpaque t)):=by
 induction t using Shp.Sh.ind with
 | h t ih=>
 intro q w hq;have hb0:=Z01 w (.cells (Y8 t q) 43);have HC:=Z8S q.P q.d t.parts _ hq.small.m (by
  rcases (hq.next hb0).part with h0 | h1
  {exact Or.inl h0}
  · exact Or.inr h1) (fun x hx q' w' hat=>ih x hx q' w' hat)
 have HD:=Y1 (Z7Z t);have HA:=Y1 (Z6t t.parts);have HB0:=Y1 hb0;obtain ⟨_,⟨c0,c1,c2,c3,c4⟩,_⟩:=Z0k w t q;clear hb0 hq ih;by_cases hk:t.kind=10
 {have HF:Hid (hasOpaque t=true):=Y1 (by rw[HD.out,decide_eq_true hk]; rfl);have hk2:=Y4 10 hk rfl;clear hk;go_enter Tryz.func146,Tryz.ntmps146;go_wp2;go_ret;exact ⟨by rw[HF.out]; rfl,HB0.out⟩}
 {have HF:Hid (hasOpaque t=t.parts.any hasOpaque):=Y1 (by rw[HD.out,decide_eq_false hk,HA.out]; rfl);have hk2: (t.kind==10)=false:=by rw[beq_eq_false_iff_ne]; exact hk
  clear hk;go_enter Tryz.func146,Tryz.ntmps146
  go_wp2_with fail
  refine HC.mono ?_;rintro e w' ⟨rfl,hb2⟩;go_wp2;go_ret;exact ⟨Z08 HF.out.symm,Z00 HB0.out hb2⟩}
def badType (s:Sh):Bool:= !(decide (Shp.check s=0)&& !hasOpaque s)
theorem Z8T (t:Sh) (q:Ptr) (w:World) (hq:ShAt w w.heap.size q t) (hg:WGlobs w):
 Y9 145 #[.agg (Y8 t q)] w (.bool (badType t)):=by
 have hb0:=Z01 w (.cells (Y8 t q) 43);have HK:=Z3s t q _ (hq.next hb0) (hg.next hb0);have HO:=Y1 (fun W (h:Below w.heap.size w W)=>Z6m t q W (hq.next h));have HB0:=Y1 hb0;have HB:=Y1 (Z0k w t q);have HD:Hid (badType t= !(decide (Shp.check t=0)&& !hasOpaque t)):=Y1 rfl;obtain ⟨_,⟨c0,c1,c2,c3,c4⟩,_⟩:=HB.out;clear hb0 hq hg;by_cases h0:Shp.check t=0
 {have HF:Hid (badType t=hasOpaque t):=Y1 (by rw[HD.out,decide_eq_true h0]; simp);rw[h0] at HK;clear h0;go_enter Tryz.func145,Tryz.ntmps145
  go_wp2_with fail
  refine HK.mono ?_;rintro e w1 ⟨rfl,hb1⟩;have hbw:=Z00 HB0.out hb1;have hd:=HO.out w1 hbw;obtain ⟨_,⟨d0,d1,d2,d3,d4⟩,_⟩:=HB.out.next hb1;have HBW:=Y1 hbw;clear hbw hb1 HK c0 c1 c2 c3 c4
  go_wp2_with fail
  refine hd.mono ?_;rintro e w' ⟨rfl,hb2⟩;go_wp2;go_ret;exact ⟨Z08 HF.out.symm,Z00 HBW.out hb2⟩}
 {have HF:Hid (badType t=true):=Y1 (by rw[HD.out,decide_eq_false h0]; rfl);have n0: (Shp.check t !=0)=true:=by simpa using h0
  have e0: (Shp.check t==0)=false:=by simpa using h0
  clear h0;go_enter Tryz.func145,Tryz.ntmps145
  go_wp2_with fail
  refine HK.mono ?_;rintro e w1 ⟨rfl,hb1⟩;go_wp2;go_ret;exact ⟨Z08 HF.out.symm,Z00 HB0.out hb1⟩}
section
variable (P : Option Addr) (d : Nat) (l : List Sh) (w : World) (hl : l.length <= 9223372036854775807) (hp : ShsAt w w.heap.size P l) (hg : WGlobs w) (hf : True)
include P d l w hl hp hg hf
theorem Za4:
 Y9 171 #[.slice P l.length d,.func (.func 145) #[] #[]] w (.int .i64 (placeG badType l)):=by
 have HP:=Y1 hp;have HF:=Y1 hf;have HG:=Y1 hg;clear hg;clear hp hf;go_enter Tryz.func171,Tryz.ntmps171
 go_wp2_with fail
 go_loopw [8] (fun ii wr=> ∃i:Nat,ii= .int .i64 i/\i<=l.length/\Hid (∀j (h:j < l.length),j < i->badType (l[j]'h)=false)/\Below w.heap.size w wr) (fun i _=>l.length - (intOf i).toNat)
 case atStart=>exact ⟨0,rfl,Nat.zero_le _,Y1 (fun j _ hj=>absurd hj (by omega)),Below.refl _ _⟩
 case round=>
  obtain ⟨i,rfl,hi,HN,hb⟩:=hrel;by_cases hlt:i < l.length
  {rcases HP.out.next hb with h0 | ⟨g,off,qs,rfl,hg,hc,hr⟩
   {omega}
   {obtain ⟨x,hx⟩: ∃x,x=l[i]'hlt:=⟨_,rfl⟩;obtain ⟨p0,p1,p2,p3,p4⟩:=hc i hlt;have hat:ShAt wr wr.heap.size (qs i) x:=by rw[hx]; exact hr i hlt
    rw[<-hx] at p0 p1 p2 p3 p4;have IH:=Z8T x (qs i) wr hat (HG.out.next hb);have HX:=Y1 hx;clear hx hc hr hat;have hi1: (i:Int) < (l.length:Int):=by omega
    cases hox:badType x with
    | true=>
     rw[hox] at IH;have HV:Hid (placeG badType l=(i:Int)):=Y1 (Z2J hlt (by show badType _=true; rw[<-HX.out]; exact hox) (fun j hj hji=>HN.out j hj hji));clear hox
     go_wp2_with fail
     refine IH.mono ?_;rintro e w' ⟨rfl,hb'⟩;go_wp2;go_ret;exact ⟨Z0p HV.out.symm,Z00 hb hb'⟩
    | false=>
     rw[hox] at IH;have HO:=Y1 hox;clear hox
     go_wp2_with fail
     refine IH.mono ?_;rintro e w' ⟨rfl,hb'⟩;go_wp2
     go_roundw
     case rel=>exact ⟨i+1,by go_num,by omega,Y1 (fun j hj hji=>by
      rcases Nat.lt_succ_iff_lt_or_eq.1 hji with h | rfl
      {exact HN.out j hj h}
      · rw[<-HX.out]; exact HO.out),Z00 hb hb'⟩
     case measure=>simp[intOf]; omega}}
  {have hi1: ¬(i:Int) < (l.length:Int):=by omega
   have HV:Hid (placeG badType l= -1):=Y1 (Z1O (fun j hj=>HN.out j hj (by omega)));go_wp2;go_ret;exact ⟨Z0p HV.out.symm,hb⟩}
theorem Z6I:
 Y9 141 #[.slice P l.length d,.func (.func 145) #[] #[]] w (.bool (l.any badType)):=by
 have HI:=Za4 P d l w hl hp hg hf;have HV:=Y1 (Z2a badType l);have hge:=Z3i badType l;generalize placeG badType l=r at HI HV hge;clear hp hf;go_enter Tryz.func141,Tryz.ntmps141
 go_wp2_with fail
 refine HI.mono ?_;rintro e w' ⟨rfl,hb'⟩;go_wp2;go_ret;exact ⟨Z08 HV.out,hb'⟩
end
theorem Z7E (P:Option Addr) (d:Nat) (l:List Sh) (w:World) (hp:ShsAt w w.heap.size P l) (hl:l.length<=9223372036854775807) (hg:WGlobs w):
 Y9 113 #[.slice P l.length d] w (.bool (shapesOk l)):=by
 have HC:=Z6I P d l w hl hp hg trivial;have HV:Hid (l.any badType= !shapesOk l):=Y1 (Z6w (fun s=>decide (Shp.check s=0)&& !hasOpaque s) l);rw[HV.out] at HC;clear hp;go_enter Tryz.func113,Tryz.ntmps113
 go_wp2_with fail
 refine HC.mono ?_;rintro e w' ⟨rfl,hb⟩;go_wp2;go_ret;exact ⟨Z08 (by simp),hb⟩
theorem Z6n (l:List (List UInt8)): ∀k,k<=l.length->Maps.size (seenOf l k)<=k/\(Maps.size (seenOf l k)=k ↔ (l.take k).Nodup)
 | 0,_=>by rw[Z4L]; simp[Maps.size]
 | k+1,hk=>by
  obtain ⟨h1,h2⟩:=Z6n l k (by omega);have ht:Tidy (seenOf l k):=tidy_setOf _ _ (fun y hy=>by obtain ⟨_,_,rfl⟩:=List.mem_map.1 hy; trivial);rw[Z4M l k hk,size_put ht,Z8u,Shp.Z1v hk,List.nodup_append];cases hin: (l.take k).contains (l[k]'hk) with
  | true=>
   have hm:=List.contains_iff_mem.1 hin;rw[if_pos rfl];refine ⟨by omega,fun h=>by omega,fun ⟨_,_,h⟩=>absurd rfl (h _ hm _ (by simp))⟩
  | false=>
   have hm:l[k]'hk∉l.take k:=fun h=>by rw[List.contains_iff_mem.2 h] at hin; cases hin
   rw[if_neg (by decide)];refine ⟨by omega,fun h=>⟨h2.1 (by omega),by simp,fun a ha b hb e=> ?_⟩,fun ⟨h,_,_⟩=>by rw[h2.2 h]⟩;obtain rfl:b=l[k]'hk:=by simpa using hb
   exact hm (e▸ha)
theorem ZbQ (l:List (List UInt8)): (((Maps.size (seenOf l l.length):Nat):Int)==(l.length:Int))=Shp.noDup l:=by
 obtain ⟨_,h⟩:=Z6n l l.length (Nat.le_refl _);rw[List.take_length, <-Shp.Z6O] at h;rw[Bool.eq_iff_iff, <-h,beq_iff_eq];omega
theorem Z7F (A:Option Addr) (c:Nat) (l:List (List UInt8)) (w:World) (hA:Strs w w.heap.size A (strs l)) (hl:l.length<=9223372036854775807) (hx: ∀x∈l,x.length<=9223372036854775807):
 Y9 112 #[.slice A l.length c] w (.bool (Shp.noDup l)):=by
 have hmm:= @run_makeMap Tryz.prog;have HA:=Y1 hA;have HX:=Y1 hx;have HS:=Y1 (ZbQ l);clear hA hx;go_enter Tryz.func112,Tryz.ntmps112
 go_wp2_with fail
 go_loopw [9] (fun ii wr=> ∃k:Nat,k<=l.length/\ii= .int .i64 k/\wr.ownsMap Tryz.prog 9 unitElem w.heap.size k (seenOf l k)/\Below w.heap.size w wr)
  (fun i _=>l.length - (intOf i).toNat)
 case atStart=>exact ⟨0,Nat.zero_le _,rfl,by rw[Z4L]; exact World.ownsMap_made _ _ _ _,Y2.alloc (Nat.le_refl _) _⟩
 case round=>
  obtain ⟨k,hk,rfl,hown,hb⟩:=hrel;by_cases hlt:k < l.length
  {have hi1: (k:Int) < (l.length:Int):=by omega
   rcases (HA.out.next hb).cell7 with h0 | ⟨g,off,rfl,hg,hc⟩
   {omega}
   {have hcell:=hc k hlt;obtain ⟨x,hx⟩: ∃x,x=l[k]'hlt:=⟨_,rfl⟩;rw[<-hx] at hcell;have hxl:x.length<=9223372036854775807:=by rw[hx]; exact HX.out _ (List.getElem_mem _)
    have HE:=Y1 hx;have hkey:keyOf Tryz.prog 9 (.string ⟨x.toArray⟩)=some (.string x):=keyOf_string_mk Tryz.underlying9 (by rw[Z07]; unfold maxLen; exact hxl);clear hx hc;have HBB:=Y1 hb;clear hb
    go_wp2_with (at_mapUpdate; refine wpList_mapUpdate_own _ rfl _ _ _ 175 rfl 9 176 Z3J Tryz.underlying175 (unitElem (H:=Unit)) w.heap.size k _ rfl hown (by unfold maxLen; omega) _ _ _ rfl rfl hkey _ [] unitElem_mk ?_; intro w1 hown1 hgrow1)
    go_roundw
    case rel=>
     refine ⟨k+1,by omega,by go_num, ?_, ?_⟩
     {rw[Z4M l k hlt, <-HE.out]; exact hown1}
     {exact HBB.out.grown hgrow1 HBB.out.size (fun j hj=>by cases hj; exact Nat.le_refl _)}
    case measure=>simp[intOf]; omega}}
  {have hie:k=l.length:=by omega
   have HW:Hid (wr.ownsMap Tryz.prog 9 (unitElem (H:=Unit)) w.heap.size l.length (seenOf l l.length)):=Y1 (by rw[<-hie]; exact hown);have hi1: ¬(k:Int) < (l.length:Int):=by omega
   have HBB:=Y1 hb;have hs:=HS.out;clear hb hown hie
   go_wp2_with (at_len; refine wpList_len_own _ rfl _ 175 rfl 9 176 Tryz.underlying175 _ w.heap.size l.length (seenOf l l.length) rfl HW.out ?_)
   go_ret;exact ⟨rfl,HBB.out⟩}
end
section
open Go.RowKit Tms
open Shp (Sh)
theorem Z8U (t:Tm) (q:TP) (w:World) (hs:TSmall t q) (hmn:t.names.length<=9223372036854775806):
 Calls Tryz.prog 110 #[.agg #[.int .i64 t.kind,.string ⟨t.of_.toArray⟩,.string ⟨t.name.toArray⟩,.int .i64 t.n,.slice q.A t.names.length q.c,.slice q.V t.vars.length q.e,.slice q.S t.shapes.length q.s,.slice q.P t.parts.length q.d,.int .i64 t.at_]] w fun e w'=>e= .returned (.bool (cntB t))/\Below w.heap.size w w':=by
 unfold cntB;have hv:=hs.v;have hsh:=hs.sh;have hm:=hs.m;generalize t.names.length=n at *;generalize t.vars.length=v at *;generalize t.shapes.length=s at *;generalize t.parts.length=p at *;generalize t.kind=k;clear hs;by_cases h:k < 1\/17 < k
 {have:cntN k n v s p=false:=by
   unfold cntN;rw[if_neg (by omega),if_neg (by omega),if_neg (by omega),if_neg (by omega),if_neg (by omega),if_neg (by omega),if_neg (by omega),if_neg (by omega),if_neg (by omega),if_neg (by omega)]
  rw[this];exact ZfY k _ _ _ _ _ _ _ _ _ _ _ _ _ _ _ _ w h hmn hv hsh hm}
 have:k=1\/k=2\/k=3\/k=4\/k=5\/k=6\/k=7\/k=8\/k=9\/k=10\/k=11\/k=12\/k=13\/k=14\/k=15\/k=16\/k=17:=by omega
 rcases this with rfl | rfl | rfl | rfl | rfl | rfl | rfl | rfl | rfl | rfl | rfl | rfl | rfl | rfl | rfl | rfl | rfl
 {exact Zgg _ _ _ _ _ _ _ _ _ _ _ _ _ _ _ _ w hmn hv hsh hm}
 {exact Zgh _ _ _ _ _ _ _ _ _ _ _ _ _ _ _ _ w hmn hv hsh hm}
 {exact Zgi _ _ _ _ _ _ _ _ _ _ _ _ _ _ _ _ w hmn hv hsh hm}
 {exact Zgj _ _ _ _ _ _ _ _ _ _ _ _ _ _ _ _ w hmn hv hsh hm}
 {exact Zgk _ _ _ _ _ _ _ _ _ _ _ _ _ _ _ _ w hmn hv hsh hm}
 {exact Zgl _ _ _ _ _ _ _ _ _ _ _ _ _ _ _ _ w hmn hv hsh hm}
 {exact Zgm _ _ _ _ _ _ _ _ _ _ _ _ _ _ _ _ w hmn hv hsh hm}
 {exact Zgn _ _ _ _ _ _ _ _ _ _ _ _ _ _ _ _ w hmn hv hsh hm}
 {exact Zgo _ _ _ _ _ _ _ _ _ _ _ _ _ _ _ _ w hmn hv hsh hm}
 {exact ZfQ _ _ _ _ _ _ _ _ _ _ _ _ _ _ _ _ w hmn hv hsh hm}
 {exact ZfR _ _ _ _ _ _ _ _ _ _ _ _ _ _ _ _ w hmn hv hsh hm}
 {exact ZfS _ _ _ _ _ _ _ _ _ _ _ _ _ _ _ _ w hmn hv hsh hm}
 {exact ZfT _ _ _ _ _ _ _ _ _ _ _ _ _ _ _ _ w hmn hv hsh hm}
 {exact ZfU _ _ _ _ _ _ _ _ _ _ _ _ _ _ _ _ w hmn hv hsh hm}
 {exact ZfV _ _ _ _ _ _ _ _ _ _ _ _ _ _ _ _ w hmn hv hsh hm}
 {exact ZfW _ _ _ _ _ _ _ _ _ _ _ _ _ _ _ _ w hmn hv hsh hm}
 {exact ZfX _ _ _ _ _ _ _ _ _ _ _ _ _ _ _ _ w hmn hv hsh hm}
theorem ZbR (t:Tm) (q:TP) (w:World) (hq:TmAt w w.heap.size q t) (hg:WGlobs w) (hu:Z0J w) (hmn:t.names.length<=9223372036854775806):
 Y9 78 #[.agg (Y7 t q)] w (.bool (fits t)):=by
 have HB:=Y1 (Z1c w t q);have HB0:=Y1 (Z01 w (.cells (Y7 t q) 26));have C1:=Y1 (fun (W:World) (h:Below w.heap.size w W)=>Z8i t q W);have C2:=Y1 (fun (W:World) (h:Below w.heap.size w W)=>Za2 t q W hq.small.o);have C3:=Y1 (fun (W:World) (h:Below w.heap.size w W)=>Z7D t q W hq.small.n (hu.next h));have C4:=Y1 (fun (W:World) (h:Below w.heap.size w W)=>Z8U t q W hq.small hmn);have C5:=Y1 (fun (W:World) (h:Below w.heap.size w W)=>Z3P q.A q.c t.names W (hq.next h).strs hq.small.l hq.small.ns);have C6:=Y1 (fun (W:World) (h:Below w.heap.size w W)=>Z7F q.A q.c t.names W (hq.next h).strs hq.small.l hq.small.ns);have C7:=Y1 (fun (W:World) (h:Below w.heap.size w W)=>Z3P q.V q.e t.vars W (hq.next h).vars hq.small.v hq.small.vs);have C8:=Y1 (fun (W:World) (h:Below w.heap.size w W)=>Z7E q.S q.s t.shapes W (hq.next h).shapes hq.small.sh (hg.next h));have HF:Hid (fits t=(decide (0<=t.at_)&&numB t&&ofB t&&nameB t&&cntB t&&t.names.all Lex.isName&&Shp.noDup t.names&&t.vars.all Lex.isName&&shapesOk t.shapes)):=Y1 (Ze6 t).symm;generalize numB t=b1 at C1 HF;generalize ofB t=b2 at C2 HF;generalize nameB t=b3 at C3 HF;generalize cntB t=b4 at C4 HF;generalize t.names.all Lex.isName=b5 at C5 HF;generalize Shp.noDup t.names=b6 at C6 HF;generalize t.vars.all Lex.isName=b7 at C7 HF;generalize shapesOk t.shapes=b8 at C8 HF;obtain ⟨_,⟨c0,c1,c2,c3,c4,c5,c6,c7,c8⟩,_⟩:=HB.out;clear hq hg hu hmn;by_cases h0:0<=t.at_
 {rw[decide_eq_true h0] at HF;go_enter Tryz.func78,Tryz.ntmps78
  go_wp2_with fail
  refine (C1.out _ HB0.out).mono ?_;rintro e w1 ⟨rfl,hb⟩;have BW1:=Y1 (Z00 HB0.out hb);have BX1:=Y1 (HB.out.next hb);clear hb c0 c1 c2 c3 c4 c5 c6 c7 c8;obtain ⟨_,⟨c0,c1,c2,c3,c4,c5,c6,c7,c8⟩,_⟩:=BX1.out;cases b1
  {go_wp2;go_ret;exact ⟨Z08 (by rw[HF.out]; simp),BW1.out⟩}
  go_wp2_with fail
  refine (C2.out _ BW1.out).mono ?_;rintro e w2 ⟨rfl,hb⟩;have BW2:=Y1 (Z00 BW1.out hb);have BX2:=Y1 (BX1.out.next hb);clear hb c0 c1 c2 c3 c4 c5 c6 c7 c8;obtain ⟨_,⟨c0,c1,c2,c3,c4,c5,c6,c7,c8⟩,_⟩:=BX2.out;cases b2
  {go_wp2;go_ret;exact ⟨Z08 (by rw[HF.out]; simp),BW2.out⟩}
  go_wp2_with fail
  refine (C3.out _ BW2.out).mono ?_;rintro e w3 ⟨rfl,hb⟩;have BW3:=Y1 (Z00 BW2.out hb);have BX3:=Y1 (BX2.out.next hb);clear hb c0 c1 c2 c3 c4 c5 c6 c7 c8;obtain ⟨_,⟨c0,c1,c2,c3,c4,c5,c6,c7,c8⟩,_⟩:=BX3.out;cases b3
  {go_wp2;go_ret;exact ⟨Z08 (by rw[HF.out]; simp),BW3.out⟩}
  go_wp2_with fail
  refine (C4.out _ BW3.out).mono ?_;rintro e w4 ⟨rfl,hb⟩;have BW4:=Y1 (Z00 BW3.out hb);have BX4:=Y1 (BX3.out.next hb);clear hb c0 c1 c2 c3 c4 c5 c6 c7 c8;obtain ⟨_,⟨c0,c1,c2,c3,c4,c5,c6,c7,c8⟩,_⟩:=BX4.out;cases b4
  {go_wp2;go_ret;exact ⟨Z08 (by rw[HF.out]; simp),BW4.out⟩}
  go_wp2_with fail
  refine (C5.out _ BW4.out).mono ?_;rintro e w5 ⟨rfl,hb⟩;have BW5:=Y1 (Z00 BW4.out hb);have BX5:=Y1 (BX4.out.next hb);clear hb c0 c1 c2 c3 c4 c5 c6 c7 c8;obtain ⟨_,⟨c0,c1,c2,c3,c4,c5,c6,c7,c8⟩,_⟩:=BX5.out;cases b5
  {go_wp2;go_ret;exact ⟨Z08 (by rw[HF.out]; simp),BW5.out⟩}
  go_wp2_with fail
  refine (C6.out _ BW5.out).mono ?_;rintro e w6 ⟨rfl,hb⟩;have BW6:=Y1 (Z00 BW5.out hb);have BX6:=Y1 (BX5.out.next hb);clear hb c0 c1 c2 c3 c4 c5 c6 c7 c8;obtain ⟨_,⟨c0,c1,c2,c3,c4,c5,c6,c7,c8⟩,_⟩:=BX6.out;cases b6
  {go_wp2;go_ret;exact ⟨Z08 (by rw[HF.out]; simp),BW6.out⟩}
  go_wp2_with fail
  refine (C7.out _ BW6.out).mono ?_;rintro e w7 ⟨rfl,hb⟩;have BW7:=Y1 (Z00 BW6.out hb);have BX7:=Y1 (BX6.out.next hb);clear hb c0 c1 c2 c3 c4 c5 c6 c7 c8;obtain ⟨_,⟨c0,c1,c2,c3,c4,c5,c6,c7,c8⟩,_⟩:=BX7.out;cases b7
  {go_wp2;go_ret;exact ⟨Z08 (by rw[HF.out]; simp),BW7.out⟩}
  go_wp2_with fail
  refine (C8.out _ BW7.out).mono ?_;rintro e w8 ⟨rfl,hb⟩;have BW8:=Y1 (Z00 BW7.out hb);have BX8:=Y1 (BX7.out.next hb);clear hb c0 c1 c2 c3 c4 c5 c6 c7 c8;obtain ⟨_,⟨c0,c1,c2,c3,c4,c5,c6,c7,c8⟩,_⟩:=BX8.out;go_wp2;go_ret;exact ⟨Z08 (by rw[HF.out]; simp),BW8.out⟩}
 {rw[decide_eq_false h0] at HF;go_enter Tryz.func78,Tryz.ntmps78;go_wp2;go_ret;exact ⟨Z08 (by rw[HF.out]; simp),HB0.out⟩}
theorem Zdw (l:List Tm):l.any (fun p=> !right p)= !rights l:=by rw[rights_all]; exact Z6w right l
def wrong (t:Tm):Bool:= !right t
def TmsIn (w:World) (B:Nat) (P:Option Addr) (l:List Tm):Prop:=
 l.length=0\/ ∃(g off:Nat) (qs:Nat->TP),P=some ⟨g,off,none⟩/\g < B/\(∀i (h:i < l.length),Tm9 w g (off+i * 9) (l[i]'h) (qs i))/\ ∀i (h:i < l.length),TmAt w B (qs i) (l[i]'h)
theorem TmsIn.next {w w':World} {P:Option Addr} {l:List Tm} (h:TmsIn w w.heap.size P l) (hb:Below w.heap.size w w'):TmsIn w' w'.heap.size P l:=by
 rcases h with h | ⟨g,off,qs,h1,h2,h3,h4⟩
 {exact Or.inl h}
 {exact Or.inr ⟨g,off,qs,h1,Nat.lt_of_lt_of_le h2 hb.size,fun i hi=>(h3 i hi).keep h2 hb,fun i hi=>(h4 i hi).next hb⟩}
section
variable (P : Option Addr) (d : Nat) (l : List Tm) (w : World) (hl : l.length <= 9223372036854775807) (hp : TmsIn w w.heap.size P l) (hg : WGlobs w) (hu : Z0J w) (hf : ∀ x ∈ l, ∀ (q : TP) (w : World), TmAt w w.heap.size q x -> WGlobs w -> Z0J w -> Y9 46 #[.agg (Y7 x q)] w (.bool (wrong x)))
include P d l w hl hp hg hu hf
theorem Za5:
 Y9 114 #[.slice P l.length d,.func (.func 46) #[] #[]] w (.int .i64 (placeG wrong l)):=by
 have HP:=Y1 hp;have HF:=Y1 hf;have HG:=Y1 hg;have HU:=Y1 hu;clear hg hu;clear hp hf;go_enter Tryz.func114,Tryz.ntmps114
 go_wp2_with fail
 go_loopw [8] (fun ii wr=> ∃i:Nat,ii= .int .i64 i/\i<=l.length/\Hid (∀j (h:j < l.length),j < i->wrong (l[j]'h)=false)/\Below w.heap.size w wr) (fun i _=>l.length - (intOf i).toNat)
 case atStart=>exact ⟨0,rfl,Nat.zero_le _,Y1 (fun j _ hj=>absurd hj (by omega)),Below.refl _ _⟩
 case round=>
  obtain ⟨i,rfl,hi,HN,hb⟩:=hrel;by_cases hlt:i < l.length
  {rcases HP.out.next hb with h0 | ⟨g,off,qs,rfl,hg,hc,hr⟩
   {omega}
   {obtain ⟨x,hx⟩: ∃x,x=l[i]'hlt:=⟨_,rfl⟩;obtain ⟨p0,p1,p2,p3,p4,p5,p6,p7,p8⟩:=hc i hlt;have hat:TmAt wr wr.heap.size (qs i) x:=by rw[hx]; exact hr i hlt
    have ihx:=HF.out l[i] (List.getElem_mem _) (qs i) wr;rw[<-hx] at p0 p1 p2 p3 p4 p5 p6 p7 p8 ihx;have IH:=ihx hat (HG.out.next hb) (HU.out.next hb);have HX:=Y1 hx;clear hx hc hr hat ihx;have hi1: (i:Int) < (l.length:Int):=by omega
    cases hox:wrong x with
    | true=>
     rw[hox] at IH;have HV:Hid (placeG wrong l=(i:Int)):=Y1 (Z2J hlt (by show wrong _=true; rw[<-HX.out]; exact hox) (fun j hj hji=>HN.out j hj hji));clear hox
     go_wp2_with fail
     refine IH.mono ?_;rintro e w' ⟨rfl,hb'⟩;go_wp2;go_ret;exact ⟨Z0p HV.out.symm,Z00 hb hb'⟩
    | false=>
     rw[hox] at IH;have HO:=Y1 hox;clear hox
     go_wp2_with fail
     refine IH.mono ?_;rintro e w' ⟨rfl,hb'⟩;go_wp2
     go_roundw
     case rel=>exact ⟨i+1,by go_num,by omega,Y1 (fun j hj hji=>by
      rcases Nat.lt_succ_iff_lt_or_eq.1 hji with h | rfl
      {exact HN.out j hj h}
      · rw[<-HX.out]; exact HO.out),Z00 hb hb'⟩
     case measure=>simp[intOf]; omega}}
  {have hi1: ¬(i:Int) < (l.length:Int):=by omega
   have HV:Hid (placeG wrong l= -1):=Y1 (Z1O (fun j hj=>HN.out j hj (by omega)));go_wp2;go_ret;exact ⟨Z0p HV.out.symm,hb⟩}
theorem Z6J:
 Y9 79 #[.slice P l.length d,.func (.func 46) #[] #[]] w (.bool (l.any wrong)):=by
 have HI:=Za5 P d l w hl hp hg hu hf;have HV:=Y1 (Z2a wrong l);have hge:=Z3i wrong l;generalize placeG wrong l=r at HI HV hge;clear hp hf;go_enter Tryz.func79,Tryz.ntmps79
 go_wp2_with fail
 refine HI.mono ?_;rintro e w' ⟨rfl,hb'⟩;go_wp2;go_ret;exact ⟨Z08 HV.out,hb'⟩
end
theorem Z7G (t:Tm): ∀(q:TP) (w:World),TmAt w w.heap.size q t->WGlobs w->Z0J w->few t=true->
 Y9 46 #[.agg (Y7 t q)] w (.bool (wrong t)):=by
 induction t using Tm.ind with
 | h t ih=>
 intro q w hq hg hu hfew;have hb0:=Z01 w (.cells (Y7 t q) 26);have hf:=ZbR t q _ (hq.next hb0) (hg.next hb0) (hu.next hb0) (Zfe hfew);have HC:=Y1 (fun W (h:Below w.heap.size w W)=>Z6J q.P q.d t.parts W hq.small.m (by
  rcases (hq.next h).part with h0 | h1
  {exact Or.inl h0}
  · exact Or.inr h1) (hg.next h) (hu.next h) (fun x hx q' w' hat hg' hu'=>ih x hx q' w' hat hg' hu' (Ze7 hfew hx)))
 have HD:=Y1 (right_eq t);have HA:=Y1 (Zdw t.parts);have HW:Hid (wrong t= !right t):=Y1 rfl;have HB0:=Y1 hb0;have HB:=Y1 (Z1c w t q);obtain ⟨_,⟨c0,c1,c2,c3,c4,c5,c6,c7,c8⟩,_⟩:=HB.out;clear hb0 hq hg hu ih hfew;cases hft:fits t
 {have HF:Hid (wrong t=true):=Y1 (by rw[HW.out,HD.out,hft]; rfl);rw[hft] at hf;clear hft;go_enter Tryz.func46,Tryz.ntmps46
  go_wp2_with fail
  refine hf.mono ?_;rintro e w' ⟨rfl,hb'⟩;go_wp2;go_ret;exact ⟨by rw[HF.out]; rfl,Z00 HB0.out hb'⟩}
 {have HF:Hid (wrong t=t.parts.any wrong):=Y1 (by rw[HW.out,HD.out,hft,show t.parts.any wrong=_ from HA.out]; rfl);rw[hft] at hf;clear hft;go_enter Tryz.func46,Tryz.ntmps46
  go_wp2_with fail
  refine hf.mono ?_;rintro e w1 ⟨rfl,hb'⟩;have hbw:=Z00 HB0.out hb';have hc:=HC.out w1 hbw;obtain ⟨_,⟨d0,d1,d2,d3,d4,d5,d6,d7,d8⟩,_⟩:=HB.out.next hb';clear hf c0 c1 c2 c3 c4 c5 c6 c7 c8 hb'
  go_wp2_with fail
  refine hc.mono ?_;rintro e w' ⟨rfl,hb2⟩;go_wp2;go_ret;exact ⟨Z08 HF.out.symm,Z00 hbw hb2⟩}
theorem Z2d (t:Tm) (q:TP) (w:World) (hq:TmAt w w.heap.size q t) (hg:WGlobs w) (hu:Z0J w) (hfew:few t=true):
 Y9 31 #[.agg (Y7 t q)] w (.int .i64 (check t)):=by
 have hb0:=Z01 w (.cells (Y7 t q) 26);have hm:=Z7n t q _ (hq.next hb0);have HC:Hid (check t=if 4096 < size t then 3 else if 40 < deep t then 91 else if right t=false then 80 else 0):=Y1 rfl;have HB0:=Y1 hb0;have HB:=Y1 (Z1c w t q);have HQ:=Y1 hq;have HG:=Y1 hg;have HU:=Y1 hu;obtain ⟨_,⟨c0,c1,c2,c3,c4,c5,c6,c7,c8⟩,_⟩:=HB.out;obtain ⟨m,hmm⟩: ∃m,m=min (size t) 4097:=⟨_,rfl⟩;rw[<-hmm] at hm;clear hb0 hq hg hu;by_cases h4:4096 < size t
 {have HF:Hid (check t=3):=Y1 (by rw[HC.out,if_pos h4]);have hx: (4096:Int) < (m:Int):=by omega
  clear h4 hmm;go_enter Tryz.func31,Tryz.ntmps31
  go_wp2_with fail
  refine hm.mono ?_;rintro e w' ⟨r,rfl,_,_,hb'⟩;go_wp2;go_ret;exact ⟨Z0p HF.out.symm,Z00 HB0.out hb'⟩}
 {have hx: ¬(4096:Int) < (m:Int):=by omega
  have HS:=Y1 (show size t<=4096 by omega);by_cases h40:40 < deep t
  {have HF:Hid (check t=91):=Y1 (by rw[HC.out,if_neg h4,if_pos h40]);have HDD:=Y1 h40;clear h4 hmm h40;go_enter Tryz.func31,Tryz.ntmps31
   go_wp2_with fail
   refine hm.mono ?_;rintro e w' ⟨r,rfl,hr,_,hb'⟩;have hy: (40:Int) < (r:Int):=by have:=hr HS.out; have:=HDD.out; omega
   clear hr;go_wp2;go_ret;exact ⟨Z0p HF.out.symm,Z00 HB0.out hb'⟩}
  {have HF:Hid (check t=if right t=false then 80 else 0):=Y1 (by rw[HC.out,if_neg h4,if_neg h40]);have HDD:=Y1 h40;have HWR:Hid (wrong t= !right t):=Y1 rfl;clear h4 hmm h40;go_enter Tryz.func31,Tryz.ntmps31
   go_wp2_with fail
   refine hm.mono ?_;rintro e w2 ⟨r,rfl,hr',_,hb2⟩;have hy: ¬(40:Int) < (r:Int):=by have:=hr' HS.out; have:=HDD.out; omega
   have hbw:=Z00 HB0.out hb2;have HBW2:=Y1 hbw;have HB2:=Y1 (HB.out.next hb2);have hr:=Z7G t q w2 (HQ.out.next hbw) (HG.out.next hbw) (HU.out.next hbw) hfew;rw[HWR.out] at hr;clear hm hb2 hbw hr' c0 c1 c2 c3 c4 c5 c6 c7 c8;obtain ⟨_,⟨c0,c1,c2,c3,c4,c5,c6,c7,c8⟩,_⟩:=HB2.out;cases hrt:right t
   all_goals
    rw[hrt] at hr HF;clear hrt
    go_wp2_with fail
    refine hr.mono ?_;rintro e w' ⟨rfl,hb'⟩;go_wp2;go_ret;exact ⟨Z0p (by rw[HF.out]; rfl),Z00 HBW2.out hb'⟩}}
end
section
open Go.RowKit Tms
open Shp (Sh)
open Pso (St Ok Goes betw loop want)
theorem ZaE (w:World) (x:Tk): (w.alloc (.cells #[.int .i64 x.t.kind,.string ⟨x.t.text.toArray⟩,.int .i64 x.at_] 54)).cell? ⟨w.heap.size,0,none⟩=some (.int .i64 x.t.kind)/\(w.alloc (.cells #[.int .i64 x.t.kind,.string ⟨x.t.text.toArray⟩,.int .i64 x.at_] 54)).cell? ⟨w.heap.size,1,none⟩=some (.string ⟨x.t.text.toArray⟩)/\(w.alloc (.cells #[.int .i64 x.t.kind,.string ⟨x.t.text.toArray⟩,.int .i64 x.at_] 54)).cell? ⟨w.heap.size,2,none⟩=some (.int .i64 x.at_):=by
 refine ⟨?_, ?_, ?_⟩ <;> simp[go_sem]
theorem ZbS (bp:Nat) (A:Option Addr) (c:Nat) (l:List Tk) (σ:St) (hl:l.length<=5000) (hσ:Ok l σ) (w:World) (h:PAt w bp A c l σ):
 Calls Tryz.prog 63 #[.pointer (some ⟨bp,0,none⟩)] w fun e w'=>e= .returned (.int .i64 (Prs.look l σ.1).at_)/\PAt w' bp A c l (Pso.begin_ l σ)/\UpT [bp] w w':=by
 have HF:Hid (Pso.begin_ l σ=if (Prs.look l σ.1).at_ < 0 then Pso.misfit l σ else σ):=Y1 rfl;rw[HF.out];have HL:=Y1 (Z1o bp A c l σ (by omega) hσ.1 w h);have HMF:=Y1 (fun (w:World) (h:PAt w bp A c l σ)=>Z2z bp A c l σ (by omega) hσ.1 w h);have HP:=Y1 h;obtain ⟨x,hx⟩: ∃x,x=Prs.look l σ.1:=⟨_,rfl⟩;rw[<-hx] at HL ⊢;clear h HF hx;have HC:=Y1 (fun (w:World)=>ZaE w x);by_cases h0:x.at_ < 0
 {rw[if_pos h0];go_enter Tryz.func63,Tryz.ntmps63
  go_wp2_with fail
  refine HL.out.mono ?_;rintro e w1 ⟨rfl,hb1⟩;have HB1:=Y1 hb1;obtain ⟨t0,t1,t2⟩:=HC.out w1;have tl:w1.heap.size < (w1.alloc (.cells #[.int .i64 x.t.kind,.string ⟨x.t.text.toArray⟩,.int .i64 x.at_] 54)).heap.size:=by simp
  have HP1:=Y1 ((HP.out.below hb1).alloc (.cells #[.int .i64 x.t.kind,.string ⟨x.t.text.toArray⟩,.int .i64 x.at_] 54));have HU1:=Y1 ((Z05 (F:= [bp]) hb1).alloc (.cells #[.int .i64 x.t.kind,.string ⟨x.t.text.toArray⟩,.int .i64 x.at_] 54));have hbl:bp < w1.heap.size:=Nat.lt_of_lt_of_le HP.out.lt hb1.size;clear hb1 HL
  go_wp2_with fail
  generalize w1.alloc (.cells #[.int .i64 x.t.kind,.string ⟨x.t.text.toArray⟩,.int .i64 x.at_] 54)=W1 at HP1 HU1 t0 t1 t2 tl ⊢;refine (HMF.out W1 HP1.out).mono ?_;rintro e w2 ⟨rfl,hp2,hu2⟩;have hs:=hu2.same tl (by simp; omega);have s2:=(hs.1 2).trans t2;have sl:=Nat.lt_of_lt_of_le tl hu2.size;have HP2:=Y1 hp2;have HU2:=Y1 (HU1.out.trans hu2);clear hp2 hu2 hs t0 t1 t2 tl;go_wp2;go_ret;exact ⟨rfl,HP2.out,HU2.out⟩}
 {rw[if_neg h0];go_enter Tryz.func63,Tryz.ntmps63
  go_wp2_with fail
  refine HL.out.mono ?_;rintro e w1 ⟨rfl,hb1⟩;obtain ⟨t0,t1,t2⟩:=HC.out w1;have HP1:=Y1 ((HP.out.below hb1).alloc (.cells #[.int .i64 x.t.kind,.string ⟨x.t.text.toArray⟩,.int .i64 x.at_] 54));have HU1:=Y1 ((Z05 (F:= [bp]) hb1).alloc (.cells #[.int .i64 x.t.kind,.string ⟨x.t.text.toArray⟩,.int .i64 x.at_] 54));clear hb1 HL;go_wp2;go_ret;exact ⟨rfl,HP1.out,HU1.out⟩}
theorem Z2p (W:World) (t:TB) (ht:TBok t): (⟨mkT t TR.none_,mkQ TR.none_,W.heap.size,W.heap.size⟩:ET).Is W:=
 Z6k t TR.none_ ht (Row.start _ _ _ _ _) (Row.start _ _ _ _ _) (Row.start _ _ _ _ _) (Row.start _ _ _ _ _) nofun nofun nofun nofun ⟨Nat.zero_le _,Nat.zero_le _,Nat.zero_le _,Nat.zero_le _⟩
theorem Z1Y (t:TB):few (mkT t TR.none_)=true:=Z1E t TR.none_ (Nat.zero_le _) nofun
theorem Za6 (s:List UInt8) (hs:s.length<=1000000) (w:World) (hg:Gl w):
 Y9 133 #[.string ⟨s.toArray⟩] w (.bool (Pso.isText s)):=by
 have HC:=Y1 (Z2d (mkT ⟨2,[],s,0,0⟩ TR.none_) (mkQ TR.none_) w (Z2p w ⟨2,[],s,0,0⟩ ⟨by simp,hs,by simp,by simp,by simp⟩).here hg.s hg.u (Z1Y _));have HV:Hid (Pso.isText s=decide (Tms.check (mkT ⟨2,[],s,0,0⟩ TR.none_)=0)):=Y1 rfl;rw[HV.out];generalize Tms.check (mkT ⟨2,[],s,0,0⟩ TR.none_)=k at HC ⊢;have e: (k==0)=decide (k=0):=rfl;rw[<-e];clear e HV;go_enter Tryz.func133,Tryz.ntmps133
 go_wp2_with fail
 refine HC.out.mono ?_;rintro e w1 ⟨rfl,hb1⟩;have HB:=Y1 hb1;clear hb1;go_wp2;go_ret;exact ⟨rfl,HB.out⟩
theorem Row.oneT {W:World} {B:Nat} (x:ET) (hB:B<=W.heap.size):Row (W.alloc (.cells (Y7 x.t x.q) 26)) B 26 9 cT (some ⟨W.heap.size,0,none⟩) 1 [x]:=by
 have:=World.ownsRow_lit (base:=B) (e:=26) (size:=9) W (Y7 x.t x.q) 1 hB (by decide) rfl;exact this
abbrev XNine (W:World) (b:Nat) (x:ET):Prop:=Nine W b (.int .i64 x.t.kind) (.string ⟨x.t.of_.toArray⟩) (.string ⟨x.t.name.toArray⟩) (.int .i64 x.t.n) (.slice x.q.A x.t.names.length x.q.c) (.slice x.q.V x.t.vars.length x.q.e) (.slice x.q.S x.t.shapes.length x.q.s) (.slice x.q.P x.t.parts.length x.q.d) (.int .i64 x.t.at_)
theorem Z6K (bp:Nat) (A:Option Addr) (c:Nat) (l:List Tk) (m:Nat) (σ:St) (k:Int) (nm:List UInt8) (a:Int) (hl:TokOk l) (ha: -9223372036854775808<=a/\a<=9223372036854775807) (hk:0<=k/\k<=100) (hnm:nm.length<=1000000) (hσ:Ok l σ) (hE:ExC bp A c l m) (hm:l.length - σ.1 < m) (w:World) (h:PAt w bp A c l σ):
 Calls Tryz.prog 131 #[.pointer (some ⟨bp,0,none⟩),.int .i64 k,.string ⟨nm.toArray⟩,.int .i64 a] w (TmIs bp A c l (Pso.ofE l (Pso.expr l m) k nm σ a) w):=by
 have HF:Hid (Pso.ofE l (Pso.expr l m) k nm σ a=({ Prs.tm k a with name:=nm,parts:= [(Pso.expr l m (want l σ [40])).1] },want l (Pso.expr l m (want l σ [40])).2 [41])):=Y1 rfl;rw[HF.out];have hbw:=h.lt;have HLEN:=hl.len;have t1:=Pso.to_want hσ [40];have t2:=Pso.to_expr m _ t1.1;have HK:Hid (TBok ⟨k,[],nm,0,a⟩):=Y1 ⟨by simp,hnm,by simp,ha,hk⟩;have hb0:=Z01 w (.cells Ya 26);have hz0:=Z0h w (.int .i64 0) (.string ⟨#[]⟩) (.string ⟨#[]⟩) (.int .i64 0) (.slice none 0 0) (.slice none 0 0) (.slice none 0 0) (.slice none 0 0) (.int .i64 0) 26;have HW1:=Y1 (Z0d bp A c l σ [40] (by omega) hσ.1 _ (h.below hb0) (b:=w.heap.size+1) (by simp));have HEX:=Y1 (fun (w:World) (h:PAt w bp A c l (want l σ [40]))=>hE w _ t1.1 (by have:=t1.2.1; omega) h);have HW2:=Y1 (fun (w:World) (h:PAt w bp A c l (Pso.expr l m (want l σ [40])).2) (b:Nat) (hb:b=w.heap.size)=>Z0d bp A c l _ [41] (by omega) t2.1.1 w h hb);have HB0:=Y1 hb0;have HZ0:=Y1 hz0;obtain ⟨y,hy⟩: ∃y,y=Pso.expr l m (want l σ [40]):=⟨_,rfl⟩;rw[<-hy] at HEX HW2 ⊢;clear HF h t1 t2 hb0 hz0 hy hE hm hl;go_enter Tryz.func131,Tryz.ntmps131
 go_wp2_with fail
 refine HW1.out.mono ?_;rintro e w0 ⟨v0,rfl,hp0,hu0⟩;have hs0:w.heap.size+1<=w0.heap.size:=by have:=hu0.size; simpa using this
 have HP0:=Y1 hp0;have HU0:=Y1 ((Z05 (F:= [bp]) HB0.out).trans hu0);have HZ1:=Y1 (HZ0.out.up hu0 (by simp; omega));clear hp0 hu0 HW1 HB0 HZ0
 go_wp2_with fail
 refine (HEX.out w0 HP0.out).mono ?_;rintro e w1 ⟨x,rfl,hp1,hu1,hx,hlo,hxt⟩;have hlo1:w.heap.size+1<=x.lo:=by omega
 have hz1:=hu1.size;have HP1:=Y1 (hp1.alloc (.cells (Y7 x.t x.q) 26));have HU1:=Y1 ((HU0.out.trans hu1).alloc (.cells (Y7 x.t x.q) 26));have HX1:=Y1 (show x.Is _ from New.below hx (Z01 w1 (.cells (Y7 x.t x.q) 26)));have HC1:=Y1 (Z0h w1 (.int .i64 x.t.kind) (.string ⟨x.t.of_.toArray⟩) (.string ⟨x.t.name.toArray⟩) (.int .i64 x.t.n) (.slice x.q.A x.t.names.length x.q.c) (.slice x.q.V x.t.vars.length x.q.e) (.slice x.q.S x.t.shapes.length x.q.s) (.slice x.q.P x.t.parts.length x.q.d) (.int .i64 x.t.at_) 26);have HZ2:=Y1 ((HZ1.out.up hu1 (by simp; omega)).below (Z01 w1 (.cells (Y7 x.t x.q) 26)));have HXT:=Y1 hxt;clear hp1 hu1 hx hlo hxt HEX HZ1 HU0 HP0;simp only[valT]
 go_wp2_with fail
 have HZW:=Y1 (show w1.heap.size+1=(w1.alloc (.cells (Y7 x.t x.q) 26)).heap.size by simp);generalize w1.alloc (.cells (Y7 x.t x.q) 26)=W1 at HZW HP1 HU1 HX1 HC1 HZ2 ⊢;refine (HW2.out W1 HP1.out _ HZW.out).mono ?_;rintro e w3 ⟨v3,rfl,hp3,hu3⟩;have HP3:=Y1 hp3;have HU3:=Y1 (HU1.out.trans hu3);have HX3:=Y1 (show x.Is w3 from New.up HX1.out hu3 (by simp; omega));obtain ⟨r0,r1,r2,r3,r4,r5,r6,r7,r8,rf,rl⟩:=HZ2.out.up hu3 (by simp; omega);obtain ⟨x0,x1,x2,x3,x4,x5,x6,x7,x8,xf,xl⟩:=HC1.out.up hu3 (by simp; omega);have f0:=rf 0;have f1:=rf 1;have f2:=rf 2;have f3:=rf 3;have f4:=rf 4;have f5:=rf 5;have f6:=rf 6;have f7:=rf 7;have f8:=rf 8;clear hp3 hu3 HW2 HP1 HU1 HX1 HC1 HZ2 rf xf;go_wp2;have hE:=end9 HP3.out HU3.out HX3.out (rb:=w.heap.size) (Nat.le_refl _) (Or.inl (by omega)) hbw (.int .i64 k) (.string ⟨#[]⟩) (.string ⟨nm.toArray⟩) (.int .i64 0) (.slice none 0 0) (.slice none 0 0) (.slice none 0 0) (.slice (some ⟨w3.heap.size,0,none⟩) 1 1) (.int .i64 a);refine bodyPost_ret (v:=valT ⟨mkT ⟨k,[],nm,0,a⟩ ⟨none,0,[],none,0,[],none,0,[],some ⟨w3.heap.size,0,none⟩,1,[x]⟩,mkQ ⟨none,0,[],none,0,[],none,0,[],some ⟨w3.heap.size,0,none⟩,1,[x]⟩,w.heap.size+1,w3.heap.size+1⟩) (by simp[results,Tryz.results131,go_sem,valT,mkT,mkQ,r0,r1,r2,r3,r4,r5,r6,r7,r8,rl]) rfl ?_;obtain ⟨e1,e2,e3⟩:=hE;have hsz: (Z10 w3 w.heap.size (.int .i64 k) (.string ⟨#[]⟩) (.string ⟨nm.toArray⟩) (.int .i64 0) (.slice none 0 0) (.slice none 0 0) (.slice none 0 0) (.slice (some ⟨w3.heap.size,0,none⟩) 1 1) (.int .i64 a)).heap.size=w3.heap.size:=by simp[Z10,World.setCell]
 change TmIs bp A c l _ w _ ((Z10 w3 w.heap.size (.int .i64 k) (.string ⟨#[]⟩) (.string ⟨nm.toArray⟩) (.int .i64 0) (.slice none 0 0) (.slice none 0 0) (.slice none 0 0) (.slice (some ⟨w3.heap.size,0,none⟩) 1 1) (.int .i64 a)).alloc _);generalize Z10 w3 w.heap.size (.int .i64 k) (.string ⟨#[]⟩) (.string ⟨nm.toArray⟩) (.int .i64 0) (.slice none 0 0) (.slice none 0 0) (.slice none 0 0) (.slice (some ⟨w3.heap.size,0,none⟩) 1 1) (.int .i64 a)=Wp at e1 e2 e3 hsz ⊢;have hrow:=Row.oneT (W:=Wp) (B:=w.heap.size+1) x (by omega);have hn:=Z6k ⟨k,[],nm,0,a⟩ ⟨none,0,[],none,0,[],none,0,[],some ⟨Wp.heap.size,0,none⟩,1,[x]⟩ HK.out (Row.start _ _ _ _ _) (Row.start _ _ _ _ _) (Row.start _ _ _ _ _) hrow nofun (fun z hz=>by
  have hzx:z=x:=by simpa using hz
  rw[hzx];exact ⟨New.below e3 (Z01 _ _),hlo1⟩) nofun nofun ⟨by simp,by simp,by simp,by simp⟩
 have hsz2: (Wp.alloc (.cells (Y7 x.t x.q) 26)).heap.size=w3.heap.size+1:=by simp[hsz]
 rw[hsz,hsz2] at hn;exact ⟨_,rfl,e1.alloc _,e2.alloc _,hn,by simp only; omega,by rw[<-HXT.out.1]; rfl,Z1E _ _ (Nat.zero_le _) (fun z hz=>by
  have hzx:z=x:=by simpa using hz
  rw[hzx]; exact HXT.out.2)⟩
end
end Go.Proofs.YtkncdbaoaeeoiaaGreatDoor
