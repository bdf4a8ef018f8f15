/- What the proofs of ParseAround want, part 22. -/
import Derived.Test.YtkncdbaoaeeoiaaGreatDoorL0n4
import Derived.Test.YtkncdbaoaeeoiaaGreatDoorL0n21
set_option linter.unusedVariables false
set_option linter.unusedSimpArgs false
set_option linter.unusedSectionVars false
set_option maxRecDepth 100000
set_option maxHeartbeats 16000000
namespace Go.Proofs.YtkncdbaoaeeoiaaGreatDoor
section
open Go.RowKit Tms Go.Maps Go.WideMaps
open Shp (Sh)
def badName (s:List UInt8):Bool:= !Lex.isName s
theorem Z8R (x:List UInt8) (b:x.length<=9223372036854775807) (w:World):Y9 144 #[.string ⟨x.toArray⟩] w (.bool (badName x)):=by
 have a:=Z0s x b w;go_enter Tryz.func144,Tryz.ntmps144
 go_wp2_with fail
 refine a.mono ?_;rintro e w' ⟨rfl,rfl⟩;go_wp2;go_ret;exact ⟨rfl,Below.refl _ _⟩
section
variable (P : Option Addr) (d : Nat) (l : List (List UInt8)) (w : World) (hl : l.length <= 9223372036854775807) (hp : Strs w w.heap.size P (strs l)) (hf : ∀ x ∈ l, x.length <= 9223372036854775807)
include P d l w hl hp hf
theorem Za3:
 Y9 173 #[.slice P l.length d,.func (.func 144) #[] #[]] w (.int .i64 (placeG badName l)):=by
 have u:=Y1 hp;have s:=Y1 hf;clear hp hf;go_enter Tryz.func173,Tryz.ntmps173
 go_wp2_with fail
 go_loopw [8] (fun ii wr=> ∃i:Nat,ii= .int .i64 i/\i<=l.length/\Hid (∀j (h:j < l.length),j < i->badName (l[j]'h)=false)/\Below w.heap.size w wr) (fun i _=>l.length - (intOf i).toNat)
 case atStart=>exact ⟨0,rfl,Nat.zero_le _,Y1 (fun j _ hj=>absurd hj (by omega)),Below.refl _ _⟩
 case round=>
  obtain ⟨i,rfl,z,n,k⟩:=hrel;by_cases c:i < l.length
  {rcases (u.out.next k).cell7 with v | ⟨g,off,rfl,y,r⟩
   {omega}
   {obtain ⟨x,m⟩: ∃x,x=l[i]'c:=⟨_,rfl⟩;have p0:=r i c;rw[<-m] at p0;have f:=Z8R x (by rw[m]; exact s.out _ (List.getElem_mem _)) wr;have q:=Y1 m;clear m r;have p: (i:Int) < (l.length:Int):=by omega
    cases a:badName x with
    | true=>
     rw[a] at f;have o:Hid (placeG badName l=(i:Int)):=Y1 (Z2J c (by show badName _=true; rw[<-q.out]; exact a) (fun j hj hji=>n.out j hj hji));clear a
     go_wp2_with fail
     refine f.mono ?_;rintro e w' ⟨rfl,b⟩;go_wp2;go_ret;exact ⟨Z0p o.out.symm,Z00 k b⟩
    | false=>
     rw[a] at f;have t:=Y1 a;clear a
     go_wp2_with fail
     refine f.mono ?_;rintro e w' ⟨rfl,b⟩;go_wp2
     go_roundw
     case rel=>exact ⟨i+1,by go_num,by omega,Y1 (fun j hj hji=>by
      rcases Nat.lt_succ_iff_lt_or_eq.1 hji with h | rfl
      {exact n.out j hj h}
      · rw[<-q.out]; exact t.out),Z00 k b⟩
     case measure=>simp[intOf]; omega}}
  {have p: ¬(i:Int) < (l.length:Int):=by omega
   have o:Hid (placeG badName l= -1):=Y1 (Z1O (fun j hj=>n.out j hj (by omega)));go_wp2;go_ret;exact ⟨Z0p o.out.symm,k⟩}
theorem Z6H:
 Y9 143 #[.slice P l.length d,.func (.func 144) #[] #[]] w (.bool (l.any badName)):=by
 have c:=Za3 P d l w hl hp hf;have f:=Y1 (Z2a badName l);have b:=Z3i badName l;generalize placeG badName l=r at c f b;clear hp hf;go_enter Tryz.func143,Tryz.ntmps143
 go_wp2_with fail
 refine c.mono ?_;rintro e w' ⟨rfl,a⟩;go_wp2;go_ret;exact ⟨Z08 f.out,a⟩
end
section
variable (P : Option Addr) (d : Nat)
include P d
theorem Z3P (l:List (List UInt8)) (w:World) (b:Strs w w.heap.size P (strs l)) (h:l.length<=9223372036854775807) (c: ∀x∈l,x.length<=9223372036854775807):
 Y9 111 #[.slice P l.length d] w (.bool (l.all Lex.isName)):=by
 have a:=Z6H P d l w h b c;have f:Hid (l.any badName= !l.all Lex.isName):=Y1 (Z6w Lex.isName l);rw[f.out] at a;clear b c;go_enter Tryz.func111,Tryz.ntmps111
 go_wp2_with fail
 refine a.mono ?_;rintro e w' ⟨rfl,g⟩;go_wp2;go_ret;exact ⟨Z08 (by simp),g⟩
theorem Zdv (l:List Sh) (w:World) (G:l.length<=9223372036854775807)
 (y:ShsAt w w.heap.size P l)
 (v: ∀x∈l,∀(q:Ptr) (w:World),ShAt w w.heap.size q x->Y9 146 #[.agg (Y8 x q)] w (.bool (hasOpaque x))):
 Y9 171 #[.slice P l.length d,.func (.func 146) #[] #[]] w (.int .i64 (placeG hasOpaque l)):=by
 have C:=Y1 y;have A:=Y1 v;clear y v;go_enter Tryz.func171,Tryz.ntmps171
 go_wp2_with fail
 go_loopw [8] (fun ii wr=> ∃i:Nat,ii= .int .i64 i/\i<=l.length/\Hid (∀j (h:j < l.length),j < i->hasOpaque (l[j]'h)=false)/\Below w.heap.size w wr) (fun i _=>l.length - (intOf i).toNat)
 case atStart=>exact ⟨0,rfl,Nat.zero_le _,Y1 (fun j _ hj=>absurd hj (by omega)),Below.refl _ _⟩
 case round=>
  obtain ⟨i,rfl,F,p,n⟩:=hrel;by_cases b:i < l.length
  {rcases C.out.next n with D | ⟨g,off,qs,rfl,E,u,z⟩
   {omega}
   {obtain ⟨x,o⟩: ∃x,x=l[i]'b:=⟨_,rfl⟩;obtain ⟨p0,p1,p2,p3,p4⟩:=u i b;have k:ShAt wr wr.heap.size (qs i) x:=by rw[o]; exact z i b
    have f:=A.out l[i] (List.getElem_mem _) (qs i) wr;rw[<-o] at p0 p1 p2 p3 p4 f;have m:=f k;have t:=Y1 o;clear o u z k f;have s: (i:Int) < (l.length:Int):=by omega
    cases a:hasOpaque x with
    | true=>
     rw[a] at m;have r:Hid (placeG hasOpaque l=(i:Int)):=Y1 (Z2J b (by show hasOpaque _=true; rw[<-t.out]; exact a) (fun j hj hji=>p.out j hj hji));clear a
     go_wp2_with fail
     refine m.mono ?_;rintro e w' ⟨rfl,c⟩;go_wp2;go_ret;exact ⟨Z0p r.out.symm,Z00 n c⟩
    | false=>
     rw[a] at m;have B:=Y1 a;clear a
     go_wp2_with fail
     refine m.mono ?_;rintro e w' ⟨rfl,c⟩;go_wp2
     go_roundw
     case rel=>exact ⟨i+1,by go_num,by omega,Y1 (fun j hj hji=>by
      rcases Nat.lt_succ_iff_lt_or_eq.1 hji with h | rfl
      {exact p.out j hj h}
      · rw[<-t.out]; exact B.out),Z00 n c⟩
     case measure=>simp[intOf]; omega}}
  {have s: ¬(i:Int) < (l.length:Int):=by omega
   have r:Hid (placeG hasOpaque l= -1):=Y1 (Z1O (fun j hj=>p.out j hj (by omega)));go_wp2;go_ret;exact ⟨Z0p r.out.symm,n⟩}
theorem Z8S (l:List Sh) (w:World) (i:l.length<=9223372036854775807)
 (h:ShsAt w w.heap.size P l)
 (g: ∀x∈l,∀(q:Ptr) (w:World),ShAt w w.heap.size q x->Y9 146 #[.agg (Y8 x q)] w (.bool (hasOpaque x))):
 Y9 141 #[.slice P l.length d,.func (.func 146) #[] #[]] w (.bool (l.any hasOpaque)):=by
 have c:=Zdv P d l w i h g;have f:=Y1 (Z2a hasOpaque l);have b:=Z3i hasOpaque l;generalize placeG hasOpaque l=r at c f b;clear h g;go_enter Tryz.func141,Tryz.ntmps141
 go_wp2_with fail
 refine c.mono ?_;rintro e w' ⟨rfl,a⟩;go_wp2;go_ret;exact ⟨Z08 f.out,a⟩
end
theorem Z6m (t:Sh): ∀(q:Ptr) (w:World),ShAt w w.heap.size q t->
 Y9 146 #[.agg (Y8 t q)] w (.bool (hasOpaque t)):=by
 induction t using Shp.Sh.ind with
 | h t ih=>
 intro q w g;have hb0:=Z01 w (.cells (Y8 t q) 43);have k:=Z8S q.P q.d t.parts _ g.small.m (by
  rcases (g.next hb0).part with l | m
  {exact Or.inl l}
  · exact Or.inr m) (fun x hx q' w' hat=>ih x hx q' w' hat)
 have i:=Y1 (Z7Z t);have j:=Y1 (Z6t t.parts);have b:=Y1 hb0;obtain ⟨_,⟨n,c1,c2,c3,c4⟩,_⟩:=Z0k w t q;clear hb0 g ih;by_cases a:t.kind=10
 {have c:Hid (hasOpaque t=true):=Y1 (by rw[i.out,decide_eq_true a]; rfl);have f:=Y4 10 a rfl;clear a;go_enter Tryz.func146,Tryz.ntmps146;go_wp2;go_ret;exact ⟨by rw[c.out]; rfl,b.out⟩}
 {have c:Hid (hasOpaque t=t.parts.any hasOpaque):=Y1 (by rw[i.out,decide_eq_false a,j.out]; rfl);have f: (t.kind==10)=false:=by rw[beq_eq_false_iff_ne]; exact a
  clear a;go_enter Tryz.func146,Tryz.ntmps146
  go_wp2_with fail
  refine k.mono ?_;rintro e w' ⟨rfl,d⟩;go_wp2;go_ret;exact ⟨Z08 c.out.symm,Z00 b.out d⟩}
def badType (s:Sh):Bool:= !(decide (Shp.check s=0)&& !hasOpaque s)
theorem Z8T (t:Sh) (q:Ptr) (w:World) (k:ShAt w w.heap.size q t) (n:WGlobs w):
 Y9 145 #[.agg (Y8 t q)] w (.bool (badType t)):=by
 have hb0:=Z01 w (.cells (Y8 t q) 43);have f:=Z3s t q _ (k.next hb0) (n.next hb0);have p:=Y1 (fun W (h:Below w.heap.size w W)=>Z6m t q W (k.next h));have d:=Y1 hb0;have l:=Y1 (Z0k w t q);have m:Hid (badType t= !(decide (Shp.check t=0)&& !hasOpaque t)):=Y1 rfl;obtain ⟨_,⟨r,c1,c2,c3,c4⟩,_⟩:=l.out;clear hb0 k n;by_cases b:Shp.check t=0
 {have i:Hid (badType t=hasOpaque t):=Y1 (by rw[m.out,decide_eq_true b]; simp);rw[b] at f;clear b;go_enter Tryz.func145,Tryz.ntmps145
  go_wp2_with fail
  refine f.mono ?_;rintro e o ⟨rfl,a⟩;have c:=Z00 d.out a;have s:=p.out o c;obtain ⟨_,⟨u,d1,d2,d3,v⟩,_⟩:=l.out.next a;have g:=Y1 c;clear c a f r c1 c2 c3 c4
  go_wp2_with fail
  refine s.mono ?_;rintro e w' ⟨rfl,j⟩;go_wp2;go_ret;exact ⟨Z08 i.out.symm,Z00 g.out j⟩}
 {have i:Hid (badType t=true):=Y1 (by rw[m.out,decide_eq_false b]; rfl);have z: (Shp.check t !=0)=true:=by simpa using b
  have y: (Shp.check t==0)=false:=by simpa using b
  clear b;go_enter Tryz.func145,Tryz.ntmps145
  go_wp2_with fail
  refine f.mono ?_;rintro e o ⟨rfl,a⟩;go_wp2;go_ret;exact ⟨Z08 i.out.symm,Z00 d.out a⟩}
section
variable (P : Option Addr) (d : Nat) (l : List Sh) (w : World) (hl : l.length <= 9223372036854775807) (hp : ShsAt w w.heap.size P l) (hg : WGlobs w) (hf : True)
include P d l w hl hp hg hf
theorem Za4:
 Y9 171 #[.slice P l.length d,.func (.func 145) #[] #[]] w (.int .i64 (placeG badType l)):=by
 have y:=Y1 hp;have z:=Y1 hf;have u:=Y1 hg;clear hg;clear hp hf;go_enter Tryz.func171,Tryz.ntmps171
 go_wp2_with fail
 go_loopw [8] (fun ii wr=> ∃i:Nat,ii= .int .i64 i/\i<=l.length/\Hid (∀j (h:j < l.length),j < i->badType (l[j]'h)=false)/\Below w.heap.size w wr) (fun i _=>l.length - (intOf i).toNat)
 case atStart=>exact ⟨0,rfl,Nat.zero_le _,Y1 (fun j _ hj=>absurd hj (by omega)),Below.refl _ _⟩
 case round=>
  obtain ⟨i,rfl,B,o,k⟩:=hrel;by_cases b:i < l.length
  {rcases y.out.next k with A | ⟨g,off,qs,rfl,hg,s,t⟩
   {omega}
   {obtain ⟨x,n⟩: ∃x,x=l[i]'b:=⟨_,rfl⟩;obtain ⟨p0,p1,p2,p3,p4⟩:=s i b;have f:ShAt wr wr.heap.size (qs i) x:=by rw[n]; exact t i b
    rw[<-n] at p0 p1 p2 p3 p4;have m:=Z8T x (qs i) wr f (u.out.next k);have r:=Y1 n;clear n s t f;have q: (i:Int) < (l.length:Int):=by omega
    cases a:badType x with
    | true=>
     rw[a] at m;have p:Hid (placeG badType l=(i:Int)):=Y1 (Z2J b (by show badType _=true; rw[<-r.out]; exact a) (fun j hj hji=>o.out j hj hji));clear a
     go_wp2_with fail
     refine m.mono ?_;rintro e w' ⟨rfl,c⟩;go_wp2;go_ret;exact ⟨Z0p p.out.symm,Z00 k c⟩
    | false=>
     rw[a] at m;have v:=Y1 a;clear a
     go_wp2_with fail
     refine m.mono ?_;rintro e w' ⟨rfl,c⟩;go_wp2
     go_roundw
     case rel=>exact ⟨i+1,by go_num,by omega,Y1 (fun j hj hji=>by
      rcases Nat.lt_succ_iff_lt_or_eq.1 hji with h | rfl
      {exact o.out j hj h}
      · rw[<-r.out]; exact v.out),Z00 k c⟩
     case measure=>simp[intOf]; omega}}
  {have q: ¬(i:Int) < (l.length:Int):=by omega
   have p:Hid (placeG badType l= -1):=Y1 (Z1O (fun j hj=>o.out j hj (by omega)));go_wp2;go_ret;exact ⟨Z0p p.out.symm,k⟩}
theorem Z6I:
 Y9 141 #[.slice P l.length d,.func (.func 145) #[] #[]] w (.bool (l.any badType)):=by
 have c:=Za4 P d l w hl hp hg hf;have f:=Y1 (Z2a badType l);have b:=Z3i badType l;generalize placeG badType l=r at c f b;clear hp hf;go_enter Tryz.func141,Tryz.ntmps141
 go_wp2_with fail
 refine c.mono ?_;rintro e w' ⟨rfl,a⟩;go_wp2;go_ret;exact ⟨Z08 f.out,a⟩
end
theorem Z7E (P:Option Addr) (d:Nat) (l:List Sh) (w:World) (b:ShsAt w w.heap.size P l) (h:l.length<=9223372036854775807) (g:WGlobs w):
 Y9 113 #[.slice P l.length d] w (.bool (shapesOk l)):=by
 have a:=Z6I P d l w h b g trivial;have c:Hid (l.any badType= !shapesOk l):=Y1 (Z6w (fun s=>decide (Shp.check s=0)&& !hasOpaque s) l);rw[c.out] at a;clear b;go_enter Tryz.func113,Tryz.ntmps113
 go_wp2_with fail
 refine a.mono ?_;rintro e w' ⟨rfl,f⟩;go_wp2;go_ret;exact ⟨Z08 (by simp),f⟩
theorem Z6n (l:List (List UInt8)): ∀k,k<=l.length->Maps.size (seenOf l k)<=k/\(Maps.size (seenOf l k)=k ↔ (l.take k).Nodup)
 | 0,_=>by rw[Z4L]; simp[Maps.size]
 | k+1,hk=>by
  obtain ⟨i,f⟩:=Z6n l k (by omega);have g:Tidy (seenOf l k):=tidy_setOf _ _ (fun y hy=>by obtain ⟨_,_,rfl⟩:=List.mem_map.1 hy; trivial);rw[Z4M l k hk,size_put g,Z8u,Shp.Z1v hk,List.nodup_append];cases c: (l.take k).contains (l[k]'hk) with
  | true=>
   have d:=List.contains_iff_mem.1 c;rw[if_pos rfl];refine ⟨by omega,fun h=>by omega,fun ⟨_,_,h⟩=>absurd rfl (h _ d _ (by simp))⟩
  | false=>
   have d:l[k]'hk∉l.take k:=fun h=>by rw[List.contains_iff_mem.2 h] at c; cases c
   rw[if_neg (by decide)];refine ⟨by omega,fun h=>⟨f.1 (by omega),by simp,fun a ha b hb e=> ?_⟩,fun ⟨h,_,_⟩=>by rw[f.2 h]⟩;obtain rfl:b=l[k]'hk:=by simpa using hb
   exact d (e▸ha)
theorem ZbQ (l:List (List UInt8)): (((Maps.size (seenOf l l.length):Nat):Int)==(l.length:Int))=Shp.noDup l:=by
 obtain ⟨_,h⟩:=Z6n l l.length (Nat.le_refl _);rw[List.take_length, <-Shp.Z6O] at h;rw[Bool.eq_iff_iff, <-h,beq_iff_eq];omega
theorem Z7F (A:Option Addr) (c:Nat) (l:List (List UInt8)) (w:World) (s:Strs w w.heap.size A (strs l)) (G:l.length<=9223372036854775807) (m: ∀x∈l,x.length<=9223372036854775807):
 Y9 112 #[.slice A l.length c] w (.bool (Shp.noDup l)):=by
 have C:= @run_makeMap Tryz.prog;have u:=Y1 s;have B:=Y1 m;have y:=Y1 (ZbQ l);clear s m;go_enter Tryz.func112,Tryz.ntmps112
 go_wp2_with fail
 go_loopw [9] (fun ii wr=> ∃k:Nat,k<=l.length/\ii= .int .i64 k/\wr.ownsMap Tryz.prog 9 unitElem w.heap.size k (seenOf l k)/\Below w.heap.size w wr)
  (fun i _=>l.length - (intOf i).toNat)
 case atStart=>exact ⟨0,Nat.zero_le _,rfl,by rw[Z4L]; exact World.ownsMap_made _ _ _ _,Y2.alloc (Nat.le_refl _) _⟩
 case round=>
  obtain ⟨k,F,rfl,a,n⟩:=hrel;by_cases f:k < l.length
  {have q: (k:Int) < (l.length:Int):=by omega
   rcases (u.out.next n).cell7 with D | ⟨g,off,rfl,E,t⟩
   {omega}
   {have e:=t k f;obtain ⟨x,m⟩: ∃x,x=l[k]'f:=⟨_,rfl⟩;rw[<-m] at e;have r:x.length<=9223372036854775807:=by rw[m]; exact B.out _ (List.getElem_mem _)
    have v:=Y1 m;have p:keyOf Tryz.prog 9 (.string ⟨x.toArray⟩)=some (.string x):=keyOf_string_mk Tryz.underlying9 (by rw[Z07]; unfold maxLen; exact r);clear m t;have b:=Y1 n;clear n
    go_wp2_with (at_mapUpdate; refine wpList_mapUpdate_own _ rfl _ _ _ 175 rfl 9 176 Z3J Tryz.underlying175 (unitElem (H:=Unit)) w.heap.size k _ rfl a (by unfold maxLen; omega) _ _ _ rfl rfl p _ [] unitElem_mk ?_; intro J h d)
    go_roundw
    case rel=>
     refine ⟨k+1,by omega,by go_num, ?_, ?_⟩
     {rw[Z4M l k f, <-v.out]; exact h}
     {exact b.out.grown d b.out.size (fun j hj=>by cases hj; exact Nat.le_refl _)}
    case measure=>simp[intOf]; omega}}
  {have o:k=l.length:=by omega
   have z:Hid (wr.ownsMap Tryz.prog 9 (unitElem (H:=Unit)) w.heap.size l.length (seenOf l l.length)):=Y1 (by rw[<-o]; exact a);have q: ¬(k:Int) < (l.length:Int):=by omega
   have b:=Y1 n;have I:=y.out;clear n a o
   go_wp2_with (at_len; refine wpList_len_own _ rfl _ 175 rfl 9 176 Tryz.underlying175 _ w.heap.size l.length (seenOf l l.length) rfl z.out ?_)
   go_ret;exact ⟨rfl,b.out⟩}
end
section
open Go.RowKit Tms
open Shp (Sh)
theorem Z8U (t:Tm) (q:TP) (w:World) (hs:TSmall t q) (hmn:t.names.length<=9223372036854775806):
 Calls Tryz.prog 110 #[.agg #[.int .i64 t.kind,.string ⟨t.of_.toArray⟩,.string ⟨t.name.toArray⟩,.int .i64 t.n,.slice q.A t.names.length q.c,.slice q.V t.vars.length q.e,.slice q.S t.shapes.length q.s,.slice q.P t.parts.length q.d,.int .i64 t.at_]] w fun e w'=>e= .returned (.bool (cntB t))/\Below w.heap.size w w':=by
 unfold cntB;have hv:=hs.v;have hsh:=hs.sh;have hm:=hs.m;generalize t.names.length=n at *;generalize t.vars.length=v at *;generalize t.shapes.length=s at *;generalize t.parts.length=p at *;generalize t.kind=k;clear hs;by_cases h:k < 1\/17 < k
 {have:cntN k n v s p=false:=by
   unfold cntN;rw[if_neg (by omega),if_neg (by omega),if_neg (by omega),if_neg (by omega),if_neg (by omega),if_neg (by omega),if_neg (by omega),if_neg (by omega),if_neg (by omega),if_neg (by omega)]
  rw[this];exact ZfY k _ _ _ _ _ _ _ _ _ _ _ _ _ _ _ _ w h hmn hv hsh hm}
 have:k=1\/k=2\/k=3\/k=4\/k=5\/k=6\/k=7\/k=8\/k=9\/k=10\/k=11\/k=12\/k=13\/k=14\/k=15\/k=16\/k=17:=by omega
 rcases this with rfl | rfl | rfl | rfl | rfl | rfl | rfl | rfl | rfl | rfl | rfl | rfl | rfl | rfl | rfl | rfl | rfl
 {exact Zgg _ _ _ _ _ _ _ _ _ _ _ _ _ _ _ _ w hmn hv hsh hm}
 {exact Zgh _ _ _ _ _ _ _ _ _ _ _ _ _ _ _ _ w hmn hv hsh hm}
 {exact Zgi _ _ _ _ _ _ _ _ _ _ _ _ _ _ _ _ w hmn hv hsh hm}
 {exact Zgj _ _ _ _ _ _ _ _ _ _ _ _ _ _ _ _ w hmn hv hsh hm}
 {exact Zgk _ _ _ _ _ _ _ _ _ _ _ _ _ _ _ _ w hmn hv hsh hm}
 {exact Zgl _ _ _ _ _ _ _ _ _ _ _ _ _ _ _ _ w hmn hv hsh hm}
 {exact Zgm _ _ _ _ _ _ _ _ _ _ _ _ _ _ _ _ w hmn hv hsh hm}
 {exact Zgn _ _ _ _ _ _ _ _ _ _ _ _ _ _ _ _ w hmn hv hsh hm}
 {exact Zgo _ _ _ _ _ _ _ _ _ _ _ _ _ _ _ _ w hmn hv hsh hm}
 {exact ZfQ _ _ _ _ _ _ _ _ _ _ _ _ _ _ _ _ w hmn hv hsh hm}
 {exact ZfR _ _ _ _ _ _ _ _ _ _ _ _ _ _ _ _ w hmn hv hsh hm}
 {exact ZfS _ _ _ _ _ _ _ _ _ _ _ _ _ _ _ _ w hmn hv hsh hm}
 {exact ZfT _ _ _ _ _ _ _ _ _ _ _ _ _ _ _ _ w hmn hv hsh hm}
 {exact ZfU _ _ _ _ _ _ _ _ _ _ _ _ _ _ _ _ w hmn hv hsh hm}
 {exact ZfV _ _ _ _ _ _ _ _ _ _ _ _ _ _ _ _ w hmn hv hsh hm}
 {exact ZfW _ _ _ _ _ _ _ _ _ _ _ _ _ _ _ _ w hmn hv hsh hm}
 {exact ZfX _ _ _ _ _ _ _ _ _ _ _ _ _ _ _ _ w hmn hv hsh hm}
theorem ZbR (t:Tm) (q:TP) (w:World) (f:TmAt w w.heap.size q t) (N:WGlobs w) (O:Z0J w) (A:t.names.length<=9223372036854775806):
 Y9 78 #[.agg (Y7 t q)] w (.bool (fits t)):=by
 have L:=Y1 (Z1c w t q);have o:=Y1 (Z01 w (.cells (Y7 t q) 26));have D:=Y1 (fun (W:World) (h:Below w.heap.size w W)=>Z8i t q W);have E:=Y1 (fun (W:World) (h:Below w.heap.size w W)=>Za2 t q W f.small.o);have F:=Y1 (fun (W:World) (h:Below w.heap.size w W)=>Z7D t q W f.small.n (O.next h));have G:=Y1 (fun (W:World) (h:Below w.heap.size w W)=>Z8U t q W f.small A);have H:=Y1 (fun (W:World) (h:Below w.heap.size w W)=>Z3P q.A q.c t.names W (f.next h).strs f.small.l f.small.ns);have I:=Y1 (fun (W:World) (h:Below w.heap.size w W)=>Z7F q.A q.c t.names W (f.next h).strs f.small.l f.small.ns);have J:=Y1 (fun (W:World) (h:Below w.heap.size w W)=>Z3P q.V q.e t.vars W (f.next h).vars f.small.v f.small.vs);have K:=Y1 (fun (W:World) (h:Below w.heap.size w W)=>Z7E q.S q.s t.shapes W (f.next h).shapes f.small.sh (N.next h));have b:Hid (fits t=(decide (0<=t.at_)&&numB t&&ofB t&&nameB t&&cntB t&&t.names.all Lex.isName&&Shp.noDup t.names&&t.vars.all Lex.isName&&shapesOk t.shapes)):=Y1 (Ze6 t).symm;generalize numB t=b1 at D b;generalize ofB t=b2 at E b;generalize nameB t=b3 at F b;generalize cntB t=b4 at G b;generalize t.names.all Lex.isName=b5 at H b;generalize Shp.noDup t.names=b6 at I b;generalize t.vars.all Lex.isName=b7 at J b;generalize shapesOk t.shapes=b8 at K b;obtain ⟨_,⟨c,c1,c2,c3,c4,c5,c6,c7,d⟩,_⟩:=L.out;clear f N O A;by_cases M:0<=t.at_
 {rw[decide_eq_true M] at b;go_enter Tryz.func78,Tryz.ntmps78
  go_wp2_with fail
  refine (D.out _ o.out).mono ?_;rintro e P ⟨rfl,a⟩;have g:=Y1 (Z00 o.out a);have p:=Y1 (L.out.next a);clear a c c1 c2 c3 c4 c5 c6 c7 d;obtain ⟨_,⟨c,c1,c2,c3,c4,c5,c6,c7,d⟩,_⟩:=p.out;cases b1
  {go_wp2;go_ret;exact ⟨Z08 (by rw[b.out]; simp),g.out⟩}
  go_wp2_with fail
  refine (E.out _ g.out).mono ?_;rintro e Q ⟨rfl,a⟩;have i:=Y1 (Z00 g.out a);have r:=Y1 (p.out.next a);clear a c c1 c2 c3 c4 c5 c6 c7 d;obtain ⟨_,⟨c,c1,c2,c3,c4,c5,c6,c7,d⟩,_⟩:=r.out;cases b2
  {go_wp2;go_ret;exact ⟨Z08 (by rw[b.out]; simp),i.out⟩}
  go_wp2_with fail
  refine (F.out _ i.out).mono ?_;rintro e S ⟨rfl,a⟩;have j:=Y1 (Z00 i.out a);have s:=Y1 (r.out.next a);clear a c c1 c2 c3 c4 c5 c6 c7 d;obtain ⟨_,⟨c,c1,c2,c3,c4,c5,c6,c7,d⟩,_⟩:=s.out;cases b3
  {go_wp2;go_ret;exact ⟨Z08 (by rw[b.out]; simp),j.out⟩}
  go_wp2_with fail
  refine (G.out _ j.out).mono ?_;rintro e T ⟨rfl,a⟩;have k:=Y1 (Z00 j.out a);have u:=Y1 (s.out.next a);clear a c c1 c2 c3 c4 c5 c6 c7 d;obtain ⟨_,⟨c,c1,c2,c3,c4,c5,c6,c7,d⟩,_⟩:=u.out;cases b4
  {go_wp2;go_ret;exact ⟨Z08 (by rw[b.out]; simp),k.out⟩}
  go_wp2_with fail
  refine (H.out _ k.out).mono ?_;rintro e U ⟨rfl,a⟩;have l:=Y1 (Z00 k.out a);have v:=Y1 (u.out.next a);clear a c c1 c2 c3 c4 c5 c6 c7 d;obtain ⟨_,⟨c,c1,c2,c3,c4,c5,c6,c7,d⟩,_⟩:=v.out;cases b5
  {go_wp2;go_ret;exact ⟨Z08 (by rw[b.out]; simp),l.out⟩}
  go_wp2_with fail
  refine (I.out _ l.out).mono ?_;rintro e V ⟨rfl,a⟩;have m:=Y1 (Z00 l.out a);have y:=Y1 (v.out.next a);clear a c c1 c2 c3 c4 c5 c6 c7 d;obtain ⟨_,⟨c,c1,c2,c3,c4,c5,c6,c7,d⟩,_⟩:=y.out;cases b6
  {go_wp2;go_ret;exact ⟨Z08 (by rw[b.out]; simp),m.out⟩}
  go_wp2_with fail
  refine (J.out _ m.out).mono ?_;rintro e X ⟨rfl,a⟩;have n:=Y1 (Z00 m.out a);have z:=Y1 (y.out.next a);clear a c c1 c2 c3 c4 c5 c6 c7 d;obtain ⟨_,⟨c,c1,c2,c3,c4,c5,c6,c7,d⟩,_⟩:=z.out;cases b7
  {go_wp2;go_ret;exact ⟨Z08 (by rw[b.out]; simp),n.out⟩}
  go_wp2_with fail
  refine (K.out _ n.out).mono ?_;rintro e Y ⟨rfl,a⟩;have B:=Y1 (Z00 n.out a);have C:=Y1 (z.out.next a);clear a c c1 c2 c3 c4 c5 c6 c7 d;obtain ⟨_,⟨c,c1,c2,c3,c4,c5,c6,c7,d⟩,_⟩:=C.out;go_wp2;go_ret;exact ⟨Z08 (by rw[b.out]; simp),B.out⟩}
 {rw[decide_eq_false M] at b;go_enter Tryz.func78,Tryz.ntmps78;go_wp2;go_ret;exact ⟨Z08 (by rw[b.out]; simp),o.out⟩}
theorem Zdw (l:List Tm):l.any (fun p=> !right p)= !rights l:=by rw[rights_all]; exact Z6w right l
def wrong (t:Tm):Bool:= !right t
def TmsIn (w:World) (B:Nat) (P:Option Addr) (l:List Tm):Prop:=
 l.length=0\/ ∃(g off:Nat) (qs:Nat->TP),P=some ⟨g,off,none⟩/\g < B/\(∀i (h:i < l.length),Tm9 w g (off+i * 9) (l[i]'h) (qs i))/\ ∀i (h:i < l.length),TmAt w B (qs i) (l[i]'h)
theorem TmsIn.next {w w':World} {P:Option Addr} {l:List Tm} (h:TmsIn w w.heap.size P l) (a:Below w.heap.size w w'):TmsIn w' w'.heap.size P l:=by
 rcases h with h | ⟨g,off,qs,c,b,d,e⟩
 {exact Or.inl h}
 {exact Or.inr ⟨g,off,qs,c,Nat.lt_of_lt_of_le b a.size,fun i hi=>(d i hi).keep b a,fun i hi=>(e i hi).next a⟩}
section
variable (P : Option Addr) (d : Nat) (l : List Tm) (w : World) (hl : l.length <= 9223372036854775807) (hp : TmsIn w w.heap.size P l) (hg : WGlobs w) (hu : Z0J w) (hf : ∀ x ∈ l, ∀ (q : TP) (w : World), TmAt w w.heap.size q x -> WGlobs w -> Z0J w -> Y9 46 #[.agg (Y7 x q)] w (.bool (wrong x)))
include P d l w hl hp hg hu hf
theorem Za5:
 Y9 114 #[.slice P l.length d,.func (.func 46) #[] #[]] w (.int .i64 (placeG wrong l)):=by
 have B:=Y1 hp;have y:=Y1 hf;have z:=Y1 hg;have C:=Y1 hu;clear hg hu;clear hp hf;go_enter Tryz.func114,Tryz.ntmps114
 go_wp2_with fail
 go_loopw [8] (fun ii wr=> ∃i:Nat,ii= .int .i64 i/\i<=l.length/\Hid (∀j (h:j < l.length),j < i->wrong (l[j]'h)=false)/\Below w.heap.size w wr) (fun i _=>l.length - (intOf i).toNat)
 case atStart=>exact ⟨0,rfl,Nat.zero_le _,Y1 (fun j _ hj=>absurd hj (by omega)),Below.refl _ _⟩
 case round=>
  obtain ⟨i,rfl,H,p,k⟩:=hrel;by_cases b:i < l.length
  {rcases B.out.next k with G | ⟨g,off,qs,rfl,hg,u,v⟩
   {omega}
   {obtain ⟨x,o⟩: ∃x,x=l[i]'b:=⟨_,rfl⟩;obtain ⟨p0,p1,p2,p3,p4,p5,D,E,F⟩:=u i b;have m:TmAt wr wr.heap.size (qs i) x:=by rw[o]; exact v i b
    have f:=y.out l[i] (List.getElem_mem _) (qs i) wr;rw[<-o] at p0 p1 p2 p3 p4 p5 D E F f;have n:=f m (z.out.next k) (C.out.next k);have t:=Y1 o;clear o u v m f;have s: (i:Int) < (l.length:Int):=by omega
    cases a:wrong x with
    | true=>
     rw[a] at n;have r:Hid (placeG wrong l=(i:Int)):=Y1 (Z2J b (by show wrong _=true; rw[<-t.out]; exact a) (fun j hj hji=>p.out j hj hji));clear a
     go_wp2_with fail
     refine n.mono ?_;rintro e w' ⟨rfl,c⟩;go_wp2;go_ret;exact ⟨Z0p r.out.symm,Z00 k c⟩
    | false=>
     rw[a] at n;have A:=Y1 a;clear a
     go_wp2_with fail
     refine n.mono ?_;rintro e w' ⟨rfl,c⟩;go_wp2
     go_roundw
     case rel=>exact ⟨i+1,by go_num,by omega,Y1 (fun j hj hji=>by
      rcases Nat.lt_succ_iff_lt_or_eq.1 hji with h | rfl
      {exact p.out j hj h}
      · rw[<-t.out]; exact A.out),Z00 k c⟩
     case measure=>simp[intOf]; omega}}
  {have s: ¬(i:Int) < (l.length:Int):=by omega
   have r:Hid (placeG wrong l= -1):=Y1 (Z1O (fun j hj=>p.out j hj (by omega)));go_wp2;go_ret;exact ⟨Z0p r.out.symm,k⟩}
theorem Z6J:
 Y9 79 #[.slice P l.length d,.func (.func 46) #[] #[]] w (.bool (l.any wrong)):=by
 have c:=Za5 P d l w hl hp hg hu hf;have f:=Y1 (Z2a wrong l);have b:=Z3i wrong l;generalize placeG wrong l=r at c f b;clear hp hf;go_enter Tryz.func79,Tryz.ntmps79
 go_wp2_with fail
 refine c.mono ?_;rintro e w' ⟨rfl,a⟩;go_wp2;go_ret;exact ⟨Z08 f.out,a⟩
end
theorem Z7G (t:Tm): ∀(q:TP) (w:World),TmAt w w.heap.size q t->WGlobs w->Z0J w->few t=true->
 Y9 46 #[.agg (Y7 t q)] w (.bool (wrong t)):=by
 induction t using Tm.ind with
 | h t ih=>
 intro q w g k l b;have hb0:=Z01 w (.cells (Y7 t q) 26);have f:=ZbR t q _ (g.next hb0) (k.next hb0) (l.next hb0) (Zfe b);have r:=Y1 (fun W (h:Below w.heap.size w W)=>Z6J q.P q.d t.parts W g.small.m (by
  rcases (g.next h).part with v | y
  {exact Or.inl v}
  · exact Or.inr y) (k.next h) (l.next h) (fun x hx q' w' hat hg' hu'=>ih x hx q' w' hat hg' hu' (Ze7 b hx)))
 have n:=Y1 (right_eq t);have p:=Y1 (Zdw t.parts);have o:Hid (wrong t= !right t):=Y1 rfl;have c:=Y1 hb0;have m:=Y1 (Z1c w t q);obtain ⟨_,⟨s,c1,c2,c3,c4,c5,c6,c7,u⟩,_⟩:=m.out;clear hb0 g k l ih b;cases hft:fits t
 {have i:Hid (wrong t=true):=Y1 (by rw[o.out,n.out,hft]; rfl);rw[hft] at f;clear hft;go_enter Tryz.func46,Tryz.ntmps46
  go_wp2_with fail
  refine f.mono ?_;rintro e w' ⟨rfl,a⟩;go_wp2;go_ret;exact ⟨by rw[i.out]; rfl,Z00 c.out a⟩}
 {have i:Hid (wrong t=t.parts.any wrong):=Y1 (by rw[o.out,n.out,hft,show t.parts.any wrong=_ from p.out]; rfl);rw[hft] at f;clear hft;go_enter Tryz.func46,Tryz.ntmps46
  go_wp2_with fail
  refine f.mono ?_;rintro e A ⟨rfl,a⟩;have d:=Z00 c.out a;have z:=r.out A d;obtain ⟨_,⟨B,d1,d2,d3,d4,d5,d6,d7,C⟩,_⟩:=m.out.next a;clear f s c1 c2 c3 c4 c5 c6 c7 u a
  go_wp2_with fail
  refine z.mono ?_;rintro e w' ⟨rfl,j⟩;go_wp2;go_ret;exact ⟨Z08 i.out.symm,Z00 d j⟩}
section
variable (t : Tm) (q : TP) (w : World) (hq : TmAt w w.heap.size q t) (hg : WGlobs w) (hu : Z0J w) (hfew : few t = true)
include t q w hq hg hu hfew
theorem Z2d:
 Y9 31 #[.agg (Y7 t q)] w (.int .i64 (check t)):=by
 have hb0:=Z01 w (.cells (Y7 t q) 26);have l:=Z7n t q _ (hq.next hb0);have p:Hid (check t=if 4096 < size t then 3 else if 40 < deep t then 91 else if right t=false then 80 else 0):=Y1 rfl;have f:=Y1 hb0;have u:=Y1 (Z1c w t q);have B:=Y1 hq;have A:=Y1 hg;have C:=Y1 hu;obtain ⟨_,⟨y,c1,c2,c3,c4,c5,c6,c7,z⟩,_⟩:=u.out;obtain ⟨m,d⟩: ∃m,m=min (size t) 4097:=⟨_,rfl⟩;rw[<-d] at l;clear hb0 hq hg hu;by_cases j:4096 < size t
 {have i:Hid (check t=3):=Y1 (by rw[p.out,if_pos j]);have D: (4096:Int) < (m:Int):=by omega
  clear j d;go_enter Tryz.func31,Tryz.ntmps31
  go_wp2_with fail
  refine l.mono ?_;rintro e w' ⟨r,rfl,_,_,b⟩;go_wp2;go_ret;exact ⟨Z0p i.out.symm,Z00 f.out b⟩}
 {have D: ¬(4096:Int) < (m:Int):=by omega
  have v:=Y1 (show size t<=4096 by omega);by_cases a:40 < deep t
  {have i:Hid (check t=91):=Y1 (by rw[p.out,if_neg j,if_pos a]);have g:=Y1 a;clear j d a;go_enter Tryz.func31,Tryz.ntmps31
   go_wp2_with fail
   refine l.mono ?_;rintro e w' ⟨r,rfl,hr,_,b⟩;have E: (40:Int) < (r:Int):=by have:=hr v.out; have:=g.out; omega
   clear hr;go_wp2;go_ret;exact ⟨Z0p i.out.symm,Z00 f.out b⟩}
  {have i:Hid (check t=if right t=false then 80 else 0):=Y1 (by rw[p.out,if_neg j,if_neg a]);have g:=Y1 a;have s:Hid (wrong t= !right t):=Y1 rfl;clear j d a;go_enter Tryz.func31,Tryz.ntmps31
   go_wp2_with fail
   refine l.mono ?_;rintro e F ⟨r,rfl,hr',_,h⟩;have E: ¬(40:Int) < (r:Int):=by have:=hr' v.out; have:=g.out; omega
   have c:=Z00 f.out h;have k:=Y1 c;have o:=Y1 (u.out.next h);have hr:=Z7G t q F (B.out.next c) (A.out.next c) (C.out.next c) hfew;rw[s.out] at hr;clear l h c hr' y c1 c2 c3 c4 c5 c6 c7 z;obtain ⟨_,⟨y,c1,c2,c3,c4,c5,c6,c7,z⟩,_⟩:=o.out;cases n:right t
   all_goals
    rw[n] at hr i;clear n
    go_wp2_with fail
    refine hr.mono ?_;rintro e w' ⟨rfl,b⟩;go_wp2;go_ret;exact ⟨Z0p (by rw[i.out]; rfl),Z00 k.out b⟩}}
theorem ZhT:
 Y9 17 #[.agg (Y7 t q)] w (.bool (decide (check t=0))):=by
 have hb0:=Z01 w (.cells (Y7 t q) 26);have c:=Z2d t q _ (hq.next hb0) (hg.next hb0) (hu.next hb0) hfew;have a:=Y1 hb0;obtain ⟨_,⟨d,c1,c2,c3,c4,c5,c6,c7,f⟩,_⟩:=Z1c w t q;clear hb0 hq hg hu;go_enter Tryz.func17,Tryz.ntmps17
 go_wp2_with fail
 refine c.mono ?_;rintro e w' ⟨rfl,b⟩;go_wp2;go_ret;exact ⟨Z08 (by rw[Bool.eq_iff_iff]; simp),Z00 a.out b⟩
end
end
section
open Go.RowKit Tms
open Shp (Sh)
open Pso (St Ok Goes betw loop want)
theorem ZaE (w:World) (x:Tk): (w.alloc (.cells #[.int .i64 x.t.kind,.string ⟨x.t.text.toArray⟩,.int .i64 x.at_] 54)).cell? ⟨w.heap.size,0,none⟩=some (.int .i64 x.t.kind)/\(w.alloc (.cells #[.int .i64 x.t.kind,.string ⟨x.t.text.toArray⟩,.int .i64 x.at_] 54)).cell? ⟨w.heap.size,1,none⟩=some (.string ⟨x.t.text.toArray⟩)/\(w.alloc (.cells #[.int .i64 x.t.kind,.string ⟨x.t.text.toArray⟩,.int .i64 x.at_] 54)).cell? ⟨w.heap.size,2,none⟩=some (.int .i64 x.at_):=by
 refine ⟨?_, ?_, ?_⟩ <;> simp[go_sem]
theorem ZbS (bp:Nat) (A:Option Addr) (c:Nat) (l:List Tk) (σ:St) (B:l.length<=5000) (v:Ok l σ) (w:World) (h:PAt w bp A c l σ):
 Calls Tryz.prog 63 #[.pointer (some ⟨bp,0,none⟩)] w fun e w'=>e= .returned (.int .i64 (Prs.look l σ.1).at_)/\PAt w' bp A c l (Pso.begin_ l σ)/\UpT [bp] w w':=by
 have r:Hid (Pso.begin_ l σ=if (Prs.look l σ.1).at_ < 0 then Pso.misfit l σ else σ):=Y1 rfl;rw[r.out];have i:=Y1 (Z1o bp A c l σ (by omega) v.1 w h);have k:=Y1 (fun (w:World) (h:PAt w bp A c l σ)=>Z2z bp A c l σ (by omega) v.1 w h);have m:=Y1 h;obtain ⟨x,u⟩: ∃x,x=Prs.look l σ.1:=⟨_,rfl⟩;rw[<-u] at i ⊢;clear h r u;have q:=Y1 (fun (w:World)=>ZaE w x);by_cases s:x.at_ < 0
 {rw[if_pos s];go_enter Tryz.func63,Tryz.ntmps63
  go_wp2_with fail
  refine i.out.mono ?_;rintro e g ⟨rfl,a⟩;have y:=Y1 a;obtain ⟨p,t1,j⟩:=q.out g;have tl:g.heap.size < (g.alloc (.cells #[.int .i64 x.t.kind,.string ⟨x.t.text.toArray⟩,.int .i64 x.at_] 54)).heap.size:=by simp
  have b:=Y1 ((m.out.below a).alloc (.cells #[.int .i64 x.t.kind,.string ⟨x.t.text.toArray⟩,.int .i64 x.at_] 54));have d:=Y1 ((Z05 (F:= [bp]) a).alloc (.cells #[.int .i64 x.t.kind,.string ⟨x.t.text.toArray⟩,.int .i64 x.at_] 54));have z:bp < g.heap.size:=Nat.lt_of_lt_of_le m.out.lt a.size;clear a i
  go_wp2_with fail
  generalize g.alloc (.cells #[.int .i64 x.t.kind,.string ⟨x.t.text.toArray⟩,.int .i64 x.at_] 54)=W1 at b d p t1 j tl ⊢;refine (k.out W1 b.out).mono ?_;rintro e E ⟨rfl,hp2,f⟩;have t:=f.same tl (by simp; omega);have C:=(t.1 2).trans j;have D:=Nat.lt_of_lt_of_le tl f.size;have n:=Y1 hp2;have o:=Y1 (d.out.trans f);clear hp2 f t p t1 j tl;go_wp2;go_ret;exact ⟨rfl,n.out,o.out⟩}
 {rw[if_neg s];go_enter Tryz.func63,Tryz.ntmps63
  go_wp2_with fail
  refine i.out.mono ?_;rintro e g ⟨rfl,a⟩;obtain ⟨p,t1,j⟩:=q.out g;have b:=Y1 ((m.out.below a).alloc (.cells #[.int .i64 x.t.kind,.string ⟨x.t.text.toArray⟩,.int .i64 x.at_] 54));have d:=Y1 ((Z05 (F:= [bp]) a).alloc (.cells #[.int .i64 x.t.kind,.string ⟨x.t.text.toArray⟩,.int .i64 x.at_] 54));clear a i;go_wp2;go_ret;exact ⟨rfl,b.out,d.out⟩}
theorem Z2p (W:World) (t:TB) (a:TBok t): (⟨mkT t TR.none_,mkQ TR.none_,W.heap.size,W.heap.size⟩:ET).Is W:=
 Z6k t TR.none_ a (Row.start _ _ _ _ _) (Row.start _ _ _ _ _) (Row.start _ _ _ _ _) (Row.start _ _ _ _ _) nofun nofun nofun nofun ⟨Nat.zero_le _,Nat.zero_le _,Nat.zero_le _,Nat.zero_le _⟩
theorem Z1Y (t:TB):few (mkT t TR.none_)=true:=Z1E t TR.none_ (Nat.zero_le _) nofun
theorem Za6 (s:List UInt8) (g:s.length<=1000000) (w:World) (d:Gl w):
 Y9 133 #[.string ⟨s.toArray⟩] w (.bool (Pso.isText s)):=by
 have b:=Y1 (Z2d (mkT ⟨2,[],s,0,0⟩ TR.none_) (mkQ TR.none_) w (Z2p w ⟨2,[],s,0,0⟩ ⟨by simp,g,by simp,by simp,by simp⟩).here d.s d.u (Z1Y _));have c:Hid (Pso.isText s=decide (Tms.check (mkT ⟨2,[],s,0,0⟩ TR.none_)=0)):=Y1 rfl;rw[c.out];generalize Tms.check (mkT ⟨2,[],s,0,0⟩ TR.none_)=k at b ⊢;have e: (k==0)=decide (k=0):=rfl;rw[<-e];clear e c;go_enter Tryz.func133,Tryz.ntmps133
 go_wp2_with fail
 refine b.out.mono ?_;rintro e h ⟨rfl,a⟩;have f:=Y1 a;clear a;go_wp2;go_ret;exact ⟨rfl,f.out⟩
theorem Row.oneT {W:World} {B:Nat} (x:ET) (a:B<=W.heap.size):Row (W.alloc (.cells (Y7 x.t x.q) 26)) B 26 9 cT (some ⟨W.heap.size,0,none⟩) 1 [x]:=by
 have:=World.ownsRow_lit (base:=B) (e:=26) (size:=9) W (Y7 x.t x.q) 1 a (by decide) rfl;exact this
abbrev XNine (W:World) (b:Nat) (x:ET):Prop:=Nine W b (.int .i64 x.t.kind) (.string ⟨x.t.of_.toArray⟩) (.string ⟨x.t.name.toArray⟩) (.int .i64 x.t.n) (.slice x.q.A x.t.names.length x.q.c) (.slice x.q.V x.t.vars.length x.q.e) (.slice x.q.S x.t.shapes.length x.q.s) (.slice x.q.P x.t.parts.length x.q.d) (.int .i64 x.t.at_)
theorem Z6K (bp:Nat) (A:Option Addr) (c:Nat) (l:List Tk) (m:Nat) (σ:St) (k:Int) (f:List UInt8) (a:Int) (hl:TokOk l) (ha: -9223372036854775808<=a/\a<=9223372036854775807) (hk:0<=k/\k<=100) (a5:f.length<=1000000) (hσ:Ok l σ) (Y:ExC bp A c l m) (hm:l.length - σ.1 < m) (w:World) (h:PAt w bp A c l σ):
 Calls Tryz.prog 131 #[.pointer (some ⟨bp,0,none⟩),.int .i64 k,.string ⟨f.toArray⟩,.int .i64 a] w (TmIs bp A c l (Pso.ofE l (Pso.expr l m) k f σ a) w):=by
 have HF:Hid (Pso.ofE l (Pso.expr l m) k f σ a=({ Prs.tm k a with name:=f,parts:= [(Pso.expr l m (want l σ [40])).1] },want l (Pso.expr l m (want l σ [40])).2 [41])):=Y1 rfl;rw[HF.out];have a3:=h.lt;have a7:=hl.len;have Z:=Pso.to_want hσ [40];have t2:=Pso.to_expr m _ Z.1;have HK:Hid (TBok ⟨k,[],f,0,a⟩):=Y1 ⟨by simp,a5,by simp,ha,hk⟩;have hb0:=Z01 w (.cells Ya 26);have X:=Z0h w (.int .i64 0) (.string ⟨#[]⟩) (.string ⟨#[]⟩) (.int .i64 0) (.slice none 0 0) (.slice none 0 0) (.slice none 0 0) (.slice none 0 0) (.int .i64 0) 26;have J:=Y1 (Z0d bp A c l σ [40] (by omega) hσ.1 _ (h.below hb0) (b:=w.heap.size+1) (by simp));have p:=Y1 (fun (w:World) (h:PAt w bp A c l (want l σ [40]))=>Y w _ Z.1 (by have:=Z.2.1; omega) h);have s:=Y1 (fun (w:World) (h:PAt w bp A c l (Pso.expr l m (want l σ [40])).2) (b:Nat) (hb:b=w.heap.size)=>Z0d bp A c l _ [41] (by omega) t2.1.1 w h hb);have G:=Y1 hb0;have L:=Y1 X;obtain ⟨y,hy⟩: ∃y,y=Pso.expr l m (want l σ [40]):=⟨_,rfl⟩;rw[<-hy] at p s ⊢;clear HF h Z t2 hb0 X hy Y hm hl;go_enter Tryz.func131,Tryz.ntmps131
 go_wp2_with fail
 refine J.out.mono ?_;rintro e w0 ⟨v0,rfl,P,j⟩;have c9:w.heap.size+1<=w0.heap.size:=by have:=j.size; simpa using this
 have H:=Y1 P;have I:=Y1 ((Z05 (F:= [bp]) G.out).trans j);have M:=Y1 (L.out.up j (by simp; omega));clear P j J G L
 go_wp2_with fail
 refine (p.out w0 H.out).mono ?_;rintro e E ⟨x,rfl,Q,n,hx,a4,V⟩;have O:w.heap.size+1<=x.lo:=by omega
 have d0:=n.size;have q:=Y1 (Q.alloc (.cells (Y7 x.t x.q) 26));have r:=Y1 ((I.out.trans n).alloc (.cells (Y7 x.t x.q) 26));have t:=Y1 (show x.Is _ from New.below hx (Z01 E (.cells (Y7 x.t x.q) 26)));have o:=Y1 (Z0h E (.int .i64 x.t.kind) (.string ⟨x.t.of_.toArray⟩) (.string ⟨x.t.name.toArray⟩) (.int .i64 x.t.n) (.slice x.q.A x.t.names.length x.q.c) (.slice x.q.V x.t.vars.length x.q.e) (.slice x.q.S x.t.shapes.length x.q.s) (.slice x.q.P x.t.parts.length x.q.d) (.int .i64 x.t.at_) 26);have u:=Y1 ((M.out.up n (by simp; omega)).below (Z01 E (.cells (Y7 x.t x.q) 26)));have K:=Y1 V;clear Q n hx a4 V p M I H;simp only[valT]
 go_wp2_with fail
 have N:=Y1 (show E.heap.size+1=(E.alloc (.cells (Y7 x.t x.q) 26)).heap.size by simp);generalize E.alloc (.cells (Y7 x.t x.q) 26)=W1 at N q r t o u ⊢;refine (s.out W1 q.out _ N.out).mono ?_;rintro e d ⟨v3,rfl,S,g⟩;have a0:=Y1 S;have a1:=Y1 (r.out.trans g);have a2:=Y1 (show x.Is d from New.up t.out g (by simp; omega));obtain ⟨r0,r1,r2,r3,r4,r5,r6,r7,r8,i,rl⟩:=u.out.up g (by simp; omega);obtain ⟨x0,x1,x2,x3,x4,x5,x6,x7,x8,xf,xl⟩:=o.out.up g (by simp; omega);have f0:=i 0;have f1:=i 1;have f2:=i 2;have f3:=i 3;have f4:=i 4;have f5:=i 5;have f6:=i 6;have f7:=i 7;have f8:=i 8;clear S g s q r t o u i xf;go_wp2;have Y:=end9 a0.out a1.out a2.out (rb:=w.heap.size) (Nat.le_refl _) (Or.inl (by omega)) a3 (.int .i64 k) (.string ⟨#[]⟩) (.string ⟨f.toArray⟩) (.int .i64 0) (.slice none 0 0) (.slice none 0 0) (.slice none 0 0) (.slice (some ⟨d.heap.size,0,none⟩) 1 1) (.int .i64 a);refine bodyPost_ret (v:=valT ⟨mkT ⟨k,[],f,0,a⟩ ⟨none,0,[],none,0,[],none,0,[],some ⟨d.heap.size,0,none⟩,1,[x]⟩,mkQ ⟨none,0,[],none,0,[],none,0,[],some ⟨d.heap.size,0,none⟩,1,[x]⟩,w.heap.size+1,d.heap.size+1⟩) (by simp[results,Tryz.results131,go_sem,valT,mkT,mkQ,r0,r1,r2,r3,r4,r5,r6,r7,r8,rl]) rfl ?_;obtain ⟨e1,e2,e3⟩:=Y;have C: (Z10 d w.heap.size (.int .i64 k) (.string ⟨#[]⟩) (.string ⟨f.toArray⟩) (.int .i64 0) (.slice none 0 0) (.slice none 0 0) (.slice none 0 0) (.slice (some ⟨d.heap.size,0,none⟩) 1 1) (.int .i64 a)).heap.size=d.heap.size:=by simp[Z10,World.setCell]
 change TmIs bp A c l _ w _ ((Z10 d w.heap.size (.int .i64 k) (.string ⟨#[]⟩) (.string ⟨f.toArray⟩) (.int .i64 0) (.slice none 0 0) (.slice none 0 0) (.slice none 0 0) (.slice (some ⟨d.heap.size,0,none⟩) 1 1) (.int .i64 a)).alloc _);generalize Z10 d w.heap.size (.int .i64 k) (.string ⟨#[]⟩) (.string ⟨f.toArray⟩) (.int .i64 0) (.slice none 0 0) (.slice none 0 0) (.slice none 0 0) (.slice (some ⟨d.heap.size,0,none⟩) 1 1) (.int .i64 a)=Wp at e1 e2 e3 C ⊢;have T:=Row.oneT (W:=Wp) (B:=w.heap.size+1) x (by omega);have hn:=Z6k ⟨k,[],f,0,a⟩ ⟨none,0,[],none,0,[],none,0,[],some ⟨Wp.heap.size,0,none⟩,1,[x]⟩ HK.out (Row.start _ _ _ _ _) (Row.start _ _ _ _ _) (Row.start _ _ _ _ _) T nofun (fun z hz=>by
  have D:z=x:=by simpa using hz
  rw[D];exact ⟨New.below e3 (Z01 _ _),O⟩) nofun nofun ⟨by simp,by simp,by simp,by simp⟩
 have U: (Wp.alloc (.cells (Y7 x.t x.q) 26)).heap.size=d.heap.size+1:=by simp[C]
 rw[C,U] at hn;exact ⟨_,rfl,e1.alloc _,e2.alloc _,hn,by simp only; omega,by rw[<-K.out.1]; rfl,Z1E _ _ (Nat.zero_le _) (fun z hz=>by
  have D:z=x:=by simpa using hz
  rw[D]; exact K.out.2)⟩
end
end Go.Proofs.YtkncdbaoaeeoiaaGreatDoor
