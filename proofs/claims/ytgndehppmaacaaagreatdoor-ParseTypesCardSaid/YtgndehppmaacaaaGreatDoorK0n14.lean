/- What the proofs of ParseTypes want, part 14. -/
import Derived.Test.YtgndehppmaacaaaGreatDoorK0n13
set_option linter.unusedVariables false
set_option linter.unusedSimpArgs false
set_option linter.unusedSectionVars false
set_option maxRecDepth 100000
set_option maxHeartbeats 16000000
namespace Go.Proofs.YtgndehppmaacaaaGreatDoor
section
open Go.RowKit Tms Go.Maps Go.WideMaps
open Shp (Sh)
def badName (s:List UInt8):Bool:= !Lex.isName s
theorem Zju (x:List UInt8) (b:x.length<=9223372036854775807) (w:World):Y9 199 #[.string ⟨x.toArray⟩] w (.bool (badName x)):=by
 have a:=Z2i x b w;go_enter Tryz.func199,Tryz.ntmps199
 go_wp2_with fail
 refine a.mono ?_;rintro e w' ⟨rfl,rfl⟩;go_wp2;go_ret;exact ⟨rfl,Below.refl _ _⟩
section
variable (P : Option Addr) (d : Nat) (l : List (List UInt8)) (w : World) (hl : l.length <= 9223372036854775807) (hp : Strs w w.heap.size P (strs l)) (hf : ∀ x ∈ l, x.length <= 9223372036854775807)
include P d l w hl hp hf
theorem Zkl:
 Y9 210 #[.slice P l.length d,.func (.func 199) #[] #[]] w (.int .i64 (placeG badName l)):=by
 have u:=Y1 hp;have s:=Y1 hf;clear hp hf;go_enter Tryz.func210,Tryz.ntmps210
 go_wp2_with fail
 go_loopw [8] (fun ii wr=> ∃i:Nat,ii= .int .i64 i/\i<=l.length/\Hid (∀j (h:j < l.length),j < i->badName (l[j]'h)=false)/\Below w.heap.size w wr) (fun i _=>l.length - (intOf i).toNat)
 case atStart=>exact ⟨0,rfl,Nat.zero_le _,Y1 (fun j _ hj=>absurd hj (by omega)),Below.refl _ _⟩
 case round=>
  obtain ⟨i,rfl,z,n,k⟩:=hrel;by_cases c:i < l.length
  {rcases (u.out.next k).cell7 with v | ⟨g,off,rfl,y,r⟩
   {omega}
   {obtain ⟨x,m⟩: ∃x,x=l[i]'c:=⟨_,rfl⟩;have p0:=r i c;rw[<-m] at p0;have f:=Zju x (by rw[m]; exact s.out _ (List.getElem_mem _)) wr;have q:=Y1 m;clear m r;have p: (i:Int) < (l.length:Int):=by omega
    cases a:badName x with
    | true=>
     rw[a] at f;have o:Hid (placeG badName l=(i:Int)):=Y1 (ZeD c (by show badName _=true; rw[<-q.out]; exact a) (fun j hj hji=>n.out j hj hji));clear a
     go_wp2_with fail
     refine f.mono ?_;rintro e w' ⟨rfl,b⟩;go_wp2;go_ret;exact ⟨Z17 o.out.symm,Z03 k b⟩
    | false=>
     rw[a] at f;have t:=Y1 a;clear a
     go_wp2_with fail
     refine f.mono ?_;rintro e w' ⟨rfl,b⟩;go_wp2
     go_roundw
     case rel=>exact ⟨i+1,by go_num,by omega,Y1 (fun j hj hji=>by
      rcases Nat.lt_succ_iff_lt_or_eq.1 hji with h | rfl
      {exact n.out j hj h}
      · rw[<-q.out]; exact t.out),Z03 k b⟩
     case measure=>simp[intOf]; omega}}
  {have p: ¬(i:Int) < (l.length:Int):=by omega
   have o:Hid (placeG badName l= -1):=Y1 (ZdT (fun j hj=>n.out j hj (by omega)));go_wp2;go_ret;exact ⟨Z17 o.out.symm,k⟩}
theorem ZhR:
 Y9 198 #[.slice P l.length d,.func (.func 199) #[] #[]] w (.bool (l.any badName)):=by
 have c:=Zkl P d l w hl hp hf;have f:=Y1 (Zea badName l);have b:=Zf1 badName l;generalize placeG badName l=r at c f b;clear hp hf;go_enter Tryz.func198,Tryz.ntmps198
 go_wp2_with fail
 refine c.mono ?_;rintro e w' ⟨rfl,a⟩;go_wp2;go_ret;exact ⟨Z0p f.out,a⟩
end
section
variable (P : Option Addr) (d : Nat)
include P d
theorem Zfu (l:List (List UInt8)) (w:World) (b:Strs w w.heap.size P (strs l)) (h:l.length<=9223372036854775807) (c: ∀x∈l,x.length<=9223372036854775807):
 Y9 176 #[.slice P l.length d] w (.bool (l.all Lex.isName)):=by
 have a:=ZhR P d l w h b c;have f:Hid (l.any badName= !l.all Lex.isName):=Y1 (ZhH Lex.isName l);rw[f.out] at a;clear b c;go_enter Tryz.func176,Tryz.ntmps176
 go_wp2_with fail
 refine a.mono ?_;rintro e w' ⟨rfl,g⟩;go_wp2;go_ret;exact ⟨Z0p (by simp),g⟩
theorem Zn8 (l:List Sh) (w:World) (H:l.length<=9223372036854775807)
 (y:ShsAt w w.heap.size P l)
 (v: ∀x∈l,∀(q:Ptr) (w:World),ShAt w w.heap.size q x->Y9 201 #[.agg (Y8 x q)] w (.bool (hasOpaque x))):
 Y9 129 #[.slice P l.length d,.func (.func 201) #[] #[]] w (.int .i64 (placeG hasOpaque l)):=by
 have D:=Y1 y;have B:=Y1 v;clear y v;go_enter Tryz.func129,Tryz.ntmps129
 go_wp2_with fail
 go_loopw [8] (fun ii wr=> ∃i:Nat,ii= .int .i64 i/\i<=l.length/\Hid (∀j (h:j < l.length),j < i->hasOpaque (l[j]'h)=false)/\Below w.heap.size w wr) (fun i _=>l.length - (intOf i).toNat)
 case atStart=>exact ⟨0,rfl,Nat.zero_le _,Y1 (fun j _ hj=>absurd hj (by omega)),Below.refl _ _⟩
 case round=>
  obtain ⟨i,rfl,G,p,n⟩:=hrel;by_cases b:i < l.length
  {rcases D.out.next n with E | ⟨g,off,A,rfl,F,u,z⟩
   {omega}
   {obtain ⟨x,o⟩: ∃x,x=l[i]'b:=⟨_,rfl⟩;obtain ⟨p0,p1,p2,p3,p4⟩:=u i b;have k:ShAt wr wr.heap.size (A i) x:=by rw[o]; exact z i b
    have f:=B.out l[i] (List.getElem_mem _) (A i) wr;rw[<-o] at p0 p1 p2 p3 p4 f;have m:=f k;have t:=Y1 o;clear o u z k f;have s: (i:Int) < (l.length:Int):=by omega
    cases a:hasOpaque x with
    | true=>
     rw[a] at m;have r:Hid (placeG hasOpaque l=(i:Int)):=Y1 (ZeD b (by show hasOpaque _=true; rw[<-t.out]; exact a) (fun j hj hji=>p.out j hj hji));clear a
     go_wp2_with fail
     refine m.mono ?_;rintro e w' ⟨rfl,c⟩;go_wp2;go_ret;exact ⟨Z17 r.out.symm,Z03 n c⟩
    | false=>
     rw[a] at m;have C:=Y1 a;clear a
     go_wp2_with fail
     refine m.mono ?_;rintro e w' ⟨rfl,c⟩;go_wp2
     go_roundw
     case rel=>exact ⟨i+1,by go_num,by omega,Y1 (fun j hj hji=>by
      rcases Nat.lt_succ_iff_lt_or_eq.1 hji with h | rfl
      {exact p.out j hj h}
      · rw[<-t.out]; exact C.out),Z03 n c⟩
     case measure=>simp[intOf]; omega}}
  {have s: ¬(i:Int) < (l.length:Int):=by omega
   have r:Hid (placeG hasOpaque l= -1):=Y1 (ZdT (fun j hj=>p.out j hj (by omega)));go_wp2;go_ret;exact ⟨Z17 r.out.symm,n⟩}
theorem Zjv (l:List Sh) (w:World) (i:l.length<=9223372036854775807)
 (h:ShsAt w w.heap.size P l)
 (g: ∀x∈l,∀(q:Ptr) (w:World),ShAt w w.heap.size q x->Y9 201 #[.agg (Y8 x q)] w (.bool (hasOpaque x))):
 Y9 98 #[.slice P l.length d,.func (.func 201) #[] #[]] w (.bool (l.any hasOpaque)):=by
 have c:=Zn8 P d l w i h g;have f:=Y1 (Zea hasOpaque l);have b:=Zf1 hasOpaque l;generalize placeG hasOpaque l=r at c f b;clear h g;go_enter Tryz.func98,Tryz.ntmps98
 go_wp2_with fail
 refine c.mono ?_;rintro e w' ⟨rfl,a⟩;go_wp2;go_ret;exact ⟨Z0p f.out,a⟩
end
theorem Zhw (t:Sh): ∀(q:Ptr) (w:World),ShAt w w.heap.size q t->
 Y9 201 #[.agg (Y8 t q)] w (.bool (hasOpaque t)):=by
 induction t using Shp.Sh.ind with
 | h t ih=>
 intro q w g;have hb0:=Z01 w (.cells (Y8 t q) 28);have k:=Zjv q.P q.d t.parts _ g.small.m (by
  rcases (g.next hb0).part with l | m
  {exact Or.inl l}
  · exact Or.inr m) (fun x hx q' w' hat=>ih x hx q' w' hat)
 have i:=Y1 (ZfZ t);have j:=Y1 (Zfi t.parts);have b:=Y1 hb0;obtain ⟨_,⟨n,c1,c2,c3,c4⟩,_⟩:=Z07 w t q;clear hb0 g ih;by_cases a:t.kind=10
 {have c:Hid (hasOpaque t=true):=Y1 (by rw[i.out,decide_eq_true a]; rfl);have f:=Y4 10 a rfl;clear a;go_enter Tryz.func201,Tryz.ntmps201;go_wp2;go_ret;exact ⟨by rw[c.out]; rfl,b.out⟩}
 {have c:Hid (hasOpaque t=t.parts.any hasOpaque):=Y1 (by rw[i.out,decide_eq_false a,j.out]; rfl);have f: (t.kind==10)=false:=by rw[beq_eq_false_iff_ne]; exact a
  clear a;go_enter Tryz.func201,Tryz.ntmps201
  go_wp2_with fail
  refine k.mono ?_;rintro e w' ⟨rfl,d⟩;go_wp2;go_ret;exact ⟨Z0p c.out.symm,Z03 b.out d⟩}
def badType (s:Sh):Bool:= !(decide (Shp.check s=0)&& !hasOpaque s)
theorem Zjw (t:Sh) (q:Ptr) (w:World) (k:ShAt w w.heap.size q t) (n:WGlobs w):
 Y9 200 #[.agg (Y8 t q)] w (.bool (badType t)):=by
 have hb0:=Z01 w (.cells (Y8 t q) 28);have f:=Z2Y t q _ (k.next hb0) (n.next hb0);have p:=Y1 (fun W (h:Below w.heap.size w W)=>Zhw t q W (k.next h));have d:=Y1 hb0;have l:=Y1 (Z07 w t q);have m:Hid (badType t= !(decide (Shp.check t=0)&& !hasOpaque t)):=Y1 rfl;obtain ⟨_,⟨r,c1,c2,c3,c4⟩,_⟩:=l.out;clear hb0 k n;by_cases b:Shp.check t=0
 {have i:Hid (badType t=hasOpaque t):=Y1 (by rw[m.out,decide_eq_true b]; simp);rw[b] at f;clear b;go_enter Tryz.func200,Tryz.ntmps200
  go_wp2_with fail
  refine f.mono ?_;rintro e o ⟨rfl,a⟩;have c:=Z03 d.out a;have s:=p.out o c;obtain ⟨_,⟨u,d1,d2,d3,v⟩,_⟩:=l.out.next a;have g:=Y1 c;clear c a f r c1 c2 c3 c4
  go_wp2_with fail
  refine s.mono ?_;rintro e w' ⟨rfl,j⟩;go_wp2;go_ret;exact ⟨Z0p i.out.symm,Z03 g.out j⟩}
 {have i:Hid (badType t=true):=Y1 (by rw[m.out,decide_eq_false b]; rfl);have z: (Shp.check t !=0)=true:=by simpa using b
  have y: (Shp.check t==0)=false:=by simpa using b
  clear b;go_enter Tryz.func200,Tryz.ntmps200
  go_wp2_with fail
  refine f.mono ?_;rintro e o ⟨rfl,a⟩;go_wp2;go_ret;exact ⟨Z0p i.out.symm,Z03 d.out a⟩}
section
variable (P : Option Addr) (d : Nat) (l : List Sh) (w : World) (hl : l.length <= 9223372036854775807) (hp : ShsAt w w.heap.size P l) (hg : WGlobs w) (hf : True)
include P d l w hl hp hg hf
theorem Zkm:
 Y9 129 #[.slice P l.length d,.func (.func 200) #[] #[]] w (.int .i64 (placeG badType l)):=by
 have z:=Y1 hp;have A:=Y1 hf;have v:=Y1 hg;clear hg;clear hp hf;go_enter Tryz.func129,Tryz.ntmps129
 go_wp2_with fail
 go_loopw [8] (fun ii wr=> ∃i:Nat,ii= .int .i64 i/\i<=l.length/\Hid (∀j (h:j < l.length),j < i->badType (l[j]'h)=false)/\Below w.heap.size w wr) (fun i _=>l.length - (intOf i).toNat)
 case atStart=>exact ⟨0,rfl,Nat.zero_le _,Y1 (fun j _ hj=>absurd hj (by omega)),Below.refl _ _⟩
 case round=>
  obtain ⟨i,rfl,C,o,k⟩:=hrel;by_cases b:i < l.length
  {rcases z.out.next k with B | ⟨g,off,u,rfl,hg,s,t⟩
   {omega}
   {obtain ⟨x,n⟩: ∃x,x=l[i]'b:=⟨_,rfl⟩;obtain ⟨p0,p1,p2,p3,p4⟩:=s i b;have f:ShAt wr wr.heap.size (u i) x:=by rw[n]; exact t i b
    rw[<-n] at p0 p1 p2 p3 p4;have m:=Zjw x (u i) wr f (v.out.next k);have r:=Y1 n;clear n s t f;have q: (i:Int) < (l.length:Int):=by omega
    cases a:badType x with
    | true=>
     rw[a] at m;have p:Hid (placeG badType l=(i:Int)):=Y1 (ZeD b (by show badType _=true; rw[<-r.out]; exact a) (fun j hj hji=>o.out j hj hji));clear a
     go_wp2_with fail
     refine m.mono ?_;rintro e w' ⟨rfl,c⟩;go_wp2;go_ret;exact ⟨Z17 p.out.symm,Z03 k c⟩
    | false=>
     rw[a] at m;have y:=Y1 a;clear a
     go_wp2_with fail
     refine m.mono ?_;rintro e w' ⟨rfl,c⟩;go_wp2
     go_roundw
     case rel=>exact ⟨i+1,by go_num,by omega,Y1 (fun j hj hji=>by
      rcases Nat.lt_succ_iff_lt_or_eq.1 hji with h | rfl
      {exact o.out j hj h}
      · rw[<-r.out]; exact y.out),Z03 k c⟩
     case measure=>simp[intOf]; omega}}
  {have q: ¬(i:Int) < (l.length:Int):=by omega
   have p:Hid (placeG badType l= -1):=Y1 (ZdT (fun j hj=>o.out j hj (by omega)));go_wp2;go_ret;exact ⟨Z17 p.out.symm,k⟩}
theorem ZhS:
 Y9 98 #[.slice P l.length d,.func (.func 200) #[] #[]] w (.bool (l.any badType)):=by
 have c:=Zkm P d l w hl hp hg hf;have f:=Y1 (Zea badType l);have b:=Zf1 badType l;generalize placeG badType l=r at c f b;clear hp hf;go_enter Tryz.func98,Tryz.ntmps98
 go_wp2_with fail
 refine c.mono ?_;rintro e w' ⟨rfl,a⟩;go_wp2;go_ret;exact ⟨Z0p f.out,a⟩
end
theorem ZiI (P:Option Addr) (d:Nat) (l:List Sh) (w:World) (b:ShsAt w w.heap.size P l) (h:l.length<=9223372036854775807) (g:WGlobs w):
 Y9 178 #[.slice P l.length d] w (.bool (shapesOk l)):=by
 have a:=ZhS P d l w h b g trivial;have c:Hid (l.any badType= !shapesOk l):=Y1 (ZhH (fun s=>decide (Shp.check s=0)&& !hasOpaque s) l);rw[c.out] at a;clear b;go_enter Tryz.func178,Tryz.ntmps178
 go_wp2_with fail
 refine a.mono ?_;rintro e w' ⟨rfl,f⟩;go_wp2;go_ret;exact ⟨Z0p (by simp),f⟩
theorem Zhx (l:List (List UInt8)): ∀k,k<=l.length->Maps.size (seenOf l k)<=k/\(Maps.size (seenOf l k)=k ↔ (l.take k).Nodup)
 | 0,_=>by rw[Za4]; simp[Maps.size]
 | k+1,hk=>by
  obtain ⟨i,f⟩:=Zhx l k (by omega);have g:Tidy (seenOf l k):=tidy_setOf _ _ (fun y hy=>by obtain ⟨_,_,rfl⟩:=List.mem_map.1 hy; trivial);rw[Za5 l k hk,size_put g,Zbq,Shp.Z1C hk,List.nodup_append];cases c: (l.take k).contains (l[k]'hk) with
  | true=>
   have d:=List.contains_iff_mem.1 c;rw[if_pos rfl];refine ⟨by omega,fun h=>by omega,fun ⟨_,_,h⟩=>absurd rfl (h _ d _ (by simp))⟩
  | false=>
   have d:l[k]'hk∉l.take k:=fun h=>by rw[List.contains_iff_mem.2 h] at c; cases c
   rw[if_neg (by decide)];refine ⟨by omega,fun h=>⟨f.1 (by omega),by simp,fun a ha b hb e=> ?_⟩,fun ⟨h,_,_⟩=>by rw[f.2 h]⟩;obtain rfl:b=l[k]'hk:=by simpa using hb
   exact d (e▸ha)
theorem ZlK (l:List (List UInt8)): (((Maps.size (seenOf l l.length):Nat):Int)==(l.length:Int))=Shp.noDup l:=by
 obtain ⟨_,h⟩:=Zhx l l.length (Nat.le_refl _);rw[List.take_length, <-Shp.Z5u] at h;rw[Bool.eq_iff_iff, <-h,beq_iff_eq];omega
theorem ZiJ (A:Option Addr) (c:Nat) (l:List (List UInt8)) (w:World) (s:Strs w w.heap.size A (strs l)) (G:l.length<=9223372036854775807) (m: ∀x∈l,x.length<=9223372036854775807):
 Y9 177 #[.slice A l.length c] w (.bool (Shp.noDup l)):=by
 have C:= @run_makeMap Tryz.prog;have u:=Y1 s;have B:=Y1 m;have y:=Y1 (ZlK l);clear s m;go_enter Tryz.func177,Tryz.ntmps177
 go_wp2_with fail
 go_loopw [9] (fun ii wr=> ∃k:Nat,k<=l.length/\ii= .int .i64 k/\wr.ownsMap Tryz.prog 9 unitElem w.heap.size k (seenOf l k)/\Below w.heap.size w wr)
  (fun i _=>l.length - (intOf i).toNat)
 case atStart=>exact ⟨0,Nat.zero_le _,rfl,by rw[Za4]; exact World.ownsMap_made _ _ _ _,Y2.alloc (Nat.le_refl _) _⟩
 case round=>
  obtain ⟨k,F,rfl,a,n⟩:=hrel;by_cases f:k < l.length
  {have q: (k:Int) < (l.length:Int):=by omega
   rcases (u.out.next n).cell7 with D | ⟨g,off,rfl,E,t⟩
   {omega}
   {have e:=t k f;obtain ⟨x,m⟩: ∃x,x=l[k]'f:=⟨_,rfl⟩;rw[<-m] at e;have r:x.length<=9223372036854775807:=by rw[m]; exact B.out _ (List.getElem_mem _)
    have v:=Y1 m;have p:keyOf Tryz.prog 9 (.string ⟨x.toArray⟩)=some (.string x):=keyOf_string_mk Tryz.underlying9 (by rw[Z0J]; unfold maxLen; exact r);clear m t;have b:=Y1 n;clear n
    go_wp2_with (at_mapUpdate; refine wpList_mapUpdate_own _ rfl _ _ _ 150 rfl 9 151 Z4d Tryz.underlying150 (unitElem (H:=Unit)) w.heap.size k _ rfl a (by unfold maxLen; omega) _ _ _ rfl rfl p _ [] unitElem_mk ?_; intro J h d)
    go_roundw
    case rel=>
     refine ⟨k+1,by omega,by go_num, ?_, ?_⟩
     {rw[Za5 l k f, <-v.out]; exact h}
     {exact b.out.grown d b.out.size (fun j hj=>by cases hj; exact Nat.le_refl _)}
    case measure=>simp[intOf]; omega}}
  {have o:k=l.length:=by omega
   have z:Hid (wr.ownsMap Tryz.prog 9 (unitElem (H:=Unit)) w.heap.size l.length (seenOf l l.length)):=Y1 (by rw[<-o]; exact a);have q: ¬(k:Int) < (l.length:Int):=by omega
   have b:=Y1 n;have I:=y.out;clear n a o
   go_wp2_with (at_len; refine wpList_len_own _ rfl _ 150 rfl 9 151 Tryz.underlying150 _ w.heap.size l.length (seenOf l l.length) rfl z.out ?_)
   go_ret;exact ⟨rfl,b.out⟩}
end
section
open Go.RowKit Tms
open Shp (Sh)
theorem Zjx (t:Tm) (q:TP) (w:World) (hs:TSmall t q) (hmn:t.names.length<=9223372036854775806):
 Calls Tryz.prog 175 #[.agg #[.int .i64 t.kind,.string ⟨t.of_.toArray⟩,.string ⟨t.name.toArray⟩,.int .i64 t.n,.slice q.A t.names.length q.c,.slice q.V t.vars.length q.e,.slice q.S t.shapes.length q.s,.slice q.P t.parts.length q.d,.int .i64 t.at_]] w fun e w'=>e= .returned (.bool (cntB t))/\Below w.heap.size w w':=by
 unfold cntB;have hv:=hs.v;have hsh:=hs.sh;have hm:=hs.m;generalize t.names.length=n at *;generalize t.vars.length=v at *;generalize t.shapes.length=s at *;generalize t.parts.length=p at *;generalize t.kind=k;clear hs;by_cases h:k < 1\/17 < k
 {have:cntN k n v s p=false:=by
   unfold cntN;rw[if_neg (by omega),if_neg (by omega),if_neg (by omega),if_neg (by omega),if_neg (by omega),if_neg (by omega),if_neg (by omega),if_neg (by omega),if_neg (by omega),if_neg (by omega)]
  rw[this];exact ZpM k _ _ _ _ _ _ _ _ _ _ _ _ _ _ _ _ w h hmn hv hsh hm}
 have:k=1\/k=2\/k=3\/k=4\/k=5\/k=6\/k=7\/k=8\/k=9\/k=10\/k=11\/k=12\/k=13\/k=14\/k=15\/k=16\/k=17:=by omega
 rcases this with rfl | rfl | rfl | rfl | rfl | rfl | rfl | rfl | rfl | rfl | rfl | rfl | rfl | rfl | rfl | rfl | rfl
 {exact Zqc _ _ _ _ _ _ _ _ _ _ _ _ _ _ _ _ w hmn hv hsh hm}
 {exact Zqd _ _ _ _ _ _ _ _ _ _ _ _ _ _ _ _ w hmn hv hsh hm}
 {exact Zqe _ _ _ _ _ _ _ _ _ _ _ _ _ _ _ _ w hmn hv hsh hm}
 {exact Zqf _ _ _ _ _ _ _ _ _ _ _ _ _ _ _ _ w hmn hv hsh hm}
 {exact Zqg _ _ _ _ _ _ _ _ _ _ _ _ _ _ _ _ w hmn hv hsh hm}
 {exact Zqh _ _ _ _ _ _ _ _ _ _ _ _ _ _ _ _ w hmn hv hsh hm}
 {exact Zqi _ _ _ _ _ _ _ _ _ _ _ _ _ _ _ _ w hmn hv hsh hm}
 {exact Zqj _ _ _ _ _ _ _ _ _ _ _ _ _ _ _ _ w hmn hv hsh hm}
 {exact Zqk _ _ _ _ _ _ _ _ _ _ _ _ _ _ _ _ w hmn hv hsh hm}
 {exact ZpE _ _ _ _ _ _ _ _ _ _ _ _ _ _ _ _ w hmn hv hsh hm}
 {exact ZpF _ _ _ _ _ _ _ _ _ _ _ _ _ _ _ _ w hmn hv hsh hm}
 {exact ZpG _ _ _ _ _ _ _ _ _ _ _ _ _ _ _ _ w hmn hv hsh hm}
 {exact ZpH _ _ _ _ _ _ _ _ _ _ _ _ _ _ _ _ w hmn hv hsh hm}
 {exact ZpI _ _ _ _ _ _ _ _ _ _ _ _ _ _ _ _ w hmn hv hsh hm}
 {exact ZpJ _ _ _ _ _ _ _ _ _ _ _ _ _ _ _ _ w hmn hv hsh hm}
 {exact ZpK _ _ _ _ _ _ _ _ _ _ _ _ _ _ _ _ w hmn hv hsh hm}
 {exact ZpL _ _ _ _ _ _ _ _ _ _ _ _ _ _ _ _ w hmn hv hsh hm}
theorem ZlL (t:Tm) (q:TP) (w:World) (f:TmAt w w.heap.size q t) (N:WGlobs w) (O:Zd1 w) (A:t.names.length<=9223372036854775806):
 Y9 143 #[.agg (Y7 t q)] w (.bool (fits t)):=by
 have L:=Y1 (ZdA w t q);have o:=Y1 (Z01 w (.cells (Y7 t q) 40));have D:=Y1 (fun (W:World) (h:Below w.heap.size w W)=>Zj1 t q W);have E:=Y1 (fun (W:World) (h:Below w.heap.size w W)=>Zkk t q W f.small.o);have F:=Y1 (fun (W:World) (h:Below w.heap.size w W)=>ZiH t q W f.small.n (O.next h));have G:=Y1 (fun (W:World) (h:Below w.heap.size w W)=>Zjx t q W f.small A);have H:=Y1 (fun (W:World) (h:Below w.heap.size w W)=>Zfu q.A q.c t.names W (f.next h).strs f.small.l f.small.ns);have I:=Y1 (fun (W:World) (h:Below w.heap.size w W)=>ZiJ q.A q.c t.names W (f.next h).strs f.small.l f.small.ns);have J:=Y1 (fun (W:World) (h:Below w.heap.size w W)=>Zfu q.V q.e t.vars W (f.next h).vars f.small.v f.small.vs);have K:=Y1 (fun (W:World) (h:Below w.heap.size w W)=>ZiI q.S q.s t.shapes W (f.next h).shapes f.small.sh (N.next h));have b:Hid (fits t=(decide (0<=t.at_)&&numB t&&ofB t&&nameB t&&cntB t&&t.names.all Lex.isName&&Shp.noDup t.names&&t.vars.all Lex.isName&&shapesOk t.shapes)):=Y1 (ZnL t).symm;generalize numB t=b1 at D b;generalize ofB t=b2 at E b;generalize nameB t=b3 at F b;generalize cntB t=b4 at G b;generalize t.names.all Lex.isName=b5 at H b;generalize Shp.noDup t.names=b6 at I b;generalize t.vars.all Lex.isName=b7 at J b;generalize shapesOk t.shapes=b8 at K b;obtain ⟨_,⟨c,c1,c2,c3,c4,c5,c6,c7,d⟩,_⟩:=L.out;clear f N O A;by_cases M:0<=t.at_
 {rw[decide_eq_true M] at b;go_enter Tryz.func143,Tryz.ntmps143
  go_wp2_with fail
  refine (D.out _ o.out).mono ?_;rintro e P ⟨rfl,a⟩;have g:=Y1 (Z03 o.out a);have p:=Y1 (L.out.next a);clear a c c1 c2 c3 c4 c5 c6 c7 d;obtain ⟨_,⟨c,c1,c2,c3,c4,c5,c6,c7,d⟩,_⟩:=p.out;cases b1
  {go_wp2;go_ret;exact ⟨Z0p (by rw[b.out]; simp),g.out⟩}
  go_wp2_with fail
  refine (E.out _ g.out).mono ?_;rintro e Q ⟨rfl,a⟩;have i:=Y1 (Z03 g.out a);have r:=Y1 (p.out.next a);clear a c c1 c2 c3 c4 c5 c6 c7 d;obtain ⟨_,⟨c,c1,c2,c3,c4,c5,c6,c7,d⟩,_⟩:=r.out;cases b2
  {go_wp2;go_ret;exact ⟨Z0p (by rw[b.out]; simp),i.out⟩}
  go_wp2_with fail
  refine (F.out _ i.out).mono ?_;rintro e S ⟨rfl,a⟩;have j:=Y1 (Z03 i.out a);have s:=Y1 (r.out.next a);clear a c c1 c2 c3 c4 c5 c6 c7 d;obtain ⟨_,⟨c,c1,c2,c3,c4,c5,c6,c7,d⟩,_⟩:=s.out;cases b3
  {go_wp2;go_ret;exact ⟨Z0p (by rw[b.out]; simp),j.out⟩}
  go_wp2_with fail
  refine (G.out _ j.out).mono ?_;rintro e T ⟨rfl,a⟩;have k:=Y1 (Z03 j.out a);have u:=Y1 (s.out.next a);clear a c c1 c2 c3 c4 c5 c6 c7 d;obtain ⟨_,⟨c,c1,c2,c3,c4,c5,c6,c7,d⟩,_⟩:=u.out;cases b4
  {go_wp2;go_ret;exact ⟨Z0p (by rw[b.out]; simp),k.out⟩}
  go_wp2_with fail
  refine (H.out _ k.out).mono ?_;rintro e U ⟨rfl,a⟩;have l:=Y1 (Z03 k.out a);have v:=Y1 (u.out.next a);clear a c c1 c2 c3 c4 c5 c6 c7 d;obtain ⟨_,⟨c,c1,c2,c3,c4,c5,c6,c7,d⟩,_⟩:=v.out;cases b5
  {go_wp2;go_ret;exact ⟨Z0p (by rw[b.out]; simp),l.out⟩}
  go_wp2_with fail
  refine (I.out _ l.out).mono ?_;rintro e V ⟨rfl,a⟩;have m:=Y1 (Z03 l.out a);have y:=Y1 (v.out.next a);clear a c c1 c2 c3 c4 c5 c6 c7 d;obtain ⟨_,⟨c,c1,c2,c3,c4,c5,c6,c7,d⟩,_⟩:=y.out;cases b6
  {go_wp2;go_ret;exact ⟨Z0p (by rw[b.out]; simp),m.out⟩}
  go_wp2_with fail
  refine (J.out _ m.out).mono ?_;rintro e X ⟨rfl,a⟩;have n:=Y1 (Z03 m.out a);have z:=Y1 (y.out.next a);clear a c c1 c2 c3 c4 c5 c6 c7 d;obtain ⟨_,⟨c,c1,c2,c3,c4,c5,c6,c7,d⟩,_⟩:=z.out;cases b7
  {go_wp2;go_ret;exact ⟨Z0p (by rw[b.out]; simp),n.out⟩}
  go_wp2_with fail
  refine (K.out _ n.out).mono ?_;rintro e Y ⟨rfl,a⟩;have B:=Y1 (Z03 n.out a);have C:=Y1 (z.out.next a);clear a c c1 c2 c3 c4 c5 c6 c7 d;obtain ⟨_,⟨c,c1,c2,c3,c4,c5,c6,c7,d⟩,_⟩:=C.out;go_wp2;go_ret;exact ⟨Z0p (by rw[b.out]; simp),B.out⟩}
 {rw[decide_eq_false M] at b;go_enter Tryz.func143,Tryz.ntmps143;go_wp2;go_ret;exact ⟨Z0p (by rw[b.out]; simp),o.out⟩}
theorem Zn9 (l:List Tm):l.any (fun p=> !right p)= !rights l:=by rw[rights_all]; exact ZhH right l
def wrong (t:Tm):Bool:= !right t
def TmsIn (w:World) (B:Nat) (P:Option Addr) (l:List Tm):Prop:=
 l.length=0\/ ∃(g off:Nat) (qs:Nat->TP),P=some ⟨g,off,none⟩/\g < B/\(∀i (h:i < l.length),Tm9 w g (off+i * 9) (l[i]'h) (qs i))/\ ∀i (h:i < l.length),TmAt w B (qs i) (l[i]'h)
theorem TmsIn.next {w w':World} {P:Option Addr} {l:List Tm} (h:TmsIn w w.heap.size P l) (a:Below w.heap.size w w'):TmsIn w' w'.heap.size P l:=by
 rcases h with h | ⟨g,off,f,c,b,d,e⟩
 {exact Or.inl h}
 {exact Or.inr ⟨g,off,f,c,Nat.lt_of_lt_of_le b a.size,fun i hi=>(d i hi).keep b a,fun i hi=>(e i hi).next a⟩}
section
variable (P : Option Addr) (d : Nat) (l : List Tm) (w : World) (hl : l.length <= 9223372036854775807) (hp : TmsIn w w.heap.size P l) (hg : WGlobs w) (hu : Zd1 w) (hf : ∀ x ∈ l, ∀ (q : TP) (w : World), TmAt w w.heap.size q x -> WGlobs w -> Zd1 w -> Y9 117 #[.agg (Y7 x q)] w (.bool (wrong x)))
include P d l w hl hp hg hu hf
theorem Zkn:
 Y9 179 #[.slice P l.length d,.func (.func 117) #[] #[]] w (.int .i64 (placeG wrong l)):=by
 have C:=Y1 hp;have z:=Y1 hf;have A:=Y1 hg;have D:=Y1 hu;clear hg hu;clear hp hf;go_enter Tryz.func179,Tryz.ntmps179
 go_wp2_with fail
 go_loopw [8] (fun ii wr=> ∃i:Nat,ii= .int .i64 i/\i<=l.length/\Hid (∀j (h:j < l.length),j < i->wrong (l[j]'h)=false)/\Below w.heap.size w wr) (fun i _=>l.length - (intOf i).toNat)
 case atStart=>exact ⟨0,rfl,Nat.zero_le _,Y1 (fun j _ hj=>absurd hj (by omega)),Below.refl _ _⟩
 case round=>
  obtain ⟨i,rfl,I,p,k⟩:=hrel;by_cases b:i < l.length
  {rcases C.out.next k with H | ⟨g,off,y,rfl,hg,u,v⟩
   {omega}
   {obtain ⟨x,o⟩: ∃x,x=l[i]'b:=⟨_,rfl⟩;obtain ⟨p0,p1,p2,p3,p4,p5,E,F,G⟩:=u i b;have m:TmAt wr wr.heap.size (y i) x:=by rw[o]; exact v i b
    have f:=z.out l[i] (List.getElem_mem _) (y i) wr;rw[<-o] at p0 p1 p2 p3 p4 p5 E F G f;have n:=f m (A.out.next k) (D.out.next k);have t:=Y1 o;clear o u v m f;have s: (i:Int) < (l.length:Int):=by omega
    cases a:wrong x with
    | true=>
     rw[a] at n;have r:Hid (placeG wrong l=(i:Int)):=Y1 (ZeD b (by show wrong _=true; rw[<-t.out]; exact a) (fun j hj hji=>p.out j hj hji));clear a
     go_wp2_with fail
     refine n.mono ?_;rintro e w' ⟨rfl,c⟩;go_wp2;go_ret;exact ⟨Z17 r.out.symm,Z03 k c⟩
    | false=>
     rw[a] at n;have B:=Y1 a;clear a
     go_wp2_with fail
     refine n.mono ?_;rintro e w' ⟨rfl,c⟩;go_wp2
     go_roundw
     case rel=>exact ⟨i+1,by go_num,by omega,Y1 (fun j hj hji=>by
      rcases Nat.lt_succ_iff_lt_or_eq.1 hji with h | rfl
      {exact p.out j hj h}
      · rw[<-t.out]; exact B.out),Z03 k c⟩
     case measure=>simp[intOf]; omega}}
  {have s: ¬(i:Int) < (l.length:Int):=by omega
   have r:Hid (placeG wrong l= -1):=Y1 (ZdT (fun j hj=>p.out j hj (by omega)));go_wp2;go_ret;exact ⟨Z17 r.out.symm,k⟩}
theorem ZhT:
 Y9 144 #[.slice P l.length d,.func (.func 117) #[] #[]] w (.bool (l.any wrong)):=by
 have c:=Zkn P d l w hl hp hg hu hf;have f:=Y1 (Zea wrong l);have b:=Zf1 wrong l;generalize placeG wrong l=r at c f b;clear hp hf;go_enter Tryz.func144,Tryz.ntmps144
 go_wp2_with fail
 refine c.mono ?_;rintro e w' ⟨rfl,a⟩;go_wp2;go_ret;exact ⟨Z0p f.out,a⟩
end
theorem ZiK (t:Tm): ∀(q:TP) (w:World),TmAt w w.heap.size q t->WGlobs w->Zd1 w->few t=true->
 Y9 117 #[.agg (Y7 t q)] w (.bool (wrong t)):=by
 induction t using Tm.ind with
 | h t ih=>
 intro q w g k l b;have hb0:=Z01 w (.cells (Y7 t q) 40);have f:=ZlL t q _ (g.next hb0) (k.next hb0) (l.next hb0) (Zp2 b);have r:=Y1 (fun W (h:Below w.heap.size w W)=>ZhT q.P q.d t.parts W g.small.m (by
  rcases (g.next h).part with v | y
  {exact Or.inl v}
  · exact Or.inr y) (k.next h) (l.next h) (fun x hx q' w' hat hg' hu'=>ih x hx q' w' hat hg' hu' (ZnM b hx)))
 have n:=Y1 (right_eq t);have p:=Y1 (Zn9 t.parts);have o:Hid (wrong t= !right t):=Y1 rfl;have c:=Y1 hb0;have m:=Y1 (ZdA w t q);obtain ⟨_,⟨s,c1,c2,c3,c4,c5,c6,c7,u⟩,_⟩:=m.out;clear hb0 g k l ih b;cases hft:fits t
 {have i:Hid (wrong t=true):=Y1 (by rw[o.out,n.out,hft]; rfl);rw[hft] at f;clear hft;go_enter Tryz.func117,Tryz.ntmps117
  go_wp2_with fail
  refine f.mono ?_;rintro e w' ⟨rfl,a⟩;go_wp2;go_ret;exact ⟨by rw[i.out]; rfl,Z03 c.out a⟩}
 {have i:Hid (wrong t=t.parts.any wrong):=Y1 (by rw[o.out,n.out,hft,show t.parts.any wrong=_ from p.out]; rfl);rw[hft] at f;clear hft;go_enter Tryz.func117,Tryz.ntmps117
  go_wp2_with fail
  refine f.mono ?_;rintro e A ⟨rfl,a⟩;have d:=Z03 c.out a;have z:=r.out A d;obtain ⟨_,⟨B,d1,d2,d3,d4,d5,d6,d7,C⟩,_⟩:=m.out.next a;clear f s c1 c2 c3 c4 c5 c6 c7 u a
  go_wp2_with fail
  refine z.mono ?_;rintro e w' ⟨rfl,j⟩;go_wp2;go_ret;exact ⟨Z0p i.out.symm,Z03 d j⟩}
theorem ZeS (t:Tm) (q:TP) (w:World) (v:TmAt w w.heap.size q t) (C:WGlobs w) (D:Zd1 w) (l:few t=true):
 Y9 76 #[.agg (Y7 t q)] w (.int .i64 (check t)):=by
 have hb0:=Z01 w (.cells (Y7 t q) 40);have n:=Ziu t q _ (v.next hb0);have s:Hid (check t=if 4096 < size t then 3 else if 40 < deep t then 91 else if right t=false then 80 else 0):=Y1 rfl;have f:=Y1 hb0;have y:=Y1 (ZdA w t q);have F:=Y1 v;have E:=Y1 C;have G:=Y1 D;obtain ⟨_,⟨A,c1,c2,c3,c4,c5,c6,c7,B⟩,_⟩:=y.out;obtain ⟨m,d⟩: ∃m,m=min (size t) 4097:=⟨_,rfl⟩;rw[<-d] at n;clear hb0 v C D;by_cases j:4096 < size t
 {have i:Hid (check t=3):=Y1 (by rw[s.out,if_pos j]);have H: (4096:Int) < (m:Int):=by omega
  clear j d;go_enter Tryz.func76,Tryz.ntmps76
  go_wp2_with fail
  refine n.mono ?_;rintro e w' ⟨r,rfl,_,_,b⟩;go_wp2;go_ret;exact ⟨Z17 i.out.symm,Z03 f.out b⟩}
 {have H: ¬(4096:Int) < (m:Int):=by omega
  have z:=Y1 (show size t<=4096 by omega);by_cases a:40 < deep t
  {have i:Hid (check t=91):=Y1 (by rw[s.out,if_neg j,if_pos a]);have g:=Y1 a;clear j d a;go_enter Tryz.func76,Tryz.ntmps76
   go_wp2_with fail
   refine n.mono ?_;rintro e w' ⟨r,rfl,hr,_,b⟩;have I: (40:Int) < (r:Int):=by have:=hr z.out; have:=g.out; omega
   clear hr;go_wp2;go_ret;exact ⟨Z17 i.out.symm,Z03 f.out b⟩}
  {have i:Hid (check t=if right t=false then 80 else 0):=Y1 (by rw[s.out,if_neg j,if_neg a]);have g:=Y1 a;have u:Hid (wrong t= !right t):=Y1 rfl;clear j d a;go_enter Tryz.func76,Tryz.ntmps76
   go_wp2_with fail
   refine n.mono ?_;rintro e J ⟨r,rfl,hr',_,h⟩;have I: ¬(40:Int) < (r:Int):=by have:=hr' z.out; have:=g.out; omega
   have c:=Z03 f.out h;have k:=Y1 c;have p:=Y1 (y.out.next h);have hr:=ZiK t q J (F.out.next c) (E.out.next c) (G.out.next c) l;rw[u.out] at hr;clear n h c hr' A c1 c2 c3 c4 c5 c6 c7 B;obtain ⟨_,⟨A,c1,c2,c3,c4,c5,c6,c7,B⟩,_⟩:=p.out;cases o:right t
   all_goals
    rw[o] at hr i;clear o
    go_wp2_with fail
    refine hr.mono ?_;rintro e w' ⟨rfl,b⟩;go_wp2;go_ret;exact ⟨Z17 (by rw[i.out]; rfl),Z03 k.out b⟩}}
end
section
open Go.RowKit Tms
open Shp (Sh)
open Pso (St Ok Goes betw loop want)
theorem ZkQ (w:World) (x:Tk): (w.alloc (.cells #[.int .i64 x.t.kind,.string ⟨x.t.text.toArray⟩,.int .i64 x.at_] 46)).cell? ⟨w.heap.size,0,none⟩=some (.int .i64 x.t.kind)/\(w.alloc (.cells #[.int .i64 x.t.kind,.string ⟨x.t.text.toArray⟩,.int .i64 x.at_] 46)).cell? ⟨w.heap.size,1,none⟩=some (.string ⟨x.t.text.toArray⟩)/\(w.alloc (.cells #[.int .i64 x.t.kind,.string ⟨x.t.text.toArray⟩,.int .i64 x.at_] 46)).cell? ⟨w.heap.size,2,none⟩=some (.int .i64 x.at_):=by
 refine ⟨?_, ?_, ?_⟩ <;> simp[go_sem]
theorem ZlM (bp:Nat) (A:Option Addr) (c:Nat) (l:List Tk) (σ:St) (B:l.length<=5000) (v:Ok l σ) (w:World) (h:PAt w bp A c l σ):
 Calls Tryz.prog 109 #[.pointer (some ⟨bp,0,none⟩)] w fun e w'=>e= .returned (.int .i64 (Prs.look l σ.1).at_)/\PAt w' bp A c l (Pso.begin_ l σ)/\UpT [bp] w w':=by
 have r:Hid (Pso.begin_ l σ=if (Prs.look l σ.1).at_ < 0 then Pso.misfit l σ else σ):=Y1 rfl;rw[r.out];have i:=Y1 (Zdu bp A c l σ (by omega) v.1 w h);have k:=Y1 (fun (w:World) (h:PAt w bp A c l σ)=>Zev bp A c l σ (by omega) v.1 w h);have m:=Y1 h;obtain ⟨x,u⟩: ∃x,x=Prs.look l σ.1:=⟨_,rfl⟩;rw[<-u] at i ⊢;clear h r u;have q:=Y1 (fun (w:World)=>ZkQ w x);by_cases s:x.at_ < 0
 {rw[if_pos s];go_enter Tryz.func109,Tryz.ntmps109
  go_wp2_with fail
  refine i.out.mono ?_;rintro e g ⟨rfl,a⟩;have y:=Y1 a;obtain ⟨p,t1,j⟩:=q.out g;have tl:g.heap.size < (g.alloc (.cells #[.int .i64 x.t.kind,.string ⟨x.t.text.toArray⟩,.int .i64 x.at_] 46)).heap.size:=by simp
  have b:=Y1 ((m.out.below a).alloc (.cells #[.int .i64 x.t.kind,.string ⟨x.t.text.toArray⟩,.int .i64 x.at_] 46));have d:=Y1 ((ZcF (F:= [bp]) a).alloc (.cells #[.int .i64 x.t.kind,.string ⟨x.t.text.toArray⟩,.int .i64 x.at_] 46));have z:bp < g.heap.size:=Nat.lt_of_lt_of_le m.out.lt a.size;clear a i
  go_wp2_with fail
  generalize g.alloc (.cells #[.int .i64 x.t.kind,.string ⟨x.t.text.toArray⟩,.int .i64 x.at_] 46)=W1 at b d p t1 j tl ⊢;refine (k.out W1 b.out).mono ?_;rintro e E ⟨rfl,hp2,f⟩;have t:=f.same tl (by simp; omega);have C:=(t.1 2).trans j;have D:=Nat.lt_of_lt_of_le tl f.size;have n:=Y1 hp2;have o:=Y1 (d.out.trans f);clear hp2 f t p t1 j tl;go_wp2;go_ret;exact ⟨rfl,n.out,o.out⟩}
 {rw[if_neg s];go_enter Tryz.func109,Tryz.ntmps109
  go_wp2_with fail
  refine i.out.mono ?_;rintro e g ⟨rfl,a⟩;obtain ⟨p,t1,j⟩:=q.out g;have b:=Y1 ((m.out.below a).alloc (.cells #[.int .i64 x.t.kind,.string ⟨x.t.text.toArray⟩,.int .i64 x.at_] 46));have d:=Y1 ((ZcF (F:= [bp]) a).alloc (.cells #[.int .i64 x.t.kind,.string ⟨x.t.text.toArray⟩,.int .i64 x.at_] 46));clear a i;go_wp2;go_ret;exact ⟨rfl,b.out,d.out⟩}
theorem Zel (W:World) (t:TB) (a:TBok t): (⟨mkT t TR.none_,mkQ TR.none_,W.heap.size,W.heap.size⟩:ET).Is W:=
 Zhs t TR.none_ a (Row.start _ _ _ _ _) (Row.start _ _ _ _ _) (Row.start _ _ _ _ _) (Row.start _ _ _ _ _) nofun nofun nofun nofun ⟨Nat.zero_le _,Nat.zero_le _,Nat.zero_le _,Nat.zero_le _⟩
theorem Ze1 (t:TB):few (mkT t TR.none_)=true:=ZdH t TR.none_ (Nat.zero_le _) nofun
theorem Row.oneT {W:World} {B:Nat} (x:ET) (a:B<=W.heap.size):Row (W.alloc (.cells (Y7 x.t x.q) 40)) B 40 9 cT (some ⟨W.heap.size,0,none⟩) 1 [x]:=by
 have:=World.ownsRow_lit (base:=B) (e:=40) (size:=9) W (Y7 x.t x.q) 1 a (by decide) rfl;exact this
abbrev XNine (W:World) (b:Nat) (x:ET):Prop:=Nine W b (.int .i64 x.t.kind) (.string ⟨x.t.of_.toArray⟩) (.string ⟨x.t.name.toArray⟩) (.int .i64 x.t.n) (.slice x.q.A x.t.names.length x.q.c) (.slice x.q.V x.t.vars.length x.q.e) (.slice x.q.S x.t.shapes.length x.q.s) (.slice x.q.P x.t.parts.length x.q.d) (.int .i64 x.t.at_)
structure VInv (w:World) (bp:Nat) (A:Option Addr) (c:Nat) (l:List Tk) (τ:St) (ob:Nat) (nm n2:List UInt8) (d:Nat->Bool) (u:Nat->Value) (W:World):Prop where
 v0:d 0=true->u 0= .pointer (some ⟨ob,2,none⟩)
 v1:d 1=true->u 1= .string ⟨nm.toArray⟩
 v2:d 2=true->u 2= .pointer (some ⟨bp,0,none⟩)
 vA:d 3=true->u 3= .pointer (some ⟨bp,0,none⟩)
 vB:d 4=true->u 4= .pointer (some ⟨bp,0,none⟩)
 v3:d 5=true->u 5= .string ⟨n2.toArray⟩
 v4:d 6=true->u 6= .pointer (some ⟨ob,1,none⟩)
 v6:d 8=true->u 8= .pointer (some ⟨ob,2,none⟩)
 e5:d 7=true->d 5=true/\d 1=true
 e7:d 9=true->d 7=true
 pre:d 5=false->Below w.heap.size w W
 mid:d 5=true->d 7=false->PAt W bp A c l τ/\UpT [bp] w W
 late:d 7=true-> ∃Wm,PAt Wm bp A c l τ/\UpT [bp] w Wm/\W=if d 9=true then (Wm.setCell ⟨ob,1,none⟩ (.string ⟨nm.toArray⟩)).setCell ⟨ob,2,none⟩ (.string ⟨n2.toArray⟩) else Wm.setCell ⟨ob,1,none⟩ (.string ⟨nm.toArray⟩)
section
variable {w : World} {bp : Nat} {A : Option Addr} {c : Nat} {l : List Tk} {τ : St} {ob : Nat} {nm n2 : List UInt8} {d : Nat -> Bool} {u : Nat -> Value} {W W' : World}
section
variable (h : VInv w bp A c l τ ob nm n2 d u W)
include h
theorem VInv.not5 {i:Nat} (f:i=1\/i=5\/i=7) (e:d i=false):d 7=false:=by
 cases b:d 7 with
 | false=>rfl
 | true=>
  have a:=h.e5 b;rcases f with rfl | rfl | rfl
  {rw[e] at a; cases a.2}
  {rw[e] at a; cases a.1}
  {rw[e] at b; cases b}
theorem VInv.up (b:d 7=false):UpT [bp] w W:=by
 cases a:d 5 with
 | false=>exact ZcF (h.pre a)
 | true=>exact (h.mid a b).2
theorem VInv.pure {i:Nat} {v:Value} (f:i=0/\v= .pointer (some ⟨ob,2,none⟩)\/i=1/\v= .string ⟨nm.toArray⟩\/i=2/\v= .pointer (some ⟨bp,0,none⟩)\/i=3/\v= .pointer (some ⟨bp,0,none⟩)\/i=4/\v= .pointer (some ⟨bp,0,none⟩)\/i=6/\v= .pointer (some ⟨ob,1,none⟩)\/i=8/\v= .pointer (some ⟨ob,2,none⟩)):
 VInv w bp A c l τ ob nm n2 (also d i) (upd u i v) W:=by
 have k: ∀j,j≠i->also d i j=d j/\upd u i v j=u j:=fun j hj=>⟨PtxT.ne9 d hj,Z02 u _ hj⟩;have p:also d i i=true:=PtxT.self9 d i;have r:upd u i v i=v:=Z06 _ _ _;have q: ∀(j:Nat) (V:Value),(i=j->v=V)->(d j=true->u j=V)->also d i j=true->upd u i v j=V:=fun j V b a h3=>by
  by_cases e:j=i
  {subst e; rw[r]; exact b rfl}
  {rw[(k j e).2]; rw[(k j e).1] at h3; exact a h3}
 have g:i≠5:=by omega
 have m:i≠7:=by omega
 have o:i≠9:=by omega
 refine ⟨q 0 _ (fun e=> ?_) h.v0,q 1 _ (fun e=> ?_) h.v1,q 2 _ (fun e=> ?_) h.v2,q 3 _ (fun e=> ?_) h.vA,q 4 _ (fun e=> ?_) h.vB,q 5 _ (fun e=>absurd e g) h.v3,q 6 _ (fun e=> ?_) h.v4,q 8 _ (fun e=> ?_) h.v6, ?_, ?_, ?_, ?_, ?_⟩
 {rcases f with ⟨b,a⟩ | ⟨b,a⟩ | ⟨b,a⟩ | ⟨b,a⟩ | ⟨b,a⟩ | ⟨b,a⟩ | ⟨b,a⟩ <;> first | exact a | omega}
 {rcases f with ⟨b,a⟩ | ⟨b,a⟩ | ⟨b,a⟩ | ⟨b,a⟩ | ⟨b,a⟩ | ⟨b,a⟩ | ⟨b,a⟩ <;> first | omega | exact a}
 {rcases f with ⟨b,a⟩ | ⟨b,a⟩ | ⟨b,a⟩ | ⟨b,a⟩ | ⟨b,a⟩ | ⟨b,a⟩ | ⟨b,a⟩ <;> first | omega | exact a}
 {rcases f with ⟨b,a⟩ | ⟨b,a⟩ | ⟨b,a⟩ | ⟨b,a⟩ | ⟨b,a⟩ | ⟨b,a⟩ | ⟨b,a⟩ <;> first | omega | exact a}
 {rcases f with ⟨b,a⟩ | ⟨b,a⟩ | ⟨b,a⟩ | ⟨b,a⟩ | ⟨b,a⟩ | ⟨b,a⟩ | ⟨b,a⟩ <;> first | omega | exact a}
 {rcases f with ⟨b,a⟩ | ⟨b,a⟩ | ⟨b,a⟩ | ⟨b,a⟩ | ⟨b,a⟩ | ⟨b,a⟩ | ⟨b,a⟩ <;> first | omega | exact a}
 {rcases f with ⟨b,a⟩ | ⟨b,a⟩ | ⟨b,a⟩ | ⟨b,a⟩ | ⟨b,a⟩ | ⟨b,a⟩ | ⟨b,a⟩ <;> first | omega | exact a}
 {rw[(k 7 m.symm).1,(k 5 g.symm).1];intro n;refine ⟨(h.e5 n).1, ?_⟩;by_cases e: (1:Nat)=i
  {rw[e]; exact p}
  {rw[(k 1 e).1]; exact (h.e5 n).2}}
 {rw[(k 9 o.symm).1,(k 7 m.symm).1]; exact h.e7}
 {rw[(k 5 g.symm).1]; exact h.pre}
 {rw[(k 5 g.symm).1,(k 7 m.symm).1]; exact h.mid}
 {rw[(k 7 m.symm).1,(k 9 o.symm).1]; exact h.late}
theorem VInv.s3 (b:d 5=false) (f:PAt W' bp A c l τ) (g:UpT [bp] W W'):VInv w bp A c l τ ob nm n2 (also d 5) (upd u 5 (.string ⟨n2.toArray⟩)) W':=by
 have a:=h.not5 (by omega) b;have k: ∀j,j≠5->also d 5 j=d j/\upd u 5 (.string ⟨n2.toArray⟩) j=u j:=fun j hj=>⟨PtxT.ne9 d hj,Z02 u _ hj⟩;refine ⟨?_, ?_, ?_, ?_, ?_,fun _=>Z06 _ _ _, ?_, ?_, ?_, ?_, ?_,fun _ _=>⟨f,(ZcF (h.pre b)).trans g⟩, ?_⟩
 {rw[(k 0 (by omega)).1,(k 0 (by omega)).2]; exact h.v0}
 {rw[(k 1 (by omega)).1,(k 1 (by omega)).2]; exact h.v1}
 {rw[(k 2 (by omega)).1,(k 2 (by omega)).2]; exact h.v2}
 {rw[(k 3 (by omega)).1,(k 3 (by omega)).2]; exact h.vA}
 {rw[(k 4 (by omega)).1,(k 4 (by omega)).2]; exact h.vB}
 {rw[(k 6 (by omega)).1,(k 6 (by omega)).2]; exact h.v4}
 {rw[(k 8 (by omega)).1,(k 8 (by omega)).2]; exact h.v6}
 {rw[(k 7 (by omega)).1,a]; intro e; cases e}
 {rw[(k 9 (by omega)).1,(k 7 (by omega)).1]; exact h.e7}
 {rw[PtxT.self9]; intro e; cases e}
 {rw[(k 7 (by omega)).1,a]; intro e; cases e}
theorem VInv.s5 (b:d 7=false) (a:d 5=true) (i:d 1=true) (v:Value):VInv w bp A c l τ ob nm n2 (also d 7) (upd u 7 v) (W.setCell ⟨ob,1,none⟩ (.string ⟨nm.toArray⟩)):=by
 have g:d 9=false:=by cases e:d 9 with | false=>rfl | true=>have:=h.e7 e; rw[b] at this; cases this
 have k: ∀j,j≠7->also d 7 j=d j/\upd u 7 v j=u j:=fun j hj=>⟨PtxT.ne9 d hj,Z02 u _ hj⟩;have f:=h.mid a b;refine ⟨?_, ?_, ?_, ?_, ?_, ?_, ?_, ?_, ?_,fun _=>PtxT.self9 _ _, ?_, ?_,fun _=>⟨W,f.1,f.2, ?_⟩⟩
 {rw[(k 0 (by omega)).1,(k 0 (by omega)).2]; exact h.v0}
 {rw[(k 1 (by omega)).1,(k 1 (by omega)).2]; exact h.v1}
 {rw[(k 2 (by omega)).1,(k 2 (by omega)).2]; exact h.v2}
 {rw[(k 3 (by omega)).1,(k 3 (by omega)).2]; exact h.vA}
 {rw[(k 4 (by omega)).1,(k 4 (by omega)).2]; exact h.vB}
 {rw[(k 5 (by omega)).1,(k 5 (by omega)).2]; exact h.v3}
 {rw[(k 6 (by omega)).1,(k 6 (by omega)).2]; exact h.v4}
 {rw[(k 8 (by omega)).1,(k 8 (by omega)).2]; exact h.v6}
 {rw[(k 5 (by omega)).1,(k 1 (by omega)).1]; exact fun _=>⟨a,i⟩}
 {rw[(k 5 (by omega)).1,a]; intro e; cases e}
 {rw[PtxT.self9]; intro _ e; cases e}
 {rw[(k 9 (by omega)).1,g]; rfl}
theorem VInv.s7 (i:d 9=false) (a:d 7=true) (v:Value):VInv w bp A c l τ ob nm n2 (also d 9) (upd u 9 v) (W.setCell ⟨ob,2,none⟩ (.string ⟨n2.toArray⟩)):=by
 have k: ∀j,j≠9->also d 9 j=d j/\upd u 9 v j=u j:=fun j hj=>⟨PtxT.ne9 d hj,Z02 u _ hj⟩;obtain ⟨Wm,b,f,g⟩:=h.late a;refine ⟨?_, ?_, ?_, ?_, ?_, ?_, ?_, ?_, ?_, ?_, ?_, ?_,fun _=>⟨Wm,b,f, ?_⟩⟩
 {rw[(k 0 (by omega)).1,(k 0 (by omega)).2]; exact h.v0}
 {rw[(k 1 (by omega)).1,(k 1 (by omega)).2]; exact h.v1}
 {rw[(k 2 (by omega)).1,(k 2 (by omega)).2]; exact h.v2}
 {rw[(k 3 (by omega)).1,(k 3 (by omega)).2]; exact h.vA}
 {rw[(k 4 (by omega)).1,(k 4 (by omega)).2]; exact h.vB}
 {rw[(k 5 (by omega)).1,(k 5 (by omega)).2]; exact h.v3}
 {rw[(k 6 (by omega)).1,(k 6 (by omega)).2]; exact h.v4}
 {rw[(k 8 (by omega)).1,(k 8 (by omega)).2]; exact h.v6}
 {rw[(k 7 (by omega)).1,(k 5 (by omega)).1,(k 1 (by omega)).1]; exact h.e5}
 {rw[(k 7 (by omega)).1]; exact fun _=>a}
 {rw[(k 5 (by omega)).1,(h.e5 a).1]; intro e; cases e}
 {rw[(k 7 (by omega)).1,a]; intro _ e; cases e}
 {rw[PtxT.self9,if_pos rfl,g,i]; rfl}
end
end
theorem ZlN (bp:Nat) (A:Option Addr) (c:Nat) (l:List Tk) (σ:St) (a:Int) (z:TokOk l) (O: -9223372036854775808<=a/\a<=9223372036854775807) (Q:Ok l σ) (w:World) (h:PAt w bp A c l σ):
 Calls Tryz.prog 171 #[.pointer (some ⟨bp,0,none⟩),.int .i64 a] w (TmIs bp A c l (Pso.valueE l σ a) w):=by
 have J:=h.lt;have s:=z.len;have L:=Pso.to_name Q;have o:=ZcU z.txt σ 1 (by decide) Lex.isName;change (Pso.name l σ).1.length<=1000000 at o;have hb0:=Z01 w (.cells Ya 40);have C:=ZcP w (.int .i64 0) (.string ⟨#[]⟩) (.string ⟨#[]⟩) (.int .i64 0) (.slice none 0 0) (.slice none 0 0) (.slice none 0 0) (.slice none 0 0) (.int .i64 0) 40;have D:=Y1 (Zdk bp A c l σ (by omega) Q.1 z.txt _ (h.below hb0));have r:=Y1 hb0;have t:=Y1 C;have G:=Y1 L;have T:=Y1 z;have S:=Y1 O;clear h hb0 C z O;have K:Prs.sign l (Pso.name l σ).2.1 [47]=false:=(Z04 T.out.mild _).2 _ (by decide);have N:Hid (Pso.valueE l σ a=({ Prs.tm 5 a with name:=(Pso.name l σ).1 },(Pso.name l σ).2)):=Y1 (by unfold Pso.valueE; simp only; rw[K]; rfl);rw[N.out];have k:=Y1 (fun (w:World) (h:PAt w bp A c l (Pso.name l σ).2) (b:Nat) (hb:b=w.heap.size)=>Zd5 K s L.1.1 w h (hb0:=hb));obtain ⟨y,P⟩: ∃y,y=Pso.name l σ:=⟨_,rfl⟩;rw[<-P] at D k o ⊢;clear K L N G P;go_enter Tryz.func171,Tryz.ntmps171
 go_wp2_with fail
 refine D.out.mono ?_;rintro e q ⟨rfl,p,f⟩;have V:w.heap.size+1<=q.heap.size:=by have:=f.size; simpa using this
 have j:=Y1 (p.alloc (.cells #[.int .i64 5,.string ⟨#[]⟩,.string ⟨y.1.toArray⟩,.int .i64 0,.slice none 0 0,.slice none 0 0,.slice none 0 0,.slice none 0 0,.int .i64 a] 40));have m:=Y1 (((ZcF (F:= [bp]) r.out).trans f).alloc (.cells #[.int .i64 5,.string ⟨#[]⟩,.string ⟨y.1.toArray⟩,.int .i64 0,.slice none 0 0,.slice none 0 0,.slice none 0 0,.slice none 0 0,.int .i64 a] 40));have n:=Y1 ((t.out.up f (by simp; omega)).below (Z01 q (.cells #[.int .i64 5,.string ⟨#[]⟩,.string ⟨y.1.toArray⟩,.int .i64 0,.slice none 0 0,.slice none 0 0,.slice none 0 0,.slice none 0 0,.int .i64 a] 40)));have i:=Y1 (ZcP q (.int .i64 5) (.string ⟨#[]⟩) (.string ⟨y.1.toArray⟩) (.int .i64 0) (.slice none 0 0) (.slice none 0 0) (.slice none 0 0) (.slice none 0 0) (.int .i64 a) 40);have U:bp < q.heap.size:=p.lt;clear p f D r t
 go_wp2_with fail
 have u:=Y1 (show q.heap.size+1=(q.alloc (.cells #[.int .i64 5,.string ⟨#[]⟩,.string ⟨y.1.toArray⟩,.int .i64 0,.slice none 0 0,.slice none 0 0,.slice none 0 0,.slice none 0 0,.int .i64 a] 40)).heap.size by simp);generalize q.alloc (.cells #[.int .i64 5,.string ⟨#[]⟩,.string ⟨y.1.toArray⟩,.int .i64 0,.slice none 0 0,.slice none 0 0,.slice none 0 0,.slice none 0 0,.int .i64 a] 40)=W0 at u j m n i ⊢;refine (k.out W0 j.out _ u.out).mono ?_;rintro e M ⟨rfl,B,g⟩;have E:=Y1 B;have H:=Y1 (m.out.trans g);obtain ⟨W,X,Y,Z,r4,r5,r6,r7,r8,d,rl⟩:=n.out.up g (by simp; omega);obtain ⟨x0,x1,x2,x3,x4,x5,x6,x7,x8,xf,xl⟩:=i.out.up g (by simp; omega);have f0:=d 0;have f1:=d 1;have f2:=d 2;have f3:=d 3;have f4:=d 4;have f5:=d 5;have f6:=d 6;have f7:=d 7;have f8:=d 8;clear B g k j m n i d xf;go_wp2;refine bodyPost_ret (v:=valT ⟨mkT ⟨5,[],y.1,0,a⟩ TR.none_,mkQ TR.none_,M.heap.size,M.heap.size⟩) (by simp[results,Tryz.results171,go_sem,valT,mkT,mkQ,TR.none_,W,X,Y,Z,r4,r5,r6,r7,r8,rl]) rfl ?_;have I:=end9 E.out H.out (Zel M ⟨5,[],y.1,0,a⟩ ⟨by simp,o,by simp,S.out,by simp⟩) (rb:=w.heap.size) (Nat.le_refl _) (Or.inl (by simp only; omega)) J;exact ⟨_,rfl,(I _ _ _ _ _ _ _ _ _).1,(I _ _ _ _ _ _ _ _ _).2.1,(I _ _ _ _ _ _ _ _ _).2.2,by simp only; omega,rfl,Ze1 _⟩
theorem Zh2 {W:World} {b:Nat} {q r s t u v w y z:Value} (h:Nine W b q r s t u v w y z) (a c d e g i k l m:Value):Nine (Zd9 W b a c d e g i k l m) b a c d e g i k l m:=by
 obtain ⟨n,c1,c2,c3,c4,c5,c6,c7,o,f,p⟩:=h;refine ⟨?_, ?_, ?_, ?_, ?_, ?_, ?_, ?_, ?_,fun j=> ?_, ?_⟩
 all_goals simp[Zd9,go_sem,n,c1,c2,c3,c4,c5,c6,c7,o,f,p]
structure ESt (w:World) (bp:Nat) (A:Option Addr) (c:Nat) (l:List Tk) (τ:St) (q:Sh) (u1:Value) (W:World) (s:ES):Prop where
 u1:u1=valS s
 par:PAt W bp A c l τ
 is:s.Is W
 lo:w.heap.size<=s.lo
 t:s.t=q
structure EInv (w:World) (bp:Nat) (A:Option Addr) (c:Nat) (l:List Tk) (τ:St) (q:Sh) (ob:Nat) (x:ET) (a:Int) (d:Nat->Bool) (u:Nat->Value) (W:World):Prop where
 v0:d 0=true->u 0= .pointer (some ⟨bp,0,none⟩)
 v3:d 3=true->u 3=valT x
 v5:d 5=true->u 5= .int .i64 a
 e2:d 2=true->d 1=true
 e4:d 4=true->d 3=true
 e6:d 6=true->d 2=true/\d 4=true/\d 5=true
 e7:d 7=true->d 6=true
 pre:d 1=false->Below w.heap.size w W
 up:d 7=false->UpT [bp] w W
 s1:d 1=true->d 7=false-> ∃s,ESt w bp A c l τ q (u 1) W s/\(d 2=true-> ∃g,u 2= .slice (some ⟨g,0,none⟩) 1 1/\Row W w.heap.size 28 5 cS (some ⟨g,0,none⟩) 1 [s])
 s4:d 4=true->d 7=false-> ∃g,u 4= .slice (some ⟨g,0,none⟩) 1 1/\Row W w.heap.size 40 9 cT (some ⟨g,0,none⟩) 1 [x]
 v6:d 6=true-> ∃g g',u 2= .slice (some ⟨g,0,none⟩) 1 1/\u 4= .slice (some ⟨g',0,none⟩) 1 1/\u 6= .agg #[.int .i64 15,.string ⟨#[]⟩,.string ⟨#[]⟩,.int .i64 0,.slice none 0 0,.slice none 0 0,.slice (some ⟨g,0,none⟩) 1 1,.slice (some ⟨g',0,none⟩) 1 1,.int .i64 a]
 fin:d 7=true-> ∃Wm s g g' v,ESt w bp A c l τ q v Wm s/\Row Wm w.heap.size 28 5 cS (some ⟨g,0,none⟩) 1 [s]/\Row Wm w.heap.size 40 9 cT (some ⟨g',0,none⟩) 1 [x]/\UpT [bp] w Wm/\W=Zd9 Wm ob (.int .i64 15) (.string ⟨#[]⟩) (.string ⟨#[]⟩) (.int .i64 0) (.slice none 0 0) (.slice none 0 0) (.slice (some ⟨g,0,none⟩) 1 1) (.slice (some ⟨g',0,none⟩) 1 1) (.int .i64 a)
section
variable {w : World} {bp : Nat} {A : Option Addr} {c : Nat} {l : List Tk} {τ : St} {q : Sh} {ob : Nat} {x : ET} {a : Int} {d : Nat -> Bool} {u : Nat -> Value} {W W' : World}
section
variable (h : EInv w bp A c l τ q ob x a d u W)
include h
theorem EInv.not7 {i:Nat} (p:i≠0/\i < 8) (b:d i=false) (o:i=3\/i=1\/i=2\/i=4\/i=5\/i=6\/i=7):d 7=false:=by
 cases e:d 7 with
 | false=>rfl
 | true=>
  have j:=h.e7 e;obtain ⟨f,g,n⟩:=h.e6 j;have k:=h.e2 f;have m:=h.e4 g;rcases o with rfl | rfl | rfl | rfl | rfl | rfl | rfl
  {rw[b] at m; cases m}
  {rw[b] at k; cases k}
  {rw[b] at f; cases f}
  {rw[b] at g; cases g}
  {rw[b] at n; cases n}
  {rw[b] at j; cases j}
  {rw[b] at e; cases e}
theorem EInv.p0 (v:Value) (b:v= .pointer (some ⟨bp,0,none⟩)):EInv w bp A c l τ q ob x a (also d 0) (upd u 0 v) W:=by
 have k: ∀j,j≠0->also d 0 j=d j/\upd u 0 v j=u j:=fun j hj=>⟨PtxT.ne9 d hj,Z02 u _ hj⟩;refine ⟨fun _=>by rw[Z06]; exact b,(by rw[(k 3 (by omega)).1,(k 3 (by omega)).2]; exact h.v3),(by rw[(k 5 (by omega)).1,(k 5 (by omega)).2]; exact h.v5),(by rw[(k 2 (by omega)).1,(k 1 (by omega)).1]; exact h.e2),(by rw[(k 4 (by omega)).1,(k 3 (by omega)).1]; exact h.e4),(by rw[(k 6 (by omega)).1,(k 2 (by omega)).1,(k 4 (by omega)).1,(k 5 (by omega)).1]; exact h.e6),(by rw[(k 7 (by omega)).1,(k 6 (by omega)).1]; exact h.e7),(by rw[(k 1 (by omega)).1]; exact h.pre),(by rw[(k 7 (by omega)).1]; exact h.up),(by rw[(k 1 (by omega)).1,(k 7 (by omega)).1,(k 1 (by omega)).2,(k 2 (by omega)).1,(k 2 (by omega)).2]; exact h.s1),(by rw[(k 4 (by omega)).1,(k 7 (by omega)).1,(k 4 (by omega)).2]; exact h.s4),(by rw[(k 6 (by omega)).1,(k 2 (by omega)).2,(k 4 (by omega)).2,(k 6 (by omega)).2]; exact h.v6),(by rw[(k 7 (by omega)).1]; exact h.fin)⟩
theorem EInv.c1 (m:d 1=false) (t:bp < w.heap.size) {s:ES} (v:Value) (n:UpT [bp] W W') (z:ESt w bp A c l τ q v W' s):EInv w bp A c l τ q ob x a (also d 1) (upd u 1 v) W':=by
 have k: ∀j,j≠1->also d 1 j=d j/\upd u 1 v j=u j:=fun j hj=>⟨PtxT.ne9 d hj,Z02 u _ hj⟩;have o:d 2=false:=by cases e:d 2 with | false=>rfl | true=>have:=h.e2 e; rw[m] at this; cases this
 have b:=h.not7 (i:=1) (by omega) m (by omega);refine ⟨(by rw[(k 0 (by omega)).1,(k 0 (by omega)).2]; exact h.v0),(by rw[(k 3 (by omega)).1,(k 3 (by omega)).2]; exact h.v3),(by rw[(k 5 (by omega)).1,(k 5 (by omega)).2]; exact h.v5),(fun _=>PtxT.self9 _ _),(by rw[(k 4 (by omega)).1,(k 3 (by omega)).1]; exact h.e4),(by rw[(k 6 (by omega)).1,(k 2 (by omega)).1,(k 4 (by omega)).1,(k 5 (by omega)).1]; exact h.e6),(by rw[(k 7 (by omega)).1,(k 6 (by omega)).1]; exact h.e7),(by rw[PtxT.self9]; intro e; cases e),(fun _=>(h.up b).trans n),(fun _ _=>⟨s,by rw[Z06]; exact z,by rw[(k 2 (by omega)).1,o]; intro e; cases e⟩),(by
  rw[(k 4 (by omega)).1,(k 4 (by omega)).2];intro r _;obtain ⟨g,p,f⟩:=h.s4 r b;exact ⟨g,p,f.up n (fun y hy=>by simp at hy; subst hy; intro e; have:=f.lt _ e; omega)⟩),(by rw[(k 6 (by omega)).1,(k 2 (by omega)).2,(k 4 (by omega)).2,(k 6 (by omega)).2]; exact h.v6),(by rw[(k 7 (by omega)).1,b]; intro e; cases e)⟩
theorem EInv.c2 (p:d 2=false) (o:d 1=true) {s:ES} {g:Nat} (v:Value) (f:Below W.heap.size W W') (b:ESt w bp A c l τ q (u 1) W s) (B:v= .slice (some ⟨g,0,none⟩) 1 1) (z:Row W' w.heap.size 28 5 cS (some ⟨g,0,none⟩) 1 [s]):EInv w bp A c l τ q ob x a (also d 2) (upd u 2 v) W':=by
 have k: ∀j,j≠2->also d 2 j=d j/\upd u 2 v j=u j:=fun j hj=>⟨PtxT.ne9 d hj,Z02 u _ hj⟩;have m:=h.not7 (i:=2) (by omega) p (by omega);have n:d 6=false:=by cases e:d 6 with | false=>rfl | true=>have:=(h.e6 e).1; rw[p] at this; cases this
 refine ⟨(by rw[(k 0 (by omega)).1,(k 0 (by omega)).2]; exact h.v0),(by rw[(k 3 (by omega)).1,(k 3 (by omega)).2]; exact h.v3),(by rw[(k 5 (by omega)).1,(k 5 (by omega)).2]; exact h.v5),(by rw[(k 1 (by omega)).1]; exact fun _=>o),(by rw[(k 4 (by omega)).1,(k 3 (by omega)).1]; exact h.e4),(by rw[(k 6 (by omega)).1,n]; intro e; cases e),(by rw[(k 7 (by omega)).1,(k 6 (by omega)).1]; exact h.e7),(by rw[(k 1 (by omega)).1,o]; intro e; cases e),(fun _=>(h.up m).below f),(fun _ _=>⟨s,by rw[(k 1 (by omega)).2]; exact ⟨b.u1,b.par.below f,New.below b.is f,b.lo,b.t⟩,fun _=>⟨g,by rw[Z06]; exact B,z⟩⟩),(by
  rw[(k 4 (by omega)).1,(k 4 (by omega)).2];intro y _;obtain ⟨g,r,t⟩:=h.s4 y m;exact ⟨g,r,t.below f⟩),(by rw[(k 6 (by omega)).1,n]; intro e; cases e),(by rw[(k 7 (by omega)).1,m]; intro e; cases e)⟩
theorem EInv.c4 (o:d 4=false) (z:d 3=true) {g:Nat} (v:Value) (b:Below W.heap.size W W') (C:v= .slice (some ⟨g,0,none⟩) 1 1) (B:Row W' w.heap.size 40 9 cT (some ⟨g,0,none⟩) 1 [x]):EInv w bp A c l τ q ob x a (also d 4) (upd u 4 v) W':=by
 have k: ∀j,j≠4->also d 4 j=d j/\upd u 4 v j=u j:=fun j hj=>⟨PtxT.ne9 d hj,Z02 u _ hj⟩;have m:=h.not7 (i:=4) (by omega) o (by omega);have n:d 6=false:=by cases e:d 6 with | false=>rfl | true=>have:=(h.e6 e).2.1; rw[o] at this; cases this
 refine ⟨(by rw[(k 0 (by omega)).1,(k 0 (by omega)).2]; exact h.v0),(by rw[(k 3 (by omega)).1,(k 3 (by omega)).2]; exact h.v3),(by rw[(k 5 (by omega)).1,(k 5 (by omega)).2]; exact h.v5),(by rw[(k 2 (by omega)).1,(k 1 (by omega)).1]; exact h.e2),(by rw[(k 3 (by omega)).1]; exact fun _=>z),(by rw[(k 6 (by omega)).1,n]; intro e; cases e),(by rw[(k 7 (by omega)).1,(k 6 (by omega)).1]; exact h.e7),(by rw[(k 1 (by omega)).1]; exact fun e=>(Z03 (h.pre e) b)),(fun _=>(h.up m).below b),(by
  rw[(k 1 (by omega)).1,(k 1 (by omega)).2,(k 2 (by omega)).1,(k 2 (by omega)).2];intro t _;obtain ⟨s,f,y⟩:=h.s1 t m;refine ⟨s,⟨f.u1,f.par.below b,New.below f.is b,f.lo,f.t⟩,fun e=> ?_⟩;obtain ⟨g,p,r⟩:=y e;exact ⟨g,p,r.below b⟩),(fun _ _=>⟨g,by rw[Z06]; exact C,B⟩),(by rw[(k 6 (by omega)).1,n]; intro e; cases e),(by rw[(k 7 (by omega)).1,m]; intro e; cases e)⟩
theorem EInv.c6 (p:d 6=false) (e:d 2=true) (f:d 4=true) (i:d 5=true) {g b:Nat} (v:Value) (n:u 2= .slice (some ⟨g,0,none⟩) 1 1) (o:u 4= .slice (some ⟨b,0,none⟩) 1 1) (m:v= .agg #[.int .i64 15,.string ⟨#[]⟩,.string ⟨#[]⟩,.int .i64 0,.slice none 0 0,.slice none 0 0,.slice (some ⟨g,0,none⟩) 1 1,.slice (some ⟨b,0,none⟩) 1 1,.int .i64 a]):EInv w bp A c l τ q ob x a (also d 6) (upd u 6 v) W:=by
 have k: ∀j,j≠6->also d 6 j=d j/\upd u 6 v j=u j:=fun j hj=>⟨PtxT.ne9 d hj,Z02 u _ hj⟩;refine ⟨(by rw[(k 0 (by omega)).1,(k 0 (by omega)).2]; exact h.v0),(by rw[(k 3 (by omega)).1,(k 3 (by omega)).2]; exact h.v3),(by rw[(k 5 (by omega)).1,(k 5 (by omega)).2]; exact h.v5),(by rw[(k 2 (by omega)).1,(k 1 (by omega)).1]; exact h.e2),(by rw[(k 4 (by omega)).1,(k 3 (by omega)).1]; exact h.e4),(by rw[(k 2 (by omega)).1,(k 4 (by omega)).1,(k 5 (by omega)).1]; exact fun _=>⟨e,f,i⟩),(fun _=>PtxT.self9 _ _),(by rw[(k 1 (by omega)).1]; exact h.pre),(by rw[(k 7 (by omega)).1]; exact h.up),(by rw[(k 1 (by omega)).1,(k 7 (by omega)).1,(k 1 (by omega)).2,(k 2 (by omega)).1,(k 2 (by omega)).2]; exact h.s1),(by rw[(k 4 (by omega)).1,(k 7 (by omega)).1,(k 4 (by omega)).2]; exact h.s4),(fun _=>⟨g,b,by rw[(k 2 (by omega)).2]; exact n,by rw[(k 4 (by omega)).2]; exact o,by rw[Z06]; exact m⟩),(by rw[(k 7 (by omega)).1]; exact h.fin)⟩
theorem EInv.c7 (m:d 7=false) (i:d 6=true) {s:ES} {g b:Nat} (v:Value) (o:ESt w bp A c l τ q (u 1) W s) (n:Row W w.heap.size 28 5 cS (some ⟨g,0,none⟩) 1 [s]) (f:Row W w.heap.size 40 9 cT (some ⟨b,0,none⟩) 1 [x]):EInv w bp A c l τ q ob x a (also d 7) (upd u 7 v) (Zd9 W ob (.int .i64 15) (.string ⟨#[]⟩) (.string ⟨#[]⟩) (.int .i64 0) (.slice none 0 0) (.slice none 0 0) (.slice (some ⟨g,0,none⟩) 1 1) (.slice (some ⟨b,0,none⟩) 1 1) (.int .i64 a)):=by
 have k: ∀j,j≠7->also d 7 j=d j/\upd u 7 v j=u j:=fun j hj=>⟨PtxT.ne9 d hj,Z02 u _ hj⟩;refine ⟨(by rw[(k 0 (by omega)).1,(k 0 (by omega)).2]; exact h.v0),(by rw[(k 3 (by omega)).1,(k 3 (by omega)).2]; exact h.v3),(by rw[(k 5 (by omega)).1,(k 5 (by omega)).2]; exact h.v5),(by rw[(k 2 (by omega)).1,(k 1 (by omega)).1]; exact h.e2),(by rw[(k 4 (by omega)).1,(k 3 (by omega)).1]; exact h.e4),(by rw[(k 6 (by omega)).1,(k 2 (by omega)).1,(k 4 (by omega)).1,(k 5 (by omega)).1]; exact h.e6),(by rw[(k 6 (by omega)).1]; exact fun _=>i),(by rw[(k 1 (by omega)).1,h.e2 (h.e6 i).1]; intro e; cases e),(by rw[PtxT.self9]; intro e; cases e),(by rw[PtxT.self9]; intro _ e; cases e),(by rw[PtxT.self9]; intro _ e; cases e),(by rw[(k 6 (by omega)).1,(k 2 (by omega)).2,(k 4 (by omega)).2,(k 6 (by omega)).2]; exact h.v6),(fun _=>⟨W,s,g,b,_,o,n,f,h.up m,rfl⟩)⟩
end
end
theorem ZiL (bp:Nat) (A:Option Addr) (c:Nat) (l:List Tk) (m:Nat) (σ:St) (a:Int) (Y:TokOk l) (ha: -9223372036854775808<=a/\a<=9223372036854775807) (hσ:Ok l σ) (u:ExC bp A c l m) (hm:l.length - σ.1 < m) (w:World) (h:PAt w bp A c l σ):
 Calls Tryz.prog 166 #[.pointer (some ⟨bp,0,none⟩),.int .i64 a] w (TmIs bp A c l (Pso.enclosedE l (Pso.expr l m) σ a) w):=by
 have X:=h.lt;have C:=Y.len;have P:=Pso.to_expr m _ hσ;have hb0:=Z01 w (.cells Ya 40);have O:=ZcP w (.int .i64 0) (.string ⟨#[]⟩) (.string ⟨#[]⟩) (.int .i64 0) (.slice none 0 0) (.slice none 0 0) (.slice none 0 0) (.slice none 0 0) (.int .i64 0) 40;have n:=Y1 (u _ σ hσ hm (h.below hb0));have z:=Y1 hb0;have H:=Y1 O;have HL:=Y1 Y;have HA:=Y1 ha;have S:=Y1 P;clear h hb0 O Y ha u hm;have Z:Prs.sign l (Pso.expr l m σ).2.1 [97,115]=false:=(Z04 HL.out.mild _).2 _ (by decide);have HF:Hid (Pso.enclosedE l (Pso.expr l m) σ a=((Pso.expr l m σ).1,want l (Pso.expr l m σ).2 [41])):=Y1 (by unfold Pso.enclosedE; simp only; rw[Z]; rfl);rw[HF.out];have p:=Y1 (fun (w:World) (h:PAt w bp A c l (Pso.expr l m σ).2) (b:Nat) (hb:b=w.heap.size)=>Zd5 Z C P.1.1 w h (hb0:=hb));have U:=Y1 (fun (w:World) (h:PAt w bp A c l (Pso.expr l m σ).2)=>ZcJ bp A c l _ [41] (by omega) P.1.1 w h);obtain ⟨y,hy⟩: ∃y,y=Pso.expr l m σ:=⟨_,rfl⟩;rw[<-hy] at n p U ⊢;clear Z P HF S hy;go_enter Tryz.func166,Tryz.ntmps166
 go_wp2_with fail
 refine n.out.mono ?_;rintro e j ⟨x,rfl,t,i,hx,K,N⟩;have a2:w.heap.size+1<=x.lo:=by simpa using K
 have b0:w.heap.size+1<=j.heap.size:=by have:=i.size; simpa using this
 have o:=Y1 (t.alloc (.cells (Y7 x.t x.q) 40));have q:=Y1 (((ZcF (F:= [bp]) z.out).trans i).alloc (.cells (Y7 x.t x.q) 40));have r:=Y1 (show x.Is _ from New.below hx (Z01 j (.cells (Y7 x.t x.q) 40)));have k:=Y1 (ZcP j (.int .i64 x.t.kind) (.string ⟨x.t.of_.toArray⟩) (.string ⟨x.t.name.toArray⟩) (.int .i64 x.t.n) (.slice x.q.A x.t.names.length x.q.c) (.slice x.q.V x.t.vars.length x.q.e) (.slice x.q.S x.t.shapes.length x.q.s) (.slice x.q.P x.t.parts.length x.q.d) (.int .i64 x.t.at_) 40);have s:=Y1 ((H.out.up i (by simp; omega)).below (Z01 j (.cells (Y7 x.t x.q) 40)));have a9:bp < j.heap.size:=t.lt;have W:=Y1 N;clear t i hx K N n H z;simp only[valT]
 go_wp2_with fail
 have J:=Y1 (show j.heap.size+1=(j.alloc (.cells (Y7 x.t x.q) 40)).heap.size by simp);generalize j.alloc (.cells (Y7 x.t x.q) 40)=W1 at J o q r k s ⊢;refine (p.out W1 o.out _ J.out).mono ?_;rintro e w2 ⟨rfl,L,d⟩;have D:=Y1 L;have E:=Y1 (q.out.trans d);have G:=Y1 (show x.Is w2 from New.up r.out d (by simp; omega));have B:=Y1 (k.out.up d (by simp; omega));have I:=Y1 (s.out.up d (by simp; omega));clear L d p o q r k s
 go_wp2_with fail
 refine (U.out w2 D.out).mono ?_;rintro e w3 ⟨v3,rfl,M,f⟩;have Q:=Y1 M;have T:=Y1 (E.out.trans f);have V:=Y1 (show x.Is w3 from New.up G.out f (by simp; omega));obtain ⟨r0,r1,r2,r3,r4,r5,r6,r7,r8,g,rl⟩:=I.out.up f (by simp; omega);obtain ⟨x0,x1,x2,x3,x4,x5,x6,x7,x8,xf,xl⟩:=B.out.up f (by simp; omega);have f0:=g 0;have f1:=g 1;have f2:=g 2;have f3:=g 3;have f4:=g 4;have f5:=g 5;have f6:=g 6;have f7:=g 7;have f8:=g 8;clear M f U D E G B I g xf;go_wp2;refine bodyPost_ret (v:=valT x) (by simp[results,Tryz.results166,go_sem,valT,r0,r1,r2,r3,r4,r5,r6,r7,r8,rl]) rfl ?_;have u:=end9 Q.out T.out V.out (rb:=w.heap.size) (Nat.le_refl _) (Or.inl (by omega)) X;exact ⟨x,rfl,(u _ _ _ _ _ _ _ _ _).1,(u _ _ _ _ _ _ _ _ _).2.1,(u _ _ _ _ _ _ _ _ _).2.2,by omega,W.out⟩
end
end Go.Proofs.YtgndehppmaacaaaGreatDoor
namespace Lex
theorem ZlO {c:UInt8} (h:digit c=true):lumpB c=true:=by unfold lumpB; rw[h]; simp
theorem Zkp {c:UInt8} (h:digit c=true):small c=false/\great c=false/\blank c=false:=by
 unfold digit at h;simp only[Bool.and_eq_true,decide_eq_true_eq] at h;refine ⟨?_, ?_, ?_⟩
 {unfold small; simp; omega}
 {unfold great; simp; omega}
 {unfold blank;have k: ∀n:UInt8,(c==n)=true->c.toNat=n.toNat:=fun n e=>by rw[eq_of_beq e]
  have b: (c==9)=false:=by cases e: (c==9) with | false=>rfl | true=>have:=k 9 e; simp at this; omega
  have e10: (c==10)=false:=by cases e: (c==10) with | false=>rfl | true=>have:=k 10 e; simp at this; omega
  have e13: (c==13)=false:=by cases e: (c==13) with | false=>rfl | true=>have:=k 13 e; simp at this; omega
  have a: (c==32)=false:=by cases e: (c==32) with | false=>rfl | true=>have:=k 32 e; simp at this; omega
  rw[b,e10,e13,a]; rfl}
theorem ZfX {p:UInt8->Bool}: ∀ {l:List UInt8},(∀x∈l,p x=true)->l.takeWhile p=l
 | [],_=>rfl
 | a::l,h=>by rw[List.takeWhile_cons,h a (by simp),if_pos rfl,ZfX (fun x hx=>h x (by simp[hx]))]
section
variable {s : List UInt8}
include s
theorem Zkq (h:number s=true):good ⟨3,s⟩:=by
 have g:=h;unfold number at h;simp only[Bool.and_eq_true,decide_eq_true_eq] at h;obtain ⟨⟨⟨a,i⟩,j⟩,_⟩:=h
 match s,i with
 | c::r,_=>
  rw[List.all_eq_true] at a;obtain ⟨d,e,f⟩:=Zkp (a c (by simp));refine ⟨c,r,rfl,by omega,f, ?_⟩;have k:=ZfX (p:=lumpB) (l:=c::r) (fun x hx=>ZlO (a x hx));have b:=a c (by simp);simp[token,d,e,b,k,g]
theorem Zkr {t:Tok} {n:Nat} (h:quoted s= .ok (t,n)):t.kind=4:=by
 unfold quoted finish at h;split at h
 {cases h}
 {split at h
  {simp only[Except.ok.injEq,Prod.mk.injEq] at h; rw[<-h.1]}
  {split at h <;> cases h}}
theorem Zks (h:good ⟨3,s⟩):number s=true:=by
 obtain ⟨c,r,b,_,_,a⟩:=h;have d:s=c::r:=b;simp only[token] at a;split at a
 {split at a
  {simp at a}
  {split at a
   {simp at a}
   {split at a <;> simp at a}}}
 {split at a
  {split at a
   {next hn=>simp only[Except.ok.injEq,Prod.mk.injEq,Tok.mk.injEq,true_and] at a; rw[<-a.1]; exact hn}
   {split at a <;> simp at a}}
  {split at a
   {have:=Zkr a; simp at this}
   {split at a
    {simp at a}
    {split at a <;> simp at a}}}}
end
theorem Zkt (s:List UInt8):mayShow [⟨3,s⟩] ↔ number s=true:=by
 constructor
 {intro h;rcases h _ (List.mem_singleton.2 rfl) with a | a
  {exact absurd a (by simp[endTok])}
  {exact Zks a}}
 {intro h t b;rw[List.mem_singleton.1 b];exact Or.inr (Zkq h)}
end Lex
namespace Prs
theorem ZkR: ∀(s:List UInt8) (a:Nat),(∀c∈s,48<=c.toNat/\c.toNat<=57)->num s (a:Int)=((s.foldl (fun a c=>10 * a+(c.toNat - 48)) a:Nat):Int)
 | [],a,_=>rfl
 | c::r,a,h=>by
  have b:=h c (by simp);have e:10 * (a:Int)+((c.toNat:Int) - 48)=((10 * a+(c.toNat - 48):Nat):Int):=by omega
  rw[num,e,ZkR r _ (fun x hx=>h x (by simp[hx]))];rfl
theorem Zig {s:List UInt8} (h:Lex.number s=true): (∀c∈s,48<=c.toNat/\c.toNat<=57)/\1<=s.length/\s.length<=15:=by
 unfold Lex.number at h;simp only[Bool.and_eq_true,decide_eq_true_eq] at h;obtain ⟨⟨⟨d,b⟩,a⟩,_⟩:=h;refine ⟨fun c hc=> ?_,b,a⟩;have:=List.all_eq_true.1 d c hc;unfold Lex.digit at this;simpa using this
theorem num_lt: ∀(s:List UInt8),(∀c∈s,48<=c.toNat/\c.toNat<=57)->Sem.num s < 10 ^ s.length
 | [],_=>by simp[Sem.num]
 | c::r,h=>by
  have a:=h c (by simp);have b:=num_lt r (fun x hx=>h x (by simp[hx]));have e:Sem.num (c::r)=(c.toNat - 48) * 10 ^ r.length+Sem.num r:=by
   show (c::r).foldl _ 0=_;rw[List.foldl_cons,Sem.Zbg]; congr 1; congr 1; omega
  rw[e,List.length_cons,Nat.pow_succ];have: (c.toNat - 48) * 10 ^ r.length<=9 * 10 ^ r.length:=Nat.mul_le_mul_right _ (by omega);omega
section
variable {s : List UInt8} (h : Lex.number s = true)
include s h
theorem num_number:num s 0=(Sem.num s:Int)/\Sem.num s < 1000000000000000:=by
 obtain ⟨b,c,a⟩:=Zig h;refine ⟨ZkR s 0 b, ?_⟩;have d:=num_lt s b;have e:10 ^ s.length<=10 ^ 15:=Nat.pow_le_pow_right (by omega) a;have: (10:Nat) ^ 15=1000000000000000:=by decide
 omega
theorem atoi_number:Go.Lib.atoiAll s= .ok (num s 0):=by
 obtain ⟨a,d,f⟩:=Zig h;obtain ⟨e,g⟩:=num_number h;have b:=Sem.ZhK s 0 a (by omega);rw[Nat.zero_mul,Nat.zero_add] at b
 match s,d with
 | c::r,_=>
  have j:=a c (by simp);have i:Go.Lib.parseMag (c::r)= .ok (Sem.num (c::r)):=by
   unfold Go.Lib.parseMag;rw[if_neg (by simp),b]
  rw[Go.Lib.atoiAll_plain c r (by omega) (by omega),i,e];show (if 9223372036854775808<=Sem.num (c::r) then Go.Lib.NumEnd.range else .ok (Sem.num (c::r):Int))=_;rw[if_neg (by omega)]
end
end Prs
namespace Go.Proofs.YtgndehppmaacaaaGreatDoor
section
open Go.RowKit
def ShowV (l:List Lex.Tok) (e:Ending):Prop:=(Lex.mayShow l/\e= .returned (.tuple #[.string ⟨(Lex.shown l).toArray⟩,.int .i64 0]))\/(¬Lex.mayShow l/\e= .returned (.tuple #[.string ⟨#[]⟩,.int .i64 60]))
theorem Zjy {l:List Lex.Tok} {t:Lex.Tok} (h:Lex.mayShow l) (b:t=Lex.endTok\/Lex.good t):Lex.mayShow (l++ [t]):=fun x a=>by
 rcases List.mem_append.1 a with a | a
 {exact h x a}
 {obtain rfl:x=t:=by simpa using a
  exact b}
theorem ZiM {l:List Tk} {k:Nat} (h:k < l.length): (l.map (·.t)).take (k+1)=(l.map (·.t)).take k++ [(l[k]'h).t]:=by
 rw[List.take_succ_eq_append_getElem (by simpa using h)]; simp
theorem ZlP (A:Option Addr) (cap:Nat) (l:List Tk) (w:World) (hA:Tks w w.heap.size A l) (hl:l.length<=10000) (hs: ∀b∈l,b.t.text.length<=100000) (hg:Globs w):
 Calls Tryz.prog 208 #[.slice A l.length cap] w fun e w'=>ShowV (l.map (·.t)) e/\Below w.heap.size w w':=by
 have HA:=Y1 hA;have HS:=Y1 hs;have HG:=Y1 hg;have HF:=Y1 (Lib.fresh_isBuilder 200 5 w);obtain ⟨ts,F⟩: ∃ts,ts=l.map (·.t):=⟨_,rfl⟩;have a1:ts.length=l.length:=by rw[F]; simp
 have V:=Y1 F;have U:=Y1 a1;rw[<-F];clear hA hs hg F a1;go_enter Tryz.func208,Tryz.ntmps208
 go_wp2_with fail
 go_loopw [10] (fun ii wr=> ∃k:Nat,ii= .int .i64 k/\k<=l.length/\Hid (Lex.mayShow (ts.take k))/\Hid (Lib.IsBuilder 200 5 w.heap.size w.heap.size (Lib.byteCells (Lex.shown (ts.take k))) wr)/\Hid (Below w.heap.size w wr))
  (fun ii _=>l.length - (intOf ii).toNat)
 case atStart=>exact ⟨0,rfl,Nat.zero_le _,Y1 (fun x I=>by rw[List.take_zero] at I; cases I),Y1 (by rw[List.take_zero]; exact HF.out),Y1 (Z01 _ _)⟩
 case round=>
  obtain ⟨k,rfl,hk,Q,HU,HB⟩:=hrel;clear HF;have O:=Lex.ZmX _ Q.out;rw[List.length_take,U.out] at O;have d2: (Lex.shown (ts.take k)).length<=4097 * 10000:=Nat.le_trans O (Nat.mul_le_mul_left _ (by omega));clear O;by_cases E:k < l.length
  {have b5: (k:Int) < (l.length:Int):=by omega
   rcases HA.out.keep HB.out (Nat.le_refl _) with h0 | ⟨g,off,rfl,d6,hc⟩
   {omega}
   {obtain ⟨p0,p1,p2⟩:=hc k E;obtain ⟨x,I⟩: ∃x,x=l[k]'E:=⟨_,rfl⟩;rw[<-I] at p0 p1 p2;have d7:x.t.text.length<=100000:=by rw[I]; exact HS.out _ (List.getElem_mem _)
    have S:Hid (ts.take (k+1)=ts.take k++ [x.t]):=Y1 (by rw[V.out,I]; exact ZiM E);have a3:x.t∈ts:=by rw[V.out,I]; exact List.mem_map.2 ⟨_,List.getElem_mem E,rfl⟩
    have b3:=Y1 a3;have HN:=Y1 (Zn1 wr x);have C:Hid (wr.heap.size < (wr.alloc (.cells #[.int .i64 x.t.kind,.string ⟨x.t.text.toArray⟩,.int .i64 x.at_] 46)).heap.size):=Y1 (by simp);have N:=Z01 wr (.cells #[.int .i64 x.t.kind,.string ⟨x.t.text.toArray⟩,.int .i64 x.at_] 46);have K:=Y1 (Zdy HU.out N);have J:=Y1 (Z03 HB.out N);clear I hc a3 N
    go_wp2_with fail
    generalize hW:wr.alloc (.cells #[.int .i64 x.t.kind,.string ⟨x.t.text.toArray⟩,.int .i64 x.at_] 46)=W1 at HN C K J ⊢;clear hW p0 p1 p2;obtain ⟨H,q1,v⟩:=HN.out;simp only[Nat.zero_add] at q1 v
    try go_wp2_with fail
    refine (ZiF x.t.kind x.t.text (by omega) x.at_ _).mono ?_;rintro e w2 ⟨rfl,j⟩;clear H q1 v;have W: (⟨x.t.kind,x.t.text⟩:Lex.Tok)=x.t:=rfl;rw[W];have B:=Y1 (HN.out.keep C.out j);have r:Hid (wr.heap.size < w2.heap.size):=Y1 (Nat.lt_of_lt_of_le C.out j.size);have f:=Y1 (Zdy K.out j);have p:=Y1 (Z03 J.out j);have L:=Y1 (Lex.Zgn x.t);have M:=Y1 (fun (b:Bool) (hb:b=true ↔ (x.t=Lex.endTok\/Lex.good x.t))=>Zkh x.t x.at_ (by omega) b hb w2 (HG.out.next p.out));have D:=Y1 (Lex.ZlF (ts.take k) x.t);obtain ⟨s,hs⟩: ∃s,s=Lex.written x.t:=⟨_,rfl⟩;rw[<-hs] at M L D ⊢;clear hs j HN C K J W;obtain ⟨H,q1,v⟩:=B.out;simp only[Nat.zero_add] at q1 v;by_cases m:x.t=Lex.endTok\/Lex.good x.t
    {have T:=Y1 (M.out true (by simp[m]));have HM2:Hid (Lex.mayShow (ts.take (k+1))):=Y1 (by rw[S.out]; exact Zjy Q.out m);have a8:=Y1 m;clear m;by_cases c:x.t=Lex.endTok
     {have b6: (x.t.kind==0)=true:=by rw[c]; rfl
      have t:Hid (Lex.shown (ts.take (k+1))=Lex.shown (ts.take k)):=Y1 (by rw[S.out,D.out,if_pos c]);clear c
      go_wp2_with fail
      refine T.out.mono ?_;rintro e w3 ⟨rfl,a⟩;have q:=Y1 (B.out.keep r.out a);have i:=Y1 (Zdy f.out a);have d:=Y1 (Z03 p.out a);clear H q1 v a;obtain ⟨H,q1,v⟩:=q.out;go_wp2
      go_roundw
      case rel=>exact ⟨k+1,by go_num,by omega,HM2,Y1 (by rw[t.out]; exact i.out),d⟩
      case measure=>simp[intOf]; omega}
     {have n:Lex.good x.t:=by
       rcases a8.out with h | h
       {exact absurd h c}
       {exact h}
      have b6: (x.t.kind==0)=false:=by rw[beq_eq_false_iff_ne]; have:=(Lex.Zgk n).1; omega
      by_cases o:Lex.kept (ts.take k)= []
      {have G: (Lex.shown (ts.take k)).length=0:=by rw[(Lex.Zgl Q.out).2 o]; rfl
       have t:Hid (Lex.shown (ts.take (k+1))=Lex.shown (ts.take k)++s):=Y1 (by rw[S.out,D.out,if_neg c,if_pos o,(Lex.Zgl Q.out).2 o]; rfl);have Y: ((Lib.byteCells (Lex.shown (ts.take k))).length:Int)=0:=by rw[Lib.byteCells_length,G]; rfl
       have a7:=Y1 Y;clear c n o G Y
       go_wp2_with fail
       refine T.out.mono ?_;rintro e w3 ⟨rfl,a⟩;have q:=Y1 (B.out.keep r.out a);have i:=Y1 (Zdy f.out a);have d:=Y1 (Z03 p.out a);clear H q1 v a;obtain ⟨H,q1,v⟩:=q.out
       go_wp2_with fail
       refine (Tryz.builder_len _ _ _ _ i.out).mono ?_;rintro e w4 ⟨Z,rfl⟩;rw[a7.out] at Z;subst Z
       go_wp2_with fail
       refine (Tryz.builder_write _ _ _ _ _ i.out (by rw[Z0J,Lib.byteCells_length]; have:=L.out; omega) d.out.size).mono ?_;rintro e w5 ⟨rfl,hu5,u⟩;have HU5:Hid (Lib.IsBuilder 200 5 w.heap.size w.heap.size (Lib.byteCells (Lex.shown (ts.take (k+1)))) w5):=Y1 (Or.inr (by rw[t.out,Lib.byteCells_append]; exact hu5));have y:=Y1 (d.out.trans u);clear hu5 u;go_wp2
       go_roundw
       case rel=>exact ⟨k+1,by go_num,by omega,HM2,HU5,y⟩
       case measure=>simp[intOf]; omega}
      {have G:0 < (Lex.shown (ts.take k)).length:=by
        rcases Nat.eq_zero_or_pos (Lex.shown (ts.take k)).length with h | h
        {exact absurd ((Lex.Zgl Q.out).1 (List.eq_nil_of_length_eq_zero h)) o}
        {exact h}
       have t:Hid (Lex.shown (ts.take (k+1))=(Lex.shown (ts.take k)++ [32])++s):=Y1 (by rw[S.out,D.out,if_neg c,if_neg o]; simp);obtain ⟨z,P⟩: ∃z:Nat,z=(Lib.byteCells (Lex.shown (ts.take k))).length:=⟨_,rfl⟩;have d8: (0:Int) < (z:Int):=by rw[P,Lib.byteCells_length]; omega
       have b4:=Y1 P;clear c n o G P
       go_wp2_with fail
       refine T.out.mono ?_;rintro e w3 ⟨rfl,a⟩;have q:=Y1 (B.out.keep r.out a);have i:=Y1 (Zdy f.out a);have d:=Y1 (Z03 p.out a);clear H q1 v a;obtain ⟨H,q1,v⟩:=q.out
       go_wp2_with fail
       refine (Tryz.builder_len _ _ _ _ i.out).mono ?_;rintro e w4 ⟨Z,rfl⟩;rw[<-b4.out] at Z;subst Z
       go_wp2_with fail
       refine (Tryz.builder_write _ _ _ ⟨#[32]⟩ _ i.out (by rw[show (⟨#[32]⟩:ByteArray).size=1 from rfl,Lib.byteCells_length]; omega) d.out.size).mono ?_;rintro e w5 ⟨rfl,hu5,u⟩;have HU5:Hid (Lib.IsBuilder 200 5 w.heap.size w.heap.size (Lib.byteCells (Lex.shown (ts.take k)++ [32])) w5):=Y1 (Or.inr (by rw[Lib.byteCells_append]; exact hu5));have y:=Y1 (d.out.trans u);clear hu5 u H q1 v
       go_wp2_with fail
       refine (Tryz.builder_write _ _ _ _ _ HU5.out (by rw[Z0J,Lib.byteCells_length,List.length_append]; simp; have:=L.out; omega) y.out.size).mono ?_;rintro e w6 ⟨rfl,a2,X⟩;have b1:Hid (Lib.IsBuilder 200 5 w.heap.size w.heap.size (Lib.byteCells (Lex.shown (ts.take (k+1)))) w6):=Y1 (Or.inr (by rw[t.out,Lib.byteCells_append]; exact a2));have a6:=Y1 (y.out.trans X);clear a2 X;go_wp2
       go_roundw
       case rel=>exact ⟨k+1,by go_num,by omega,HM2,b1,a6⟩
       case measure=>simp[intOf]; omega}}}
    {have T:=Y1 (M.out false (by simp[m]));have b0:Hid (¬Lex.mayShow ts):=Y1 (fun h=>m (h _ b3.out));clear m
     go_wp2_with fail
     refine T.out.mono ?_;rintro e w3 ⟨rfl,a⟩;have d:=Y1 (Z03 p.out a);go_wp2
     go_ret2
     exact ⟨Or.inr ⟨b0.out,rfl⟩,d.out⟩}}}
  {have b5: ¬(k:Int) < (l.length:Int):=by omega
   have S:Hid (ts.take k=ts):=Y1 (List.take_of_length_le (by rw[U.out]; omega));have f:=HU.out;have HM2:=Q.out;rw[S.out] at f HM2;have b2:=Y1 f;have a9:=Y1 HM2;clear f HM2
   go_wp2_with fail
   refine (Tryz.builder_text _ _ _ _ b2.out HB.out.size).mono ?_;rintro e w2 ⟨rfl,j⟩;go_wp2
   go_ret2
   exact ⟨Or.inl ⟨a9.out,rfl⟩,HB.out.trans j⟩}
end
section
open Go.RowKit Tms
open Shp (Sh)
open Pso (St Ok Goes betw loop want)
theorem ZhV (s:List UInt8) (o:s.length<=100000) (w:World) (n:Gl w):
 Y9 196 #[.string ⟨s.toArray⟩] w (.bool (Lex.number s)):=by
 have hb0:=Z01 w (.cells #[.int .i64 3,.string ⟨s.toArray⟩,.int .i64 0] 46);obtain ⟨k,c1,c2⟩:=ZkQ w ⟨⟨3,s⟩,0⟩;have l:Tks (w.alloc (.cells #[.int .i64 3,.string ⟨s.toArray⟩,.int .i64 0] 46)) (w.alloc (.cells #[.int .i64 3,.string ⟨s.toArray⟩,.int .i64 0] 46)).heap.size (some ⟨w.heap.size,0,none⟩) [⟨⟨3,s⟩,0⟩]:=by
  refine Or.inr ⟨w.heap.size,0,rfl,by simp,fun i hi=> ?_⟩;have m:i=0:=by simpa using hi
  subst m;exact ⟨k,c1,c2⟩
 have d:=Y1 (ZlP (some ⟨w.heap.size,0,none⟩) 1 [⟨⟨3,s⟩,0⟩] _ l (by simp) (by simp; exact o) (n.next hb0).g);have b:=Y1 hb0;have j:=Y1 (Lex.Zkt s);clear hb0 k c1 c2 l;go_enter Tryz.func196,Tryz.ntmps196
 go_wp2_with fail
 refine d.out.mono ?_;rintro e q ⟨p,f⟩;have c:=Y1 (Z03 b.out f);clear f d b;rcases p with ⟨g,rfl⟩ | ⟨g,rfl⟩
 {have a:Lex.number s=true:=j.out.1 g;have h:=Y1 a;clear g a;go_wp2;go_ret;exact ⟨by rw[h.out]; rfl,c.out⟩}
 {have a:Lex.number s=false:=by
   cases e:Lex.number s with
   | false=>rfl
   | true=>exact absurd (j.out.2 e) g
  have h:=Y1 a;clear g a;go_wp2;go_ret;exact ⟨by rw[h.out]; rfl,c.out⟩}
theorem Zna (l:List Tk) (σ:St) (w:World) (f:Gl w) (j: ∀b∈l,b.t.text.length<=1000000):Calls Tryz.prog 195 #[.string ⟨(Pso.textOf l σ 3 Lex.number).1.toArray⟩] w fun e w'=>(∃v1,e= .returned (.tuple #[.int .i64 (Prs.num (Pso.textOf l σ 3 Lex.number).1 0),v1]))/\Below w.heap.size w w':=by
 unfold Pso.textOf;split
 {next h=>
  simp only[Bool.and_eq_true,decide_eq_true_eq] at h;have a:=Pso.kind_lt (l:=l) (i:=σ.1) (by rw[h.1]; decide);have m: (Prs.look l σ.1).t.text.length<=1000000:=by rw[Prs.look_in a]; exact j _ (List.getElem_mem _)
  exact (Zgt _ (by omega) _ (Prs.atoi_number h.2) w).mono (fun e w' h=>⟨⟨_,h.1⟩,h.2⟩)}
 {obtain ⟨k,pe,a⟩:=f.g.syn;have c:Lib.atoiAll ([]:List UInt8)= .syntax:=by rfl
  have g:=Any.strconv_Atoi_syntax Tryz.lays172 ⟨([]:List UInt8).toArray⟩ (by simp[ByteArray.size]) c _ w a (Or.inr ⟨k,pe,rfl⟩);refine Calls.mono g ?_;rintro e w' ⟨N,rfl,_,_,d⟩;exact ⟨⟨_,rfl⟩,d⟩}
theorem Zku (bp:Nat) (A:Option Addr) (c:Nat) (l:List Tk) (σ:St) (a:Int) (u:TokOk l) (M: -9223372036854775808<=a/\a<=9223372036854775807) (U:Ok l σ) (w:World) (h:PAt w bp A c l σ):
 Calls Tryz.prog 169 #[.pointer (some ⟨bp,0,none⟩),.int .i64 a] w (TmIs bp A c l ({ Prs.tm 1 a with n:=Prs.num (Pso.textOf l σ 3 Lex.number).1 0 },(Pso.textOf l σ 3 Lex.number).2) w):=by
 have I:=h.lt;have K:=u.len;have hb0:=Z01 w (.cells Ya 40);have B:=ZcP w (.int .i64 0) (.string ⟨#[]⟩) (.string ⟨#[]⟩) (.int .i64 0) (.slice none 0 0) (.slice none 0 0) (.slice none 0 0) (.slice none 0 0) (.int .i64 0) 40;have p:=h.below hb0;have E:=Y1 (Zew bp A c l σ 3 (by decide) 196 (enters_of Tryz.func196 (by kernel_rfl) rfl) Lex.number (by omega) U.1 u.txt _ p (fun W hW C=>ZhV _ (by
  have L:=Pso.kind_lt (l:=l) (i:=σ.1) (by rw[C]; decide);rw[Prs.look_in L]; exact u.t2 _ (List.getElem_mem L)) W (p.gs.gl.next hW)))
 have f:=Y1 (fun (w:World) (hg:Gl w)=>Zna l σ w hg u.txt);have j: -9223372036854775808<=Prs.num (Pso.textOf l σ 3 Lex.number).1 0/\Prs.num (Pso.textOf l σ 3 Lex.number).1 0<=9223372036854775807:=by
  unfold Pso.textOf;split
  {next h=>
   simp only[Bool.and_eq_true,decide_eq_true_eq] at h;obtain ⟨e,Q⟩:=Prs.num_number h.2;simp only[e]; omega}
  {exact ⟨show (-9223372036854775808:Int)<=0 by decide,show (0:Int)<=9223372036854775807 by decide⟩}
 have q:=Y1 hb0;have s:=Y1 B;have m:=Y1 j;obtain ⟨y,N⟩: ∃y,y=Pso.textOf l σ 3 Lex.number:=⟨_,rfl⟩;rw[<-N] at E f m ⊢;obtain ⟨k,C⟩: ∃k,k=Prs.num y.1 0:=⟨_,rfl⟩;rw[<-C] at f m ⊢;have P:=Y1 M;clear h hb0 B p j N C u M;go_enter Tryz.func169,Tryz.ntmps169
 go_wp2_with fail
 refine E.out.mono ?_;rintro e O ⟨rfl,z,g⟩;have S:w.heap.size+1<=O.heap.size:=by have:=g.size; simpa using this
 have o:=Y1 z;have r:=Y1 ((ZcF (F:= [bp]) q.out).trans g);have t:=Y1 (s.out.up g (by simp; omega));clear z g E q s
 go_wp2_with fail
 refine (f.out O o.out.gs.gl).mono ?_;rintro e J ⟨⟨v1,rfl⟩,b⟩;have T:=b.size;have D:=Y1 (o.out.below b);have G:=Y1 (r.out.below b);obtain ⟨V,X,Y,Z,r4,r5,r6,r7,r8,d,rl⟩:=t.out.below b;have f0:=d 0;have f1:=d 1;have f2:=d 2;have f3:=d 3;have f4:=d 4;have f5:=d 5;have f6:=d 6;have f7:=d 7;have f8:=d 8;clear b f o r t d;go_wp2;refine bodyPost_ret (v:=valT ⟨mkT ⟨1,[],[],k,a⟩ TR.none_,mkQ TR.none_,J.heap.size,J.heap.size⟩) (by simp[results,Tryz.results169,go_sem,valT,mkT,mkQ,TR.none_,V,X,Y,Z,r4,r5,r6,r7,r8,rl]) rfl ?_;have H:=end9 D.out G.out (Zel J ⟨1,[],[],k,a⟩ ⟨by simp,by simp,m.out,P.out,by simp⟩) (rb:=w.heap.size) (Nat.le_refl _) (Or.inl (by simp only; omega)) I;exact ⟨_,rfl,(H _ _ _ _ _ _ _ _ _).1,(H _ _ _ _ _ _ _ _ _).2.1,(H _ _ _ _ _ _ _ _ _).2.2,by simp only; omega,rfl,Ze1 _⟩
end
end Go.Proofs.YtgndehppmaacaaaGreatDoor
