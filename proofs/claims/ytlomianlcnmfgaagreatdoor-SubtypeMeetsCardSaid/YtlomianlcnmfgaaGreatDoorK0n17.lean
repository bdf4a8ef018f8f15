/- What the proofs of SubtypeJoins, SubtypeMeets want, part 17. -/
import Derived.Test.YtlomianlcnmfgaaGreatDoorK0n16
set_option linter.unusedVariables false
set_option linter.unusedSimpArgs false
set_option linter.unusedSectionVars false
set_option maxRecDepth 100000
set_option maxHeartbeats 16000000
namespace Go.Proofs.YtlomianlcnmfgaaGreatDoor
open Go.RowKit Shp Sub
namespace SubM
def DocOk (up:Bool):Prop:=
 ∀(a b:Sh) (pa pb:Ptr) (w:World),Two 40 a b->ShAt w w.heap.size pa a->ShAt w w.heap.size pb b->
  Calls Tryz.prog (dfn up) #[.agg (Y8 a pa),.agg (Y8 b pb)] w fun e w'=> ∃(t:Sh) (q:Ptr),e= .returned (.tuple #[.agg (Y8 t q),.bool (bound 40 up a b).isSome])/\(∀j,bound 40 up a b=some j->t=j/\ShAt w' w'.heap.size q t)/\Below w.heap.size w w'
theorem ZcB {up:Bool} {a b t:Sh} (ca:check a=0) (cb:check b=0) (h: ∀j,bound 40 up a b=some j->t=j):wholeO t (bound 40 up a b).isSome=J up a b:=by
 have hJ:J up a b=whole (bound 40 up a b):=by unfold J; exact if_pos ⟨ca,cb⟩
 rw[hJ];unfold whole wholeO;cases e:bound 40 up a b with
 | none=>rfl
 | some j=>rw[h j e]; simp
end SubM
end Go.Proofs.YtlomianlcnmfgaaGreatDoor
namespace Sub
open Shp Go.Proofs.YtlomianlcnmfgaaGreatDoor
theorem Z1a {t:Sh} (h:Rec t) {i:Nat} (h1:i < t.names.length) (h2:i < t.parts.length):get t (t.names[i]'h1)=some (t.parts[i]'h2):=Z5e h.nodup h1 h2
section
variable {f : Nat} {a b : Sh}
theorem Z0d {t:Sh} (h:right t=true) (hk:t.kind=6\/t.kind=7):Rec t:=Z0p (Z0b h) hk
end
end Sub
namespace Sub
open Shp Go.Proofs.YtlomianlcnmfgaaGreatDoor
section
variable {a b : Sh} {g : Sh -> Sh -> Option Sh} {s : Cl -> Option Fld}
theorem callsA_len (A:Rec a): (callsA a b).length=a.names.length:=by
 unfold callsA; rw[List.length_map,List.length_zip, <-A.l,Nat.min_self]
theorem callsA_at (A:Rec a) {i:Nat} (h1:i < a.names.length) (h2:i < a.parts.length) (h:i < (callsA a b).length): (callsA a b)[i]'h=(a.names[i]'h1,some (a.parts[i]'h2),get b (a.names[i]'h1)):=by
 simp[callsA]
theorem Zdx: (callsB a b).filterMap (narrowStep g)= []:=by
 unfold callsB;rw[List.filterMap_eq_nil_iff];intro c hc;obtain ⟨x,_,rfl⟩:=List.mem_map.1 hc;rfl
theorem ZcO: (calls a b).filterMap (narrowStep g)=(callsA a b).filterMap (narrowStep g):=by
 unfold calls; rw[List.filterMap_append,Zdx,List.append_nil]
theorem ZdD {l:List Cl} {i:Nat} (h:i < l.length): (l.take (i+1)).filterMap s=(l.take i).filterMap s++(s (l[i]'h)).toList:=by
 rw[List.take_succ_eq_append_getElem h,List.filterMap_append];congr 1
theorem ZcC:allOf s []=some []:=rfl
theorem ZbX (c:Cl) (l:List Cl):allOf s (c::l)=(s c).bind (fun x=>(allOf s l).map (fun xs=>x::xs)):=rfl
theorem Zc3 (l m:List Cl):allOf s (l++m)=(allOf s l).bind (fun x=>(allOf s m).map (fun y=>x++y)):=by
 induction l with
 | nil=>rw[List.nil_append,ZcC]; cases allOf s m <;> rfl
 | cons c l ih=>
  rw[List.cons_append,ZbX,ZbX,ih];cases s c with
  | none=>rfl
  | some x=>
   cases allOf s l with
   | none=>rfl
   | some y=>cases allOf s m <;> rfl
section
variable {l : List Cl} {i : Nat} (h : i < l.length)
include l i h
theorem Zcp:allOf s (l.take (i+1))=(allOf s (l.take i)).bind (fun x=>(s (l[i]'h)).map (fun y=>x++ [y])):=by
 rw[List.take_succ_eq_append_getElem h,Zc3];cases e:s (l[i]'h) with
 | none=>rw[ZbX,e]; cases allOf s (l.take i) <;> rfl
 | some x=>rw[ZbX,e,ZcC]; cases allOf s (l.take i) <;> rfl
theorem Zda (e:s (l[i]'h)=none):allOf s l=none:=by
 rw[<-List.take_append_drop (i+1) l,Zc3,Zcp h,e];cases allOf s (l.take i) <;> rfl
end
theorem ZdL:allOf (wideStep g) (callsB a b)=some ((b.names.zip b.parts).filter (fun x=>(get a x.1).isNone)):=by
 unfold callsB;induction (b.names.zip b.parts).filter (fun x=>(get a x.1).isNone) with
 | nil=>rfl
 | cons x l ih=>rw[List.map_cons,ZbX,ih]; rfl
theorem ZdE {l:List Fld} {p:Fld->Bool} {i:Nat} (h:i < l.length): (l.take (i+1)).filter p=(l.take i).filter p++(if p (l[i]'h)=true then [l[i]'h] else []):=by
 rw[List.take_succ_eq_append_getElem h,List.filter_append];congr 1;by_cases e:p (l[i]'h)=true
 {rw[if_pos e,List.filter_cons_of_pos e]; rfl}
 {rw[if_neg e,List.filter_cons_of_neg e]; rfl}
section
variable {f : Nat} {up : Bool} (ra : right a = true) (rb : right b = true)
include f up ra rb
theorem Zcq (hd: ¬(a.kind=b.kind/\a.of_=b.of_/\a.name=b.name)):bound (f+1) up a b=none:=by
 unfold bound;by_cases hk:a.kind=b.kind
 {rw[if_neg (by simpa using hk)];by_cases h6:a.kind=6\/a.kind=7
  {have h1:=(Z0d ra h6).b;have h2:=(Z0d rb (by rw[<-hk]; exact h6)).b;unfold bare at h1 h2;simp only[Bool.and_eq_true,decide_eq_true_eq] at h1 h2;exact absurd ⟨hk,by simp_all,by simp_all⟩ hd}
  {rw[if_neg (fun h=>h6 (Z0w h)),if_neg (fun h=>h6 (Z0D h)),if_neg (fun h=>hd ⟨hk,h.1,h.2⟩)]}}
 {rw[if_pos (by simpa using hk)]}
theorem Zcr (hk:a.kind=b.kind) (ho:a.of_=b.of_) (hn:a.name=b.name) (h5:a.kind≠5) (h6:a.kind≠6) (h7:a.kind≠7) (h8:a.kind≠8):bound (f+1) up a b=some a:=by
 have hp:a.parts= []/\a.names= []:=by
  rcases Z1C (Z0b ra) with h | h | h | h | h
  {exact ⟨h.2.2.2,h.2.2.1⟩}
  {exact absurd h.1 h5}
  {rcases h.1 with h | h
   {exact absurd h h6}
   {exact absurd h h7}}
  {exact absurd h.1 h8}
  {exact ⟨h.2.2.1,h.2.1⟩}
 have hq:b.parts= []:=by
  rcases Z1C (Z0b rb) with h | h | h | h | h
  {exact h.2.2.2}
  {exact absurd (hk.trans h.1) h5}
  {rcases h.1 with h | h
   {exact absurd (hk.trans h) h6}
   {exact absurd (hk.trans h) h7}}
  {exact absurd (hk.trans h.1) h8}
  {exact h.2.2.1}
 have hn67: ¬(a.kind=6\/a.kind=7):=fun h=>h.elim h6 h7;unfold bound;rw[if_neg (by simpa using hk),if_neg (fun h=>hn67 (Z0w h)),if_neg (fun h=>hn67 (Z0D h)),if_pos ⟨ho,hn⟩,hp.1,hq];unfold placesOf;cases a;simp_all
end
theorem bare_of {t:Sh} (h:right t=true) (h9:t.kind≠9) (h10:t.kind≠10):t.of_= []/\t.name= []:=by
 have hb:bare t=true:=by
  cases hb:bare t with
  | true=>rfl
  | false=>have:=Z0b h; rw[Z17 (by omega) hb] at this; cases this
 unfold bare at hb;simp only[Bool.and_eq_true,decide_eq_true_eq] at hb;exact ⟨by simp_all,by simp_all⟩
section
variable {f : Nat} {up : Bool}
include f up
theorem Zc4 (ra:right a=true) (hk:a.kind=b.kind) (ho:a.of_=b.of_) (hn:a.name=b.name) (h5:a.kind=5\/a.kind=8):
 bound (f+1) up a b=(placesOf (bound f (!up)) (bound f up) a.parts b.parts).map (fun ps=>⟨a.kind,[],[],[],ps⟩):=by
 have hn67: ¬(a.kind=6\/a.kind=7):=by omega
 have he:=bare_of ra (by omega) (by omega)
 conv=>lhs; unfold bound
 rw[if_neg (by simpa using hk),if_neg (fun h=>hn67 (Z0w h)),if_neg (fun h=>hn67 (Z0D h)),if_pos ⟨ho,hn⟩,he.1,he.2]
theorem Zcs (ra:right a=true) (rb:right b=true) (hk:a.kind=b.kind) (ho:a.of_=b.of_) (hn:a.name=b.name) (h5:a.kind=5):
 ∃x y,a.parts= [x]/\b.parts= [y]/\bound (f+1) up a b=(bound f up x y).map (fun z=>⟨5,[],[],[],[z]⟩):=by
 have one: ∀t:Sh,right t=true->t.kind=5-> ∃x,t.parts= [x]:=fun t hr h5=>by
  have hl:t.parts.length=1:=by rcases Z1C (Z0b hr) with h | h | h | h | h <;> omega
  exact List.length_eq_one_iff.1 hl
 obtain ⟨x,hx⟩:=one a ra h5;obtain ⟨y,hy⟩:=one b rb (hk▸h5);refine ⟨x,y,hx,hy, ?_⟩;rw[Zc4 ra hk ho hn (Or.inl h5),hx,hy,h5];unfold placesOf;rw[if_pos (show ([]:List Sh).isEmpty=true from rfl)];cases bound f up x y with
 | none=>rfl
 | some z=>unfold placesOf; rfl
theorem Zce (hk:a.kind=b.kind) (h:Narrow up a.kind):bound (f+1) up a b=some (made a.kind ((callsA a b).filterMap (narrowStep (bound f up)))):=by
 conv=>lhs; unfold bound
 rw[if_neg (by simpa using hk),if_pos h,ZcO]
theorem Zct (hk:a.kind=b.kind) (h:Wide up a.kind):bound (f+1) up a b=(allOf (wideStep (bound f up)) (callsA a b)).map (fun l=>made a.kind (l++(b.names.zip b.parts).filter (fun x=>(get a x.1).isNone))):=by
 conv=>lhs; unfold bound
 rw[if_neg (by simpa using hk),if_neg (fun h2=>Z0R h2 h),if_pos h];unfold calls;rw[Zc3,ZdL];cases allOf (wideStep (bound f up)) (callsA a b) <;> rfl
end
end
end Sub
namespace Go.Proofs.YtlomianlcnmfgaaGreatDoor
open Go.RowKit Shp Sub
namespace SubM
section
variable {f : Nat} (a b : Sh) (pa pb : Ptr) (n0 : Nat) (w : World) (h2 : Two (f + 1) a b) (ha : ShAt w n0 pa a) (hb : ShAt w n0 pb b) (hn : n0 <= w.heap.size)
include f a b pa pb n0 w h2 ha hb hn
theorem Zdj (hd: ¬(a.kind=b.kind/\a.of_=b.of_/\a.name=b.name)):
 Calls Tryz.prog 21 #[.agg (Y8 a pa),.agg (Y8 b pb)] w (BIs (f+1) true a b n0 w):=by
 have HN:Hid (bound (f+1) true a b=none):=Y1 (Zcq h2.ra h2.rb hd);have hx1:=Z01 w (.cells (Y8 a pa) 25);obtain ⟨u1,hu1⟩: ∃u1,w.alloc (.cells (Y8 a pa) 25)=u1:=⟨_,rfl⟩;have hs1:u1.heap.size=w.heap.size+1:=by rw[<-hu1]; simp
 have hy1:=Z05 w a pa;rw[hu1] at hx1 hy1;have hx2:=Z01 u1 (.cells (Y8 b pb) 25);obtain ⟨u2,hu2⟩: ∃u2,u1.alloc (.cells (Y8 b pb) 25)=u2:=⟨_,rfl⟩;have hs2:u2.heap.size=w.heap.size+1+1:=by rw[<-hu2]; simp[hs1]
 have hy2:=Z05 u1 b pb;rw[hu2] at hx2 hy2;rw[hs1] at hy2;have hx3:=Z01 u2 (.cells Yb 25);obtain ⟨W1,hW1⟩: ∃W,u2.alloc (.cells Yb 25)=W:=⟨_,rfl⟩;have hz:Box5 W1 (w.heap.size+1+1) Z0c noneQ12:=by rw[<-hW1, <-hs2]; exact Z05 u2 Z0c noneQ12
 rw[hW1] at hx3;have hb23:=Z00 hx2 hx3;have hb13:=Z00 hx1 hb23;have hxa:=hy1.next hb23;have hxb:=hy2.next hx3;have HB1:=Y1 hb13;obtain ⟨_,⟨a0,a1,a2,a3,a4⟩,_⟩:=hxa;obtain ⟨_,⟨b0,b1,b2,b3,b4⟩,_⟩:=hxb;obtain ⟨_,⟨r0,r1,r2,r3,r4⟩,y0,y1,y2,y3,y4⟩:=hz;simp only[Nat.zero_add] at a0 a1 a2 a3 a4 b0 b1 b2 b3 b4 r0 r1 r2 r3 r4;by_cases h1:a.kind=b.kind
 {have n1: (a.kind !=b.kind)=false:=by rw[h1]; simp
  have e1: (a.kind==b.kind)=true:=by rw[h1]; simp
  by_cases h3:a.of_=b.of_
  {have n2: (a.of_ !=b.of_)=false:=by rw[h3]; simp
   have e2: (a.of_==b.of_)=true:=by rw[h3]; simp
   have h4:a.name≠b.name:=fun h4=>hd ⟨h1,h3,h4⟩;have e3: (a.name==b.name)=false:=by simpa using h4
   have n3: (a.name !=b.name)=true:=by unfold bne; rw[e3]; rfl
   clear hx1 hx2 hx3 hy1 hy2 hb23 hb13 ha hb h2 hd hn h1 h3 h4;go_enter Tryz.func21,Tryz.ntmps21;go_wp2;refine bodyPost_ret (v:= .tuple #[.agg #[.int .i64 0,.string ⟨#[]⟩,.string ⟨#[]⟩,.slice none 0 0,.slice none 0 0],.bool false]) (by simp[results,Tryz.results21,go_sem,r0,r1,r2,r3,r4]) rfl ?_;exact ⟨Z0c,noneQ12,by rw[HN.out]; rfl,Z1n HB1.out (by omega) _ _ _ _ _,fun j hj=>by rw[HN.out] at hj; cases hj⟩}
  {have e2: (a.of_==b.of_)=false:=by simpa using h3
   have n2: (a.of_ !=b.of_)=true:=by unfold bne; rw[e2]; rfl
   clear hx1 hx2 hx3 hy1 hy2 hb23 hb13 ha hb h2 hd hn h1 h3;go_enter Tryz.func21,Tryz.ntmps21;go_wp2;refine bodyPost_ret (v:= .tuple #[.agg #[.int .i64 0,.string ⟨#[]⟩,.string ⟨#[]⟩,.slice none 0 0,.slice none 0 0],.bool false]) (by simp[results,Tryz.results21,go_sem,r0,r1,r2,r3,r4]) rfl ?_;exact ⟨Z0c,noneQ12,by rw[HN.out]; rfl,Z1n HB1.out (by omega) _ _ _ _ _,fun j hj=>by rw[HN.out] at hj; cases hj⟩}}
 {have e1: (a.kind==b.kind)=false:=by simpa using h1
  have n1: (a.kind !=b.kind)=true:=by unfold bne; rw[e1]; rfl
  clear hx1 hx2 hx3 hy1 hy2 hb23 hb13 ha hb h2 hd hn h1;go_enter Tryz.func21,Tryz.ntmps21;go_wp2;refine bodyPost_ret (v:= .tuple #[.agg #[.int .i64 0,.string ⟨#[]⟩,.string ⟨#[]⟩,.slice none 0 0,.slice none 0 0],.bool false]) (by simp[results,Tryz.results21,go_sem,r0,r1,r2,r3,r4]) rfl ?_;exact ⟨Z0c,noneQ12,by rw[HN.out]; rfl,Z1n HB1.out (by omega) _ _ _ _ _,fun j hj=>by rw[HN.out] at hj; cases hj⟩}
theorem Zdk (hk:a.kind=b.kind) (ho:a.of_=b.of_) (hnm:a.name=b.name) (h5:a.kind≠5) (h6:a.kind≠6) (h7:a.kind≠7) (h8:a.kind≠8):
 Calls Tryz.prog 21 #[.agg (Y8 a pa),.agg (Y8 b pb)] w (BIs (f+1) true a b n0 w):=by
 have HN:Hid (bound (f+1) true a b=some a):=Y1 (Zcr h2.ra h2.rb hk ho hnm h5 h6 h7 h8);have hx1:=Z01 w (.cells (Y8 a pa) 25);obtain ⟨u1,hu1⟩: ∃u1,w.alloc (.cells (Y8 a pa) 25)=u1:=⟨_,rfl⟩;have hs1:u1.heap.size=w.heap.size+1:=by rw[<-hu1]; simp
 have hy1:=Z05 w a pa;rw[hu1] at hx1 hy1;have hx2:=Z01 u1 (.cells (Y8 b pb) 25);obtain ⟨u2,hu2⟩: ∃u2,u1.alloc (.cells (Y8 b pb) 25)=u2:=⟨_,rfl⟩;have hs2:u2.heap.size=w.heap.size+1+1:=by rw[<-hu2]; simp[hs1]
 have hy2:=Z05 u1 b pb;rw[hu2] at hx2 hy2;rw[hs1] at hy2;have hx3:=Z01 u2 (.cells Yb 25);obtain ⟨W1,hW1⟩: ∃W,u2.alloc (.cells Yb 25)=W:=⟨_,rfl⟩;have hz:Box5 W1 (w.heap.size+1+1) Z0c noneQ12:=by rw[<-hW1, <-hs2]; exact Z05 u2 Z0c noneQ12
 rw[hW1] at hx3;have hb23:=Z00 hx2 hx3;have hb13:=Z00 hx1 hb23;have hxa:=hy1.next hb23;have hxb:=hy2.next hx3;have HB1:=Y1 hb13;obtain ⟨_,⟨a0,a1,a2,a3,a4⟩,_⟩:=hxa;obtain ⟨_,⟨b0,b1,b2,b3,b4⟩,_⟩:=hxb;obtain ⟨_,⟨r0,r1,r2,r3,r4⟩,y0,y1,y2,y3,y4⟩:=hz;simp only[Nat.zero_add] at a0 a1 a2 a3 a4 b0 b1 b2 b3 b4 r0 r1 r2 r3 r4;have HKP:Hid (Kept (fun b=>b < n0) W1 (a,pa)):=Y1 (Kept.old (ha.keep hb13 hn) (Nat.le_trans hn hb13.size) (fun b hb=>hb));have HN0:=Y1 hn;have n1: (a.kind !=b.kind)=false:=by rw[hk]; simp
 have n2: (a.of_ !=b.of_)=false:=by rw[ho]; simp
 have n3: (a.name !=b.name)=false:=by rw[hnm]; simp
 have e1: (a.kind==b.kind)=true:=by rw[hk]; simp
 have e2: (a.of_==b.of_)=true:=by rw[ho]; simp
 have e3: (a.name==b.name)=true:=by rw[hnm]; simp
 have k5: (a.kind==5)=false:=by simpa using h5
 have k6: (a.kind==6)=false:=by simpa using h6
 have k7: (a.kind==7)=false:=by simpa using h7
 have k8: (a.kind==8)=false:=by simpa using h8
 clear hx1 hx2 hx3 hy1 hy2 hb23 hb13 ha hb h2 hn hk ho hnm h5 h6 h7 h8;go_enter Tryz.func21,Tryz.ntmps21;go_wp2;refine bodyPost_ret (v:= .tuple #[.agg (Y8 a pa),.bool true]) (by simp[results,Tryz.results21,go_sem,r0,r1,r2,r3,r4]) rfl ?_;have hu:=RX.lay_upd W1 (w.heap.size+1+1) a pa;refine ⟨a,pa,by rw[HN.out]; rfl,Z1n HB1.out (by omega) _ _ _ _ _,fun j hj=> ?_⟩;rw[HN.out] at hj;cases hj;refine ⟨rfl,(Kept.upd (S:=fun b=>b < n0) HKP.out hu (fun b _ hb e=> ?_)).more (fun b _ hb=>Or.inl hb)⟩;have e:b=w.heap.size+1+1:=e;have hb:b < n0:=hb;have:=HN0.out;omega
theorem Zdl (hd: ¬(a.kind=b.kind/\a.of_=b.of_/\a.name=b.name)):
 Calls Tryz.prog 25 #[.agg (Y8 a pa),.agg (Y8 b pb)] w (BIs (f+1) false a b n0 w):=by
 have HN:Hid (bound (f+1) false a b=none):=Y1 (Zcq h2.ra h2.rb hd);have hx1:=Z01 w (.cells (Y8 a pa) 25);obtain ⟨u1,hu1⟩: ∃u1,w.alloc (.cells (Y8 a pa) 25)=u1:=⟨_,rfl⟩;have hs1:u1.heap.size=w.heap.size+1:=by rw[<-hu1]; simp
 have hy1:=Z05 w a pa;rw[hu1] at hx1 hy1;have hx2:=Z01 u1 (.cells (Y8 b pb) 25);obtain ⟨u2,hu2⟩: ∃u2,u1.alloc (.cells (Y8 b pb) 25)=u2:=⟨_,rfl⟩;have hs2:u2.heap.size=w.heap.size+1+1:=by rw[<-hu2]; simp[hs1]
 have hy2:=Z05 u1 b pb;rw[hu2] at hx2 hy2;rw[hs1] at hy2;have hx3:=Z01 u2 (.cells Yb 25);obtain ⟨W1,hW1⟩: ∃W,u2.alloc (.cells Yb 25)=W:=⟨_,rfl⟩;have hz:Box5 W1 (w.heap.size+1+1) Z0c noneQ12:=by rw[<-hW1, <-hs2]; exact Z05 u2 Z0c noneQ12
 rw[hW1] at hx3;have hb23:=Z00 hx2 hx3;have hb13:=Z00 hx1 hb23;have hxa:=hy1.next hb23;have hxb:=hy2.next hx3;have HB1:=Y1 hb13;obtain ⟨_,⟨a0,a1,a2,a3,a4⟩,_⟩:=hxa;obtain ⟨_,⟨b0,b1,b2,b3,b4⟩,_⟩:=hxb;obtain ⟨_,⟨r0,r1,r2,r3,r4⟩,y0,y1,y2,y3,y4⟩:=hz;simp only[Nat.zero_add] at a0 a1 a2 a3 a4 b0 b1 b2 b3 b4 r0 r1 r2 r3 r4;by_cases h1:a.kind=b.kind
 {have n1: (a.kind !=b.kind)=false:=by rw[h1]; simp
  have e1: (a.kind==b.kind)=true:=by rw[h1]; simp
  by_cases h3:a.of_=b.of_
  {have n2: (a.of_ !=b.of_)=false:=by rw[h3]; simp
   have e2: (a.of_==b.of_)=true:=by rw[h3]; simp
   have h4:a.name≠b.name:=fun h4=>hd ⟨h1,h3,h4⟩;have e3: (a.name==b.name)=false:=by simpa using h4
   have n3: (a.name !=b.name)=true:=by unfold bne; rw[e3]; rfl
   clear hx1 hx2 hx3 hy1 hy2 hb23 hb13 ha hb h2 hd hn h1 h3 h4;go_enter Tryz.func25,Tryz.ntmps25;go_wp2;refine bodyPost_ret (v:= .tuple #[.agg #[.int .i64 0,.string ⟨#[]⟩,.string ⟨#[]⟩,.slice none 0 0,.slice none 0 0],.bool false]) (by simp[results,Tryz.results25,go_sem,r0,r1,r2,r3,r4]) rfl ?_;exact ⟨Z0c,noneQ12,by rw[HN.out]; rfl,Z1n HB1.out (by omega) _ _ _ _ _,fun j hj=>by rw[HN.out] at hj; cases hj⟩}
  {have e2: (a.of_==b.of_)=false:=by simpa using h3
   have n2: (a.of_ !=b.of_)=true:=by unfold bne; rw[e2]; rfl
   clear hx1 hx2 hx3 hy1 hy2 hb23 hb13 ha hb h2 hd hn h1 h3;go_enter Tryz.func25,Tryz.ntmps25;go_wp2;refine bodyPost_ret (v:= .tuple #[.agg #[.int .i64 0,.string ⟨#[]⟩,.string ⟨#[]⟩,.slice none 0 0,.slice none 0 0],.bool false]) (by simp[results,Tryz.results25,go_sem,r0,r1,r2,r3,r4]) rfl ?_;exact ⟨Z0c,noneQ12,by rw[HN.out]; rfl,Z1n HB1.out (by omega) _ _ _ _ _,fun j hj=>by rw[HN.out] at hj; cases hj⟩}}
 {have e1: (a.kind==b.kind)=false:=by simpa using h1
  have n1: (a.kind !=b.kind)=true:=by unfold bne; rw[e1]; rfl
  clear hx1 hx2 hx3 hy1 hy2 hb23 hb13 ha hb h2 hd hn h1;go_enter Tryz.func25,Tryz.ntmps25;go_wp2;refine bodyPost_ret (v:= .tuple #[.agg #[.int .i64 0,.string ⟨#[]⟩,.string ⟨#[]⟩,.slice none 0 0,.slice none 0 0],.bool false]) (by simp[results,Tryz.results25,go_sem,r0,r1,r2,r3,r4]) rfl ?_;exact ⟨Z0c,noneQ12,by rw[HN.out]; rfl,Z1n HB1.out (by omega) _ _ _ _ _,fun j hj=>by rw[HN.out] at hj; cases hj⟩}
theorem Zdm (hk:a.kind=b.kind) (ho:a.of_=b.of_) (hnm:a.name=b.name) (h5:a.kind≠5) (h6:a.kind≠6) (h7:a.kind≠7) (h8:a.kind≠8):
 Calls Tryz.prog 25 #[.agg (Y8 a pa),.agg (Y8 b pb)] w (BIs (f+1) false a b n0 w):=by
 have HN:Hid (bound (f+1) false a b=some a):=Y1 (Zcr h2.ra h2.rb hk ho hnm h5 h6 h7 h8);have hx1:=Z01 w (.cells (Y8 a pa) 25);obtain ⟨u1,hu1⟩: ∃u1,w.alloc (.cells (Y8 a pa) 25)=u1:=⟨_,rfl⟩;have hs1:u1.heap.size=w.heap.size+1:=by rw[<-hu1]; simp
 have hy1:=Z05 w a pa;rw[hu1] at hx1 hy1;have hx2:=Z01 u1 (.cells (Y8 b pb) 25);obtain ⟨u2,hu2⟩: ∃u2,u1.alloc (.cells (Y8 b pb) 25)=u2:=⟨_,rfl⟩;have hs2:u2.heap.size=w.heap.size+1+1:=by rw[<-hu2]; simp[hs1]
 have hy2:=Z05 u1 b pb;rw[hu2] at hx2 hy2;rw[hs1] at hy2;have hx3:=Z01 u2 (.cells Yb 25);obtain ⟨W1,hW1⟩: ∃W,u2.alloc (.cells Yb 25)=W:=⟨_,rfl⟩;have hz:Box5 W1 (w.heap.size+1+1) Z0c noneQ12:=by rw[<-hW1, <-hs2]; exact Z05 u2 Z0c noneQ12
 rw[hW1] at hx3;have hb23:=Z00 hx2 hx3;have hb13:=Z00 hx1 hb23;have hxa:=hy1.next hb23;have hxb:=hy2.next hx3;have HB1:=Y1 hb13;obtain ⟨_,⟨a0,a1,a2,a3,a4⟩,_⟩:=hxa;obtain ⟨_,⟨b0,b1,b2,b3,b4⟩,_⟩:=hxb;obtain ⟨_,⟨r0,r1,r2,r3,r4⟩,y0,y1,y2,y3,y4⟩:=hz;simp only[Nat.zero_add] at a0 a1 a2 a3 a4 b0 b1 b2 b3 b4 r0 r1 r2 r3 r4;have HKP:Hid (Kept (fun b=>b < n0) W1 (a,pa)):=Y1 (Kept.old (ha.keep hb13 hn) (Nat.le_trans hn hb13.size) (fun b hb=>hb));have HN0:=Y1 hn;have n1: (a.kind !=b.kind)=false:=by rw[hk]; simp
 have n2: (a.of_ !=b.of_)=false:=by rw[ho]; simp
 have n3: (a.name !=b.name)=false:=by rw[hnm]; simp
 have e1: (a.kind==b.kind)=true:=by rw[hk]; simp
 have e2: (a.of_==b.of_)=true:=by rw[ho]; simp
 have e3: (a.name==b.name)=true:=by rw[hnm]; simp
 have k5: (a.kind==5)=false:=by simpa using h5
 have k6: (a.kind==6)=false:=by simpa using h6
 have k7: (a.kind==7)=false:=by simpa using h7
 have k8: (a.kind==8)=false:=by simpa using h8
 clear hx1 hx2 hx3 hy1 hy2 hb23 hb13 ha hb h2 hn hk ho hnm h5 h6 h7 h8;go_enter Tryz.func25,Tryz.ntmps25;go_wp2;refine bodyPost_ret (v:= .tuple #[.agg (Y8 a pa),.bool true]) (by simp[results,Tryz.results25,go_sem,r0,r1,r2,r3,r4]) rfl ?_;have hu:=RX.lay_upd W1 (w.heap.size+1+1) a pa;refine ⟨a,pa,by rw[HN.out]; rfl,Z1n HB1.out (by omega) _ _ _ _ _,fun j hj=> ?_⟩;rw[HN.out] at hj;cases hj;refine ⟨rfl,(Kept.upd (S:=fun b=>b < n0) HKP.out hu (fun b _ hb e=> ?_)).more (fun b _ hb=>Or.inl hb)⟩;have e:b=w.heap.size+1+1:=e;have hb:b < n0:=hb;have:=HN0.out;omega
end
end SubM
end Go.Proofs.YtlomianlcnmfgaaGreatDoor
namespace Go.Proofs.YtlomianlcnmfgaaGreatDoor
open Go.RowKit Shp Sub
namespace SubM
def GetIs (n0:Nat) (o:Option Sh) (w:World) (e:Ending) (w':World):Prop:=
 ∃(t:Sh) (q:Ptr),e= .returned (.tuple #[sv t q,.bool o.isSome])/\Below w.heap.size w w'/\ ∀j,o=some j->t=j/\Kept (fun b=>b < n0\/w.heap.size<=b) w' (j,q)
structure GetI (W0:World) (n0:Nat) (tk:Nat->Value->Prop) (c:Nat) (o:Option Sh) (d:Nat->Bool) (u:Nat->Value) (W:World):Prop where
 vals: ∀j,j < c->d j=true->tk j (u j)
 up:Below W0.heap.size W0 W
 al:d (c+4)=true-> ∃g,u (c+4)= .pointer (some ⟨g,0,none⟩)/\W0.heap.size<=g/\g < W.heap.size/\(∀j,W.frozen? ⟨g,j,none⟩=false)/\ ∀j,j < 5-> ∃v,W.cell? ⟨g,j,none⟩=some v
 ca:d c=true-> ∃(t:Sh) (q:Ptr) (W2:World) (s:Nat),u c= .tuple #[sv t q,.bool o.isSome]/\W0.heap.size<=s/\s<=W2.heap.size/\
  (∀j,o=some j->t=j/\Kept (fun b=>b < n0\/s<=b) W2 (j,q))/\
  (d (c+1)=true->u (c+1)=u c)/\(d (c+2)=true->u (c+2)=sv t q)/\(d (c+3)=true->u (c+3)= .bool o.isSome)/\
  Upd (fun b=>d (c+4)=true/\u (c+4)= .pointer (some ⟨b,0,none⟩)) W2 W/\(∀g,d (c+4)=true->u (c+4)= .pointer (some ⟨g,0,none⟩)->g < s\/W2.heap.size<=g)/\(d (c+5)=true-> ∀g,u (c+4)= .pointer (some ⟨g,0,none⟩)->Sh5 W g 0 t q)/\(d (c+6)=true->u (c+6)= .bool o.isSome)
variable {W0 : World} {n0 : Nat} {tk : Nat -> Value -> Prop} {c : Nat} {o : Option Sh} {d : Nat -> Bool} {u : Nat -> Value} {W W' : World}
section
variable (h : GetI W0 n0 tk c o d u W) {i : Nat}
include h i
theorem GetI.putv {v:Value} (hv:tk i v): ∀j,j < c->also d i j=true->tk j (upd u i v j):=fun j hc hj=>by
 by_cases hij:j=i
 {subst hij; rw[Z0h]; exact hv}
 {rw[Z0k d hij] at hj; rw[Z04 u v hij]; exact h.vals j hc hj}
theorem GetI.keepv (hi:c<=i) {v:Value}: ∀j,j < c->also d i j=true->tk j (upd u i v j):=fun j hc hj=>by
 have hij:j≠i:=by omega
 rw[Z0k d hij] at hj; rw[Z04 u v hij]; exact h.vals j hc hj
end
theorem GetI.start {W0:World} {u:Nat->Value}:GetI W0 n0 tk c o (fun _=>false) u W0.drew:=⟨nofun,Y2.drew,nofun,nofun⟩
section
variable (h : GetI W0 n0 tk c o d u W)
include h
theorem GetI.pure {i:Nat} (hi:i < c) {v:Value} (hv:tk i v):GetI W0 n0 tk c o (also d i) (upd u i v) W:=by
 have k: ∀j,c<=j->also d i j=d j/\upd u i v j=u j:=fun j hj=>⟨Z0k d (by omega),Z04 u v (by omega)⟩;refine ⟨h.putv hv,h.up, ?_, ?_⟩
 {rw[(k (c+4) (by omega)).1,(k (c+4) (by omega)).2]; exact h.al}
 {rw[(k c (by omega)).1,(k c (by omega)).2,(k (c+1) (by omega)).1,(k (c+1) (by omega)).2,(k (c+2) (by omega)).1,(k (c+2) (by omega)).2,(k (c+3) (by omega)).1,(k (c+3) (by omega)).2,(k (c+4) (by omega)).1,(k (c+4) (by omega)).2,(k (c+5) (by omega)).1,(k (c+6) (by omega)).1,(k (c+6) (by omega)).2];exact h.ca}
theorem GetI.call (h7:d c=false) (hd: ∀j,j=(c+1)\/j=(c+2)\/j=(c+3)\/j=(c+5)\/j=(c+6)->d j=false) {e:Ending} (hb:GetIs n0 o W e W'): ∃v,e= .returned v/\GetI W0 n0 tk c o (also d c) (upd u c v) W':=by
 obtain ⟨t,q,rfl,hbl,hj⟩:=hb;have k: ∀j,j≠c->also d c j=d j/\ ∀v,upd u c v j=u j:=fun j hj=>⟨Z0k d hj,fun v=>Z04 u v hj⟩;refine ⟨_,rfl,h.keepv (by omega),Z00 h.up hbl, ?_,fun _=>⟨t,q,W',W.heap.size,Z0h _ _ _,h.up.size,hbl.size,hj, ?_, ?_, ?_, ?_, ?_, ?_, ?_⟩⟩
 {rw[(k (c+4) (by omega)).1,(k (c+4) (by omega)).2];intro h11;obtain ⟨g,e,g1,g2,g3,g4⟩:=h.al h11;exact ⟨g,e,g1,Nat.lt_of_lt_of_le g2 hbl.size,fun j=>(hbl.frozen (p:=⟨g,j,none⟩) g2).trans (g3 j),fun j hj=>by
   obtain ⟨v,hv⟩:=g4 j hj;exact ⟨v,(hbl.cell (p:=⟨g,j,none⟩) g2).trans hv⟩⟩}
 {rw[(k (c+1) (by omega)).1,hd (c+1) (by omega)]; nofun}
 {rw[(k (c+2) (by omega)).1,hd (c+2) (by omega)]; nofun}
 {rw[(k (c+3) (by omega)).1,hd (c+3) (by omega)]; nofun}
 {exact Upd.refl _ _}
 {rw[(k (c+4) (by omega)).1,(k (c+4) (by omega)).2];intro g h11 e;obtain ⟨g',e',_,g2,_⟩:=h.al h11;rw[e'] at e;simp only[Value.pointer.injEq,Option.some.injEq,Addr.mk.injEq,and_true] at e;omega}
 {rw[(k (c+5) (by omega)).1,hd (c+5) (by omega)]; nofun}
 {rw[(k (c+6) (by omega)).1,hd (c+6) (by omega)]; nofun}
theorem GetI.read (h7:d c=true) {i:Nat} (hi:i=(c+1)\/i=(c+2)\/i=(c+3)\/i=(c+6)) {v:Value} (hd:d i=false) (hv: ∀t q,u c= .tuple #[sv t q,.bool o.isSome]->
 (i=(c+1)->v=u c)/\(i=(c+2)->v=sv t q)/\(i=(c+3)->v= .bool o.isSome)/\(i=(c+6)->v= .bool o.isSome)):GetI W0 n0 tk c o (also d i) (upd u i v) W:=by
 have k: ∀j,j≠i->also d i j=d j/\upd u i v j=u j:=fun j hj=>⟨Z0k d hj,Z04 u v hj⟩;refine ⟨h.keepv (by omega),h.up, ?_, ?_⟩
 {rw[(k (c+4) (by omega)).1,(k (c+4) (by omega)).2]; exact h.al}
 {rw[(k c (by omega)).1,(k c (by omega)).2,(k (c+4) (by omega)).1,(k (c+4) (by omega)).2,(k (c+5) (by omega)).1];intro _;obtain ⟨t,q,W2,s,e7,s1,s2,hj,e8,e9,e10,hu,hg,h12,h13⟩:=h.ca h7;obtain ⟨v8,v9,v10,v13⟩:=hv t q e7;refine ⟨t,q,W2,s,e7,s1,s2,hj,fun hd=> ?_,fun hd=> ?_,fun hd=> ?_,hu,hg,h12,fun hd=> ?_⟩
  {by_cases e:i=(c+1)
   {rw[<-e,Z0h]; exact v8 e}
   {rw[(k (c+1) (Ne.symm e)).1] at hd; rw[(k (c+1) (Ne.symm e)).2]; exact e8 hd}}
  {by_cases e:i=(c+2)
   {rw[<-e,Z0h]; exact v9 e}
   {rw[(k (c+2) (Ne.symm e)).1] at hd; rw[(k (c+2) (Ne.symm e)).2]; exact e9 hd}}
  {by_cases e:i=(c+3)
   {rw[<-e,Z0h]; exact v10 e}
   {rw[(k (c+3) (Ne.symm e)).1] at hd; rw[(k (c+3) (Ne.symm e)).2]; exact e10 hd}}
  {by_cases e:i=(c+6)
   {rw[<-e,Z0h]; exact v13 e}
   {rw[(k (c+6) (Ne.symm e)).1] at hd; rw[(k (c+6) (Ne.symm e)).2]; exact h13 hd}}}
end
theorem GetI.alloc (h:GetI W0 n0 tk c o d u W) (h11:d (c+4)=false) (h12:d (c+5)=false):GetI W0 n0 tk c o (also d (c+4)) (upd u (c+4) (.pointer (some ⟨W.heap.size,0,none⟩))) (W.alloc (.cells Yb 25)):=by
 have hb:=Z01 W (.cells Yb 25);have k: ∀j,j≠(c+4)->also d (c+4) j=d j/\ ∀v,upd u (c+4) v j=u j:=fun j hj=>⟨Z0k d hj,fun v=>Z04 u v hj⟩;refine ⟨h.keepv (by omega),Z00 h.up hb,fun _=>⟨W.heap.size,Z0h _ _ _,h.up.size,by simp,fun j=>by simp[go_sem],fun j hj=> ?_⟩, ?_⟩
 {rcases j with _ | _ | _ | _ | _ | j
  {exact ⟨.int .i64 0,by simp[go_sem]⟩}
  {exact ⟨.string ⟨#[]⟩,by simp[go_sem]⟩}
  {exact ⟨.string ⟨#[]⟩,by simp[go_sem]⟩}
  {exact ⟨.slice none 0 0,by simp[go_sem]⟩}
  {exact ⟨.slice none 0 0,by simp[go_sem]⟩}
  {omega}}
 {rw[(k c (by omega)).1,(k c (by omega)).2,(k (c+1) (by omega)).1,(k (c+1) (by omega)).2,(k (c+2) (by omega)).1,(k (c+2) (by omega)).2,(k (c+3) (by omega)).1,(k (c+3) (by omega)).2,(k (c+5) (by omega)).1,(k (c+6) (by omega)).1,(k (c+6) (by omega)).2,Z0o,Z0h,h12];intro h7;obtain ⟨t,q,W2,s,e7,s1,s2,hj,e8,e9,e10,hu,hg,_,h13⟩:=h.ca h7;refine ⟨t,q,W2,s,e7,s1,s2,hj,e8,e9,e10, ?_,fun g _ e=> ?_,nofun,h13⟩
  {exact (hu.mono (fun b _ hb=>by rw[h11] at hb; exact absurd hb.1 (by decide))).trans (Upd.new hb)}
  {simp only[Value.pointer.injEq,Option.some.injEq,Addr.mk.injEq,and_true] at e;have:=hu.size;omega}}
theorem GetI.store (h:GetI W0 n0 tk c o d u W) (h7:d c=true) (h11:d (c+4)=true) {g:Nat} (hg:u (c+4)= .pointer (some ⟨g,0,none⟩)) {t:Sh} {q:Ptr} (ht:u c= .tuple #[sv t q,.bool o.isSome])
 (hsv: ∀t' q',sv t' q'=sv t q->t'.kind=t.kind/\t'.of_=t.of_/\t'.name=t.name/\q'.A=q.A/\t'.names.length=t.names.length/\q'.c=q.c/\q'.P=q.P/\t'.parts.length=t.parts.length/\q'.d=q.d):GetI W0 n0 tk c o (also d (c+5)) (upd u (c+5) undef) (RX.lay W g t q):=by
 have k: ∀j,j≠(c+5)->also d (c+5) j=d j/\ ∀v,upd u (c+5) v j=u j:=fun j hj=>⟨Z0k d hj,fun v=>Z04 u v hj⟩;obtain ⟨g',e',g1,g2,g3,g4⟩:=h.al h11;obtain rfl:g'=g:=by rw[hg] at e'; simp at e'; exact e'.symm
 have hu:=RX.lay_upd W g' t q;refine ⟨h.keepv (by omega),h.up.trans (hu.below h.up.size (fun b hb=>by omega)), ?_, ?_⟩
 {rw[(k (c+4) (by omega)).1,(k (c+4) (by omega)).2];intro _;have hl:=RX.lay_at t q g4;obtain ⟨l0,l1,l2,l3,l4⟩:=hl;simp only[Nat.zero_add] at l0 l1 l2 l3 l4;refine ⟨g',hg,g1,by rw[RX.lay_size]; exact g2,fun j=>(RX.lay_fz W g' t q j).trans (g3 j),fun j hj=> ?_⟩;rcases j with _ | _ | _ | _ | _ | j
  {exact ⟨_,l0⟩}
  {exact ⟨_,l1⟩}
  {exact ⟨_,l2⟩}
  {exact ⟨_,l3⟩}
  {exact ⟨_,l4⟩}
  {omega}}
 {rw[(k c (by omega)).1,(k c (by omega)).2,(k (c+1) (by omega)).1,(k (c+1) (by omega)).2,(k (c+2) (by omega)).1,(k (c+2) (by omega)).2,(k (c+3) (by omega)).1,(k (c+3) (by omega)).2,(k (c+4) (by omega)).1,(k (c+4) (by omega)).2,(k (c+6) (by omega)).1,(k (c+6) (by omega)).2];intro _;obtain ⟨t',q',W2,s,e7,s1,s2,hj,e8,e9,e10,hu2,hgs,_,h13⟩:=h.ca h7;refine ⟨t',q',W2,s,e7,s1,s2,hj,e8,e9,e10,hu2.trans (hu.mono (fun b _ hb=>⟨h11,by rw[hb,hg]⟩)),hgs,fun _ g2 e=> ?_,h13⟩;obtain rfl:g'=g2:=by rw[hg] at e; simpa using e
  have e72:sv t' q'=sv t q:=by
   rw[ht] at e7;simp only[Value.tuple.injEq] at e7;have:=congrArg (fun a:Array Value=>a[0]?) e7;simp at this;simp[sv];exact ⟨this.1.symm,this.2.1.symm,this.2.2.1.symm,⟨this.2.2.2.1.1.symm,this.2.2.2.1.2.1.symm,this.2.2.2.1.2.2.symm⟩,this.2.2.2.2.1.symm,this.2.2.2.2.2.1.symm,this.2.2.2.2.2.2.symm⟩
  obtain ⟨c1,c2,c3,c4,c5,c6,c7,c8,c9⟩:=hsv t' q' e72;obtain ⟨l0,l1,l2,l3,l4⟩:=RX.lay_at t q g4;exact ⟨by rw[c1]; exact l0,by rw[c2]; exact l1,by rw[c3]; exact l2,by rw[c4,c5,c6]; exact l3,by rw[c7,c8,c9]; exact l4⟩}
end SubM
end Go.Proofs.YtlomianlcnmfgaaGreatDoor
namespace Sub
open Shp Go.Proofs.YtlomianlcnmfgaaGreatDoor
section
variable {a b : Sh} {g : Sh -> Sh -> Option Sh} {i : Nat} {L : List Fld}
section
variable (A : Rec a)
include A
theorem Zc7 (h1:i < a.names.length) (h2:i < a.parts.length) {x:Sh} (hL:allOf (wideStep g) ((callsA a b).take i)=some L) (hx:wideStep g (a.names[i]'h1,some (a.parts[i]'h2),get b (a.names[i]'h1))=some (a.names[i]'h1,x)):
 allOf (wideStep g) ((callsA a b).take (i+1))=some (L++ [(a.names[i]'h1,x)]):=by
 have h:i < (callsA a b).length:=by rw[callsA_len A]; exact h1
 rw[Zcp h,hL,callsA_at A h1 h2 h];show (wideStep g _).map _=_;rw[hx]; rfl
theorem ZcD (h1:i < a.names.length) (h2:i < a.parts.length) (hx:wideStep g (a.names[i]'h1,some (a.parts[i]'h2),get b (a.names[i]'h1))=none):allOf (wideStep g) (callsA a b)=none:=by
 have h:i < (callsA a b).length:=by rw[callsA_len A]; exact h1
 exact Zda h (by rw[callsA_at A h1 h2 h]; exact hx)
theorem Zcu (hL:allOf (wideStep g) ((callsA a b).take i)=some L):L.map Prod.fst=a.names.take i:=by
 rw[Z5k (fun c x h=>Z2B h) hL,List.map_take,Z8s A]
theorem ZbV (h1:i < a.names.length) (h2:i < a.parts.length): ((callsA a b).take (i+1)).filterMap (narrowStep g)=((callsA a b).take i).filterMap (narrowStep g)++(narrowStep g (a.names[i]'h1,some (a.parts[i]'h2),get b (a.names[i]'h1))).toList:=by
 have h:i < (callsA a b).length:=by rw[callsA_len A]; exact h1
 rw[ZdD h,callsA_at A h1 h2 h]
theorem Zcf: ((((callsA a b).take i).filterMap (narrowStep g)).map Prod.fst).Sublist a.names:=by
 have h:=Z1o (s:=narrowStep g) (fun c x h=>Z3t h) ((callsA a b).take i);rw[List.map_take,Z8s A] at h;exact h.trans (List.take_sublist _ _)
theorem Zc1: (callsA a b).take a.names.length=callsA a b:=by rw[<-callsA_len (b:=b) A,List.take_length]
end
def left (a b:Sh):List Fld:=(b.names.zip b.parts).filter (fun x=>(get a x.1).isNone)
def leftTo (a b:Sh) (i:Nat):List Fld:=((b.names.zip b.parts).take i).filter (fun x=>(get a x.1).isNone)
theorem ZcE (h1:i < b.names.length) (h2:i < b.parts.length):leftTo a b (i+1)=leftTo a b i++(if (get a (b.names[i]'h1)).isNone=true then [(b.names[i]'h1,b.parts[i]'h2)] else []):=by
 unfold leftTo;have h:i < (b.names.zip b.parts).length:=by rw[List.length_zip]; omega
 rw[ZdE h,List.getElem_zip]
theorem ZcP (B:Rec b):leftTo a b b.names.length=left a b:=by
 unfold leftTo left;rw[List.take_of_length_le (by rw[List.length_zip]; omega)]
theorem Zc9 (B:Rec b): ((leftTo a b i).map Prod.fst).Sublist b.names:=by
 unfold leftTo;have h:=(List.filter_sublist (p:=fun x:Fld=>(get a x.1).isNone) (l:=(b.names.zip b.parts).take i)).map Prod.fst;rw[List.map_take,List.map_fst_zip (by rw[B.l]; exact Nat.le_refl _)] at h;exact h.trans (List.take_sublist _ _)
end
end Sub
namespace Go.Proofs.YtlomianlcnmfgaaGreatDoor
open Go.RowKit
section
variable {P : Program} {ops : Array Oper} {Q : Exit -> Act -> World -> Prop}
theorem Z0s {d:Nat->Bool} {i j:Nat} (h:j≠i):also d i j=d j:=by
 unfold also;have:Nat.beq j i=false:=by cases hb:Nat.beq j i <;> first | rfl | exact absurd (Nat.eq_of_beq_eq_true hb) h
 rw[this]; rfl
theorem Z3D {d:Nat->Bool} {i:Nat}:also d i i=true:=by
 unfold also;simp
end
end Go.Proofs.YtlomianlcnmfgaaGreatDoor
namespace Go.Proofs.YtlomianlcnmfgaaGreatDoor
open Go.RowKit Shp Sub
namespace SubM
structure TakeI (W0:World) (tk:Nat->Value->Prop) (p:Sh) (d:Nat->Bool) (u:Nat->Value) (W:World):Prop where
 up:Below W0.heap.size W0 W
 vals: ∀j,d j=true->tk j (u j)
 al:d 10=true->d 11=false-> ∃b,u 10= .pointer (some ⟨b,0,none⟩)/\W0.heap.size<=b/\Rc b W
 st:d 11=true->d 10=true/\ ∃(b:Nat) (q:Ptr),u 10= .pointer (some ⟨b,0,none⟩)/\W0.heap.size<=b/\ShAt W0 W0.heap.size q p/\Box5 W b p q
variable {W0 W W' : World} {tk : Nat -> Value -> Prop} {p : Sh} {d : Nat -> Bool} {u : Nat -> Value}
theorem TakeI.vals' (h:TakeI W0 tk p d u W) {i:Nat} {v:Value} (hv:tk i v): ∀j,also d i j=true->tk j (upd u i v j):=fun j hj=>by
 by_cases e:j=i
 {subst e; rw[Z0h]; exact hv}
 {rw[Z04 u v e]; rw[Z0s e] at hj; exact h.vals j hj}
theorem TakeI.start:TakeI W0 tk p (fun _=>false) u W0.drew:=⟨Y2.drew,nofun,nofun,nofun⟩
theorem TakeI.step (h:TakeI W0 tk p d u W) {i:Nat} {v:Value} (hi:i≠10) (hj:i≠11) (hv:tk i v) (hb:Below W.heap.size W W'):TakeI W0 tk p (also d i) (upd u i v) W':=by
 refine ⟨Z00 h.up hb,h.vals' hv, ?_, ?_⟩
 {rw[Z0s (Ne.symm hi),Z0s (Ne.symm hj),Z04 u v (Ne.symm hi)];intro h1 h2;obtain ⟨b,e,hb1,hr⟩:=h.al h1 h2;exact ⟨b,e,hb1,hr.upd (T:=fun _=>False) (Upd.new hb) (fun h=>h)⟩}
 {rw[Z0s (Ne.symm hi),Z0s (Ne.symm hj),Z04 u v (Ne.symm hi)];intro h1;obtain ⟨h2,b,q,e,hb1,hs,hx⟩:=h.st h1;exact ⟨h2,b,q,e,hb1,hs,hx.next hb⟩}
theorem TakeI.alloc (h:TakeI W0 tk p d u W) (hd:d 10=false) (ht: ∀v,tk 10 v):
 TakeI W0 tk p (also d 10) (upd u 10 (.pointer (some ⟨W.heap.size,0,none⟩))) (W.alloc (.cells Yb 25)):=by
 refine ⟨Z00 h.up (Z01 _ _),h.vals' (ht _),fun _ _=>⟨W.heap.size,Z0h _ _ _,h.up.size,Z0I rfl⟩,fun h1=> ?_⟩;rw[Z0s (by decide)] at h1;rw[(h.st h1).1] at hd; cases hd
theorem TakeI.store (h:TakeI W0 tk p d u W) (h10:d 10=true) (h11:d 11=false) (ht: ∀v,tk 11 v) {b:Nat} {q:Ptr} (hb:u 10= .pointer (some ⟨b,0,none⟩)) (hs:ShAt W0 W0.heap.size q p):
 TakeI W0 tk p (also d 11) (upd u 11 undef) (RX.lay W b p q):=by
 obtain ⟨b',e,hb1,hr⟩:=h.al h10 h11;obtain rfl:b'=b:=by rw[hb] at e; simp at e; exact e.symm
 have hu:=RX.lay_upd W b' p q;refine ⟨h.up.trans (hu.below h.up.size (fun x hx=>by omega)),h.vals' (ht _),fun _ h2=> ?_,fun _=>⟨by rw[Z0s (by decide)]; exact h10,b',q,by rw[Z04 u undef (by decide)]; exact hb,hb1,hs, ?_⟩⟩
 {rw[Z3D] at h2; cases h2}
 {have hf:=fun j=>(RX.lay_fz W b' p q j).trans (hr.fz j);exact ⟨by rw[RX.lay_size]; exact hr.lt,RX.lay_at p q hr.ex,hf 0,hf 1,hf 2,hf 3,hf 4⟩}
end SubM
end Go.Proofs.YtlomianlcnmfgaaGreatDoor
namespace Go.Proofs.YtlomianlcnmfgaaGreatDoor
open Go.RowKit Shp Sub
namespace SubM
structure TakeN (n0:Nat) (W0:World) (tk:Nat->Value->Prop) (p:Sh) (d:Nat->Bool) (u:Nat->Value) (W:World):Prop where
 up:Below W0.heap.size W0 W
 vals: ∀j,d j=true->tk j (u j)
 al:d 10=true->d 11=false-> ∃b,u 10= .pointer (some ⟨b,0,none⟩)/\W0.heap.size<=b/\Rc b W
 st:d 11=true->d 10=true/\ ∃(b:Nat) (q:Ptr),u 10= .pointer (some ⟨b,0,none⟩)/\W0.heap.size<=b/\ShAt W0 n0 q p/\Box5 W b p q
variable {n0 : Nat} {W0 W W' : World} {tk : Nat -> Value -> Prop} {p : Sh} {d : Nat -> Bool} {u : Nat -> Value}
theorem TakeN.vals' (h:TakeN n0 W0 tk p d u W) {i:Nat} {v:Value} (hv:tk i v): ∀j,also d i j=true->tk j (upd u i v j):=fun j hj=>by
 by_cases e:j=i
 {subst e; rw[Z0h]; exact hv}
 {rw[Z04 u v e]; rw[Z0s e] at hj; exact h.vals j hj}
theorem TakeN.start:TakeN n0 W0 tk p (fun _=>false) u W0.drew:=⟨Y2.drew,nofun,nofun,nofun⟩
theorem TakeN.step (h:TakeN n0 W0 tk p d u W) {i:Nat} {v:Value} (hi:i≠10) (hj:i≠11) (hv:tk i v) (hb:Below W.heap.size W W'):TakeN n0 W0 tk p (also d i) (upd u i v) W':=by
 refine ⟨Z00 h.up hb,h.vals' hv, ?_, ?_⟩
 {rw[Z0s (Ne.symm hi),Z0s (Ne.symm hj),Z04 u v (Ne.symm hi)];intro h1 h2;obtain ⟨b,e,hb1,hr⟩:=h.al h1 h2;exact ⟨b,e,hb1,hr.upd (T:=fun _=>False) (Upd.new hb) (fun h=>h)⟩}
 {rw[Z0s (Ne.symm hi),Z0s (Ne.symm hj),Z04 u v (Ne.symm hi)];intro h1;obtain ⟨h2,b,q,e,hb1,hs,hx⟩:=h.st h1;exact ⟨h2,b,q,e,hb1,hs,hx.next hb⟩}
theorem TakeN.alloc (h:TakeN n0 W0 tk p d u W) (hd:d 10=false) (ht: ∀v,tk 10 v):
 TakeN n0 W0 tk p (also d 10) (upd u 10 (.pointer (some ⟨W.heap.size,0,none⟩))) (W.alloc (.cells Yb 25)):=by
 refine ⟨Z00 h.up (Z01 _ _),h.vals' (ht _),fun _ _=>⟨W.heap.size,Z0h _ _ _,h.up.size,Z0I rfl⟩,fun h1=> ?_⟩;rw[Z0s (by decide)] at h1;rw[(h.st h1).1] at hd; cases hd
theorem TakeN.store (h:TakeN n0 W0 tk p d u W) (h10:d 10=true) (h11:d 11=false) (ht: ∀v,tk 11 v) {b:Nat} {q:Ptr} (hb:u 10= .pointer (some ⟨b,0,none⟩)) (hs:ShAt W0 n0 q p):
 TakeN n0 W0 tk p (also d 11) (upd u 11 undef) (RX.lay W b p q):=by
 obtain ⟨b',e,hb1,hr⟩:=h.al h10 h11;obtain rfl:b'=b:=by rw[hb] at e; simp at e; exact e.symm
 have hu:=RX.lay_upd W b' p q;refine ⟨h.up.trans (hu.below h.up.size (fun x hx=>by omega)),h.vals' (ht _),fun _ h2=> ?_,fun _=>⟨by rw[Z0s (by decide)]; exact h10,b',q,by rw[Z04 u undef (by decide)]; exact hb,hb1,hs, ?_⟩⟩
 {rw[Z3D] at h2; cases h2}
 {have hf:=fun j=>(RX.lay_fz W b' p q j).trans (hr.fz j);exact ⟨by rw[RX.lay_size]; exact hr.lt,RX.lay_at p q hr.ex,hf 0,hf 1,hf 2,hf 3,hf 4⟩}
end SubM
end Go.Proofs.YtlomianlcnmfgaaGreatDoor
namespace Go.Proofs.YtlomianlcnmfgaaGreatDoor
open Go.RowKit Shp Sub
namespace SubM
def gtakeP (v0 v1 v2 v3 v4 v5:Value) (n0:Nat) (W0:World) (p:Sh) (ok:Bool):Nat->Value->Prop
 | 0,v=>v=v0
 | 1,v=>v=v1
 | 2,v=>v=v2
 | 3,v=>v=v3
 | 4,v=>v=v4
 | 5,v=>v=v5
 | 6,v=> ∃q:Ptr,v= .tuple #[.agg (Y8 p q),.bool ok]/\ShAt W0 n0 q p
 | 7,v=> ∃q:Ptr,v= .tuple #[.agg (Y8 p q),.bool ok]/\ShAt W0 n0 q p
 | 8,v=> ∃q:Ptr,v= .agg (Y8 p q)/\ShAt W0 n0 q p
 | 9,v=>v= .bool ok
 | 12,v=>v= .bool ok
 | _,_=>True
theorem Zc5 {a:Sh} {pa:Ptr} {x:List UInt8} {n0:Nat} {W0 W:World} (hn:n0<=W0.heap.size) (ha:ShAt W0 n0 pa a) (hR:Rec a) {p:Sh} {ok:Bool} (hp: (get a x).getD Z0c=p) (hok: (get a x).isSome=ok) (hJ:Below W0.heap.size W0 W):
 Calls Tryz.prog 44 #[.agg (Y8 a pa),.string ⟨x.toArray⟩] W fun e w'=> ∃q:Ptr,e= .returned (.tuple #[.agg (Y8 p q),.bool ok])/\ShAt W0 n0 q p/\Below W.heap.size W w':=by
 refine (ZcT a pa x n0 W (Nat.le_trans hn hJ.size) (ha.keep hJ hn) hR).mono ?_;rintro e w' ⟨q,he,hs,hb⟩;rw[hp,hok] at he;rw[hp] at hs;exact ⟨q,he,hs.of (Nat.le_refl _) (fun g c hg=>(hJ.cell (p:=⟨g,c,none⟩) (Nat.lt_of_lt_of_le hg hn)).symm),hb⟩
theorem Zcv (W:World) (t:Sh) (q:Ptr):Rc W.heap.size (W.alloc (.cells (Y8 t q) 25)):=by
 obtain ⟨_,⟨c0,c1,c2,c3,c4⟩,_⟩:=Z05 W t q;simp only[Nat.zero_add] at c0 c1 c2 c3 c4;refine ⟨by simp,fun j hj=> ?_,fun j=>by simp[go_sem]⟩;rcases j with _ | _ | _ | _ | _ | j
 {exact ⟨_,c0⟩}
 {exact ⟨_,c1⟩}
 {exact ⟨_,c2⟩}
 {exact ⟨_,c3⟩}
 {exact ⟨_,c4⟩}
 {omega}
theorem Zdy {W:World} {g:Nat} (h:Rc g W) (t:Sh) (q:Ptr):Rc g (RX.lay W g t q):=by
 obtain ⟨c0,c1,c2,c3,c4⟩:=RX.lay_at t q (W:=W) (g:=g) h.ex;simp only[Nat.zero_add] at c0 c1 c2 c3 c4;refine ⟨by rw[RX.lay_size]; exact h.lt,fun j hj=> ?_,fun j=>(RX.lay_fz W g t q j).trans (h.fz j)⟩;rcases j with _ | _ | _ | _ | _ | j
 {exact ⟨_,c0⟩}
 {exact ⟨_,c1⟩}
 {exact ⟨_,c2⟩}
 {exact ⟨_,c3⟩}
 {exact ⟨_,c4⟩}
 {omega}
end SubM
end Go.Proofs.YtlomianlcnmfgaaGreatDoor
namespace Grd
section
open Shp Sub Go.Proofs.YtlomianlcnmfgaaGreatDoor
def R (w:Bool):Nat->Bool->Sh->Sh->Prop
 | 0,_,_,_=>False
 | f+1,up,a,b=>a.kind=4\/b.kind=4\/(a.kind=b.kind/\
  (a.kind=6\/a.kind=7->(∀n p q,get a n=some p->get b n=some q->R w f up p q)/\
   (∀n p,get a n=some p->get b n=none->w=true/\Narrow up a.kind)/\
   (∀n q,get a n=none->get b n=some q->w=true/\Wide up a.kind))/\
  (¬(a.kind=6\/a.kind=7)->a.of_=b.of_/\a.name=b.name/\a.parts.length=b.parts.length/\
   ∀i p q,a.parts[i]? =some p->b.parts[i]? =some q->R w f (if i+1=a.parts.length then up else !up) p q))
theorem R.flip {w:Bool} {f:Nat}: ∀ {up:Bool} {a b:Sh},R w f up a b->R w f (!up) b a:=by
 induction f with
 | zero=>intro up a b h; exact h.elim
 | succ f ih=>
  intro up a b h;rcases h with h | h | ⟨hk,h1,h2⟩
  {exact Or.inr (Or.inl h)}
  {exact Or.inl h}
  refine Or.inr (Or.inr ⟨hk.symm,fun h=> ?_,fun h=> ?_⟩)
  {rw[<-hk] at h ⊢;obtain ⟨g1,g2,g3⟩:=h1 h;refine ⟨fun n q p hq hp=>ih (g1 n p q hp hq),fun n q hq hp=> ?_,fun n p hq hp=> ?_⟩
   {rw[Z2T]; exact g3 n q hp hq}
   {rw[Z3Y]; exact g2 n p hp hq}}
  {rw[<-hk] at h;obtain ⟨e1,e2,e3,e4⟩:=h2 h;refine ⟨e1.symm,e2.symm,e3.symm,fun i p q hp hq=> ?_⟩;have:=ih (e4 i q p hq hp);rw[<-e3];by_cases e:i+1=a.parts.length
   {rw[if_pos e] at this ⊢; exact this}
   {rw[if_neg e] at this ⊢; exact this}}
theorem R.refl {w:Bool} {f:Nat}: ∀ {up:Bool} {a:Sh},deep a<=f->R w f up a a:=by
 induction f with
 | zero=>intro up a h; rw[Z0j] at h; omega
 | succ f ih=>
  intro up a h;have hp: ∀p∈a.parts,deep p<=f:=fun p hp=>by have:=Z0v hp; rw[Z0j] at h; omega
  refine Or.inr (Or.inr ⟨rfl,fun _=>⟨fun n p q h1 h2=> ?_,fun n p h1 h2=> ?_,fun n p h1 h2=> ?_⟩,fun _=>⟨rfl,rfl,rfl,fun i p q h1 h2=> ?_⟩⟩)
  {rw[h1] at h2; cases h2; exact ih (hp p (Z06 h1))}
  {rw[h1] at h2; cases h2}
  {rw[h1] at h2; cases h2}
  {rw[h1] at h2; cases h2;exact ih (hp p (List.mem_of_getElem? h1))}
theorem R.any {f:Nat}: ∀ {up up':Bool} {a b:Sh},R false f up a b->R false f up' a b:=by
 induction f with
 | zero=>intro up up' a b h; exact h.elim
 | succ f ih=>
  intro up up' a b h;rcases h with h | h | ⟨hk,h1,h2⟩
  {exact Or.inl h}
  {exact Or.inr (Or.inl h)}
  refine Or.inr (Or.inr ⟨hk,fun h=> ?_,fun h=> ?_⟩)
  {obtain ⟨g1,g2,g3⟩:=h1 h;exact ⟨fun n p q hp hq=>ih (g1 n p q hp hq),fun n p hp hq=>absurd (g2 n p hp hq).1 (by simp),fun n q hp hq=>absurd (g3 n q hp hq).1 (by simp)⟩}
  {obtain ⟨e1,e2,e3,e4⟩:=h2 h;exact ⟨e1,e2,e3,fun i p q hp hq=>ih (e4 i p q hp hq)⟩}
theorem R.symm {f:Nat} {up up':Bool} {a b:Sh} (h:R false f up a b):R false f up' b a:=h.flip.any
theorem R.same {w:Bool} {f:Nat}: ∀ {up:Bool} {c a b:Sh},V f true c a->V f false c a->R w f up a b->R w f up c b:=by
 induction f with
 | zero=>intro up c a b h; exact h.elim
 | succ f ih=>
  intro up c a b h g k;obtain ⟨hk,h1,h2,h3⟩:=h;obtain ⟨_,i1,i2,i3⟩:=g;rcases k with k | k | ⟨kk,k1,k2⟩
  {exact Or.inl (hk.trans k)}
  {exact Or.inr (Or.inl k)}
  refine Or.inr (Or.inr ⟨hk.trans kk,fun h=> ?_,fun h=> ?_⟩)
  {obtain ⟨g1,g2,g3⟩:=k1 (hk▸h);rw[<-hk] at g2 g3;have hG: ∀n,(∀p,get c n=some p-> ∃q,get a n=some q/\V f true p q/\V f false p q)/\(∀q,get a n=some q-> ∃p,get c n=some p/\V f true p q/\V f false p q):=fun n=>by
    rcases Z1e h true with hw | hw
    {have hv:Wide false c.kind:=by rw[show false= !true from rfl,Z3Y]; exact hw
     refine ⟨fun p hp=> ?_,fun q hq=> ?_⟩
     {obtain ⟨q,hq,v⟩:=i2 hv n p hp;obtain ⟨p',hp',v'⟩:=h1 hw n q hq;rw[hp] at hp'; cases hp';exact ⟨q,hq,v',v⟩}
     {obtain ⟨p,hp,v'⟩:=h1 hw n q hq;obtain ⟨q',hq',v⟩:=i2 hv n p hp;rw[hq] at hq'; cases hq';exact ⟨p,hp,v',v⟩}}
    {have hv:Narrow false c.kind:=by rw[show false= !true from rfl,Z2T]; exact hw
     refine ⟨fun p hp=> ?_,fun q hq=> ?_⟩
     {obtain ⟨q,hq,v⟩:=h2 hw n p hp;obtain ⟨p',hp',v'⟩:=i1 hv n q hq;rw[hp] at hp'; cases hp';exact ⟨q,hq,v,v'⟩}
     {obtain ⟨p,hp,v'⟩:=i1 hv n q hq;obtain ⟨q',hq',v⟩:=h2 hw n p hp;rw[hq] at hq'; cases hq';exact ⟨p,hp,v,v'⟩}}
   refine ⟨fun n p q hp hq=> ?_,fun n p hp hq=> ?_,fun n q hp hq=> ?_⟩
   {obtain ⟨r,hr,v,v'⟩:=(hG n).1 p hp;exact ih v v' (g1 n r q hr hq)}
   {obtain ⟨r,hr,_⟩:=(hG n).1 p hp;exact g2 n r hr hq}
   {cases ha:get a n with
    | none=>exact g3 n q ha hq
    | some r=>
     obtain ⟨p',hp',_⟩:=(hG n).2 r ha;rw[hp] at hp'; cases hp'}}
  {obtain ⟨e1,e2,e3,e4⟩:=h3 h;obtain ⟨_,_,_,d4⟩:=i3 h;obtain ⟨f1,f2,f3,f4⟩:=k2 (hk▸h);refine ⟨e1.trans f1,e2.trans f2,e3.trans f3,fun i p q hp hq=> ?_⟩;have hi:i < c.parts.length:=(List.getElem?_eq_some_iff.1 hp).1;have hia:i < a.parts.length:=by omega
   have h5:=e4 i p _ hp (List.getElem?_eq_getElem hia);have h7:=d4 i p _ hp (List.getElem?_eq_getElem hia);have h6:=f4 i _ q (List.getElem?_eq_getElem hia) hq;rw[<-e3] at h6;by_cases e:i+1=c.parts.length
   {rw[if_pos e] at h5 h7; exact ih h5 h7 h6}
   {rw[if_neg e] at h5 h7; exact ih h7 h5 h6}}
mutual
def known (s:Sh):Bool:=match s with | ⟨k,_,_,_,ps⟩=>decide (k≠4)&&knowns ps
def knowns:List Sh->Bool
 | []=>true
 | p::ps=>known p&&knowns ps
end
def al (w:Bool) (k:Int) (first:Bool):Bool:=if first=true then k==(if w=true then 6 else 0) else k==(if w=true then 7 else 0)
def hstep (h:Bool->Bool) (g:Sh->Sh->Bool) (c:Cl):Bool:=
 match c with
 | (_,some p,some q)=>g p q
 | (_,some _,none)=>h true
 | (_,none,_)=>h false
def hold (w:Bool):Nat->Sh->Sh->Bool
 | 0,_,_=>false
 | f+1,a,b=>
  if a.kind=4\/b.kind=4 then true
  else if a.kind≠b.kind then false
  else if a.kind=6\/a.kind=7 then (calls a b).all (hstep (al w a.kind) (hold w f))
  else decide (a.of_=b.of_/\a.name=b.name)&&placesAll (hold w f) a.parts b.parts
def nstep (g:Sh->Sh->Sh) (c:Cl):Option Fld:=
 match c with
 | (n,some p,some q)=>some (n,g p q)
 | (n,none,some q)=>some (n,q)
 | (_,_,none)=>none
def named:Nat->Sh->Sh->Sh
 | 0,s,_=>s
 | f+1,s,t=>
  if s.kind=4\/t.kind=4 then s
  else if s.kind=6\/s.kind=7 then ⟨s.kind,s.of_,s.name,((calls s t).filterMap (nstep (named f))).map Prod.fst,((calls s t).filterMap (nstep (named f))).map Prod.snd⟩
  else ⟨s.kind,s.of_,s.name,[],List.zipWith (named f) s.parts t.parts⟩
def plain (a:Sh):Bool:=decide (check a=0)&&known a
end
end Grd
