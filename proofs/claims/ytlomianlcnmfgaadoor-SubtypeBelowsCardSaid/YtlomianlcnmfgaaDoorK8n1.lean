/- What the proofs of SubtypeBelows want, part 1. -/
import Derived.Test.YtlomianlcnmfgaaDoorK8n0
set_option linter.unusedVariables false
set_option linter.unusedSimpArgs false
set_option linter.unusedSectionVars false
set_option maxRecDepth 100000
set_option maxHeartbeats 16000000
namespace Sub
open Shp Go.Proofs.YtlomianlcnmfgaaDoor
theorem Z5y {t:Sh} (h:Rec t) {n:List UInt8} {p:Sh} (hp:get t n=some p): ∃i,∃h1:i < t.names.length,∃h2:i < t.parts.length,t.names[i]'h1=n/\t.parts[i]'h2=p:=by
 obtain ⟨i,hi,e⟩:=List.mem_iff_getElem.1 (h.get_iff.1 hp);rw[List.length_zip] at hi;rw[List.getElem_zip] at e;injection e with e1 e2;exact ⟨i,by omega,by omega,e1,e2⟩
theorem Z55 {t:Sh} (h:Rec t) {i:Nat} (h1:i < t.names.length) (h2:i < t.parts.length):get t (t.names[i]'h1)=some (t.parts[i]'h2):=Z5a h.nodup h1 h2
section
variable {f : Nat} {a b : Sh}
theorem Z6C (hk:a.kind≠b.kind):bw (f+1) a b=false:=by unfold bw; rw[if_pos hk]
theorem Z0S {t:Sh} (h:right t=true) (hk:t.kind=6\/t.kind=7):Rec t:=Z0n (Z08 h) hk
section
variable (ra : right a = true) (rb : right b = true)
include ra rb
theorem Zb4 (h:a.of_≠b.of_\/a.name≠b.name):bw (f+1) a b=false:=by
 by_cases hk:a.kind=b.kind
 {by_cases h6:a.kind=6\/a.kind=7
  {have h1:=(Z0S ra h6).b;have h2:=(Z0S rb (by rw[<-hk]; exact h6)).b;unfold bare at h1 h2;simp only[Bool.and_eq_true,decide_eq_true_eq] at h1 h2;rcases h with h | h
   {exact absurd (by simp_all) h}
   {exact absurd (by simp_all) h}}
  {unfold bw;rw[if_neg (by simpa using hk),if_neg (fun e=>h6 (Or.inl e)),if_neg (fun e=>h6 (Or.inr e)),decide_eq_false (fun e=>by rcases h with h | h; exact h e.1; exact h e.2)];rfl}}
 {exact Z6C hk}
theorem Z2D (h: ¬V f true a b):bw f a b=false:=by
 cases e:bw f a b with
 | false=>rfl
 | true=>exact absurd ((Z19 ra rb).1 e) h
theorem Zbr (hk:a.kind=b.kind) (h6:a.kind=6)
 (h: ∀j (h1:j < b.names.length) (h2:j < b.parts.length),∃p,get a (b.names[j]'h1)=some p/\bw f p (b.parts[j]'h2)=true):bw (f+1) a b=true:=by
 have hB:=Z0S rb (by rw[<-hk]; exact Or.inl h6);refine (Z19 ra rb).2 ⟨hk,fun _ n q hq=> ?_,fun hw=>absurd hw (by rw[h6]; decide),fun e=>absurd (Or.inl h6) e⟩;obtain ⟨i,h1,h2,e1,e2⟩:=Z5y hB hq;obtain ⟨p,hp,hv⟩:=h i h1 h2;rw[e1] at hp;rw[e2] at hv;exact ⟨p,hp,(Z19 (Z05 ra (Z06 hp)) (Z05 rb (Z06 hq))).1 hv⟩
theorem Zb5 (hk:a.kind=b.kind) (h6:a.kind=6) {j:Nat} (h1:j < b.names.length) (h:get a (b.names[j]'h1)=none):bw (f+1) a b=false:=by
 have hB:=Z0S rb (by rw[<-hk]; exact Or.inl h6);refine Z2D ra rb (fun hv=> ?_);obtain ⟨p,hp,_⟩:=hv.2.1 (by rw[h6]; decide) _ _ (Z55 hB h1 (by rw[<-hB.l]; exact h1));rw[h] at hp; cases hp
theorem ZbP (hk:a.kind=b.kind) (h6:a.kind=6) {j:Nat} (h1:j < b.names.length) (h2:j < b.parts.length) {p:Sh} (hp:get a (b.names[j]'h1)=some p) (h:bw f p (b.parts[j]'h2)=false):bw (f+1) a b=false:=by
 have hB:=Z0S rb (by rw[<-hk]; exact Or.inl h6);refine Z2D ra rb (fun hv=> ?_);have hq:=Z55 hB h1 h2;obtain ⟨p',hp',hv'⟩:=hv.2.1 (by rw[h6]; decide) _ _ hq;rw[hp] at hp'; cases hp';rw[(Z19 (Z05 ra (Z06 hp)) (Z05 rb (Z06 hq))).2 hv'] at h; cases h
theorem Zbs (hk:a.kind=b.kind) (h6:a.kind=7)
 (h: ∀j (h1:j < a.names.length) (h2:j < a.parts.length),∃p,get b (a.names[j]'h1)=some p/\bw f (a.parts[j]'h2) p=true):bw (f+1) a b=true:=by
 have hA:=Z0S ra (Or.inr h6);refine (Z19 ra rb).2 ⟨hk,fun hw=>absurd hw (by rw[h6]; decide),fun _ n q hq=> ?_,fun e=>absurd (Or.inr h6) e⟩;obtain ⟨i,h1,h2,e1,e2⟩:=Z5y hA hq;obtain ⟨p,hp,hv⟩:=h i h1 h2;rw[e1] at hp;rw[e2] at hv;exact ⟨p,hp,(Z19 (Z05 ra (Z06 hq)) (Z05 rb (Z06 hp))).1 hv⟩
theorem Zb6 (hk:a.kind=b.kind) (h6:a.kind=7) {j:Nat} (h1:j < a.names.length) (h:get b (a.names[j]'h1)=none):bw (f+1) a b=false:=by
 have hA:=Z0S ra (Or.inr h6);refine Z2D ra rb (fun hv=> ?_);obtain ⟨p,hp,_⟩:=hv.2.2.1 (by rw[h6]; decide) _ _ (Z55 hA h1 (by rw[<-hA.l]; exact h1));rw[h] at hp; cases hp
theorem ZbQ (hk:a.kind=b.kind) (h6:a.kind=7) {j:Nat} (h1:j < a.names.length) (h2:j < a.parts.length) {p:Sh} (hp:get b (a.names[j]'h1)=some p) (h:bw f (a.parts[j]'h2) p=false):bw (f+1) a b=false:=by
 have hA:=Z0S ra (Or.inr h6);refine Z2D ra rb (fun hv=> ?_);have hq:=Z55 hA h1 h2;obtain ⟨p',hp',hv'⟩:=hv.2.2.1 (by rw[h6]; decide) _ _ hq;rw[hp] at hp'; cases hp';rw[(Z19 (Z05 ra (Z06 hq)) (Z05 rb (Z06 hp))).2 hv'] at h; cases h
theorem ZbR (h6: ¬(a.kind=6\/a.kind=7)) (h:a.parts.length≠b.parts.length):bw (f+1) a b=false:=
 Z2D ra rb (fun hv=>h (hv.2.2.2 h6).2.2.1)
theorem ZbS (hk:a.kind=b.kind) (ho:a.of_=b.of_) (hn:a.name=b.name) (h6: ¬(a.kind=6\/a.kind=7)) (hl:a.parts.length=b.parts.length)
 (h: ∀j (h1:j < a.parts.length) (h2:j < b.parts.length),(if j+1=a.parts.length then bw f (a.parts[j]'h1) (b.parts[j]'h2) else bw f (b.parts[j]'h2) (a.parts[j]'h1))=true):bw (f+1) a b=true:=by
 refine (Z19 ra rb).2 ⟨hk,fun hw=>absurd (Z0v hw) h6,fun hw=>absurd (Z0H hw) h6,fun _=>⟨ho,hn,hl,fun i p q hp hq=> ?_⟩⟩;obtain ⟨h1,rfl⟩:=List.getElem?_eq_some_iff.1 hp;obtain ⟨h2,rfl⟩:=List.getElem?_eq_some_iff.1 hq;have r1:=Z05 ra (List.getElem_mem h1);have r2:=Z05 rb (List.getElem_mem h2);have:=h i h1 h2;by_cases e:i+1=a.parts.length
 {rw[if_pos e] at this ⊢; exact (Z19 r1 r2).1 this}
 {rw[if_neg e] at this ⊢; exact V.flip_iff.2 (by rw[Bool.not_not]; exact (Z19 r2 r1).1 this)}
theorem Zbt (h6: ¬(a.kind=6\/a.kind=7)) {j:Nat} (h1:j < a.parts.length) (h2:j < b.parts.length) (e:j+1=a.parts.length) (h:bw f (a.parts[j]'h1) (b.parts[j]'h2)=false):bw (f+1) a b=false:=by
 refine Z2D ra rb (fun hv=> ?_);have:=(hv.2.2.2 h6).2.2.2 j _ _ (List.getElem?_eq_getElem h1) (List.getElem?_eq_getElem h2);rw[if_pos e] at this;rw[(Z19 (Z05 ra (List.getElem_mem h1)) (Z05 rb (List.getElem_mem h2))).2 this] at h; cases h
theorem Zbu (h6: ¬(a.kind=6\/a.kind=7)) {j:Nat} (h1:j < a.parts.length) (h2:j < b.parts.length) (e:j+1≠a.parts.length) (h:bw f (b.parts[j]'h2) (a.parts[j]'h1)=false):bw (f+1) a b=false:=by
 refine Z2D ra rb (fun hv=> ?_);have:=(hv.2.2.2 h6).2.2.2 j _ _ (List.getElem?_eq_getElem h1) (List.getElem?_eq_getElem h2);rw[if_neg e] at this;have:=V.flip_iff.1 this;rw[Bool.not_not] at this;rw[(Z19 (Z05 rb (List.getElem_mem h2)) (Z05 ra (List.getElem_mem h1))).2 this] at h; cases h
end
end
end Sub
namespace Go.Proofs.YtlomianlcnmfgaaDoor
open Go.RowKit Shp Sub
namespace SubM
def UnderOk (f:Nat):Prop:=
 ∀(a b:Sh) (pa pb:Ptr) (w:World),Two f a b->ShAt w w.heap.size pa a->ShAt w w.heap.size pb b->
  Y9 21 #[.agg (Y8 a pa),.agg (Y8 b pb)] w (.bool (bw f a b))
def takeT (v0 v1 v2 v3 v4 v5:Value) (W0:World) (p:Sh) (ok:Bool):Nat->Value->Prop
 | 0,v=>v=v0
 | 1,v=>v=v1
 | 2,v=>v=v2
 | 3,v=>v=v3
 | 4,v=>v=v4
 | 5,v=>v=v5
 | 6,v=> ∃q:Ptr,v= .tuple #[.agg (Y8 p q),.bool ok]/\ShAt W0 W0.heap.size q p
 | 7,v=> ∃q:Ptr,v= .tuple #[.agg (Y8 p q),.bool ok]/\ShAt W0 W0.heap.size q p
 | 8,v=> ∃q:Ptr,v= .agg (Y8 p q)/\ShAt W0 W0.heap.size q p
 | 9,v=>v= .bool ok
 | 12,v=>v= .bool ok
 | _,_=>True
theorem Z80 {a:Sh} {pa:Ptr} {x:List UInt8} {W0 W:World} (ha:ShAt W0 W0.heap.size pa a) (hR:Rec a) {p:Sh} {ok:Bool} (hp: (get a x).getD Z0d=p) (hok: (get a x).isSome=ok) (hJ:Below W0.heap.size W0 W):
 Calls Tryd.prog 41 #[.agg (Y8 a pa),.string ⟨x.toArray⟩] W fun e w'=> ∃q:Ptr,e= .returned (.tuple #[.agg (Y8 p q),.bool ok])/\ShAt W0 W0.heap.size q p/\Below W.heap.size W w':=by
 refine (Z7K a pa x W0.heap.size W hJ.size (ha.keep hJ (Nat.le_refl _)) hR).mono ?_;rintro e w' ⟨q,he,hs,hb⟩;rw[hp,hok] at he;rw[hp] at hs;exact ⟨q,he,hs.of (Nat.le_refl _) (fun g c hg=>(hJ.cell (p:=⟨g,c,none⟩) hg).symm),hb⟩
theorem Zat {f:Nat} (hI:UnderOk f) (a b:Sh) (pa pb:Ptr) (w:World) (h2:Two (f+1) a b) (ha:ShAt w w.heap.size pa a) (hb:ShAt w w.heap.size pb b) (hk:a.kind=b.kind) (ho:a.of_=b.of_) (hn:a.name=b.name) (h6:a.kind=6):
 Y9 21 #[.agg (Y8 a pa),.agg (Y8 b pb)] w (.bool (bw (f+1) a b)):=by
 have hx1:=Z02 w (.cells (Y8 a pa) 25);obtain ⟨u1,hu1⟩: ∃u1,w.alloc (.cells (Y8 a pa) 25)=u1:=⟨_,rfl⟩;have hs1:u1.heap.size=w.heap.size+1:=by rw[<-hu1]; simp
 have hy1:=Z03 w a pa;rw[hu1] at hx1 hy1;have hx2:=Z02 u1 (.cells (Y8 b pb) 25);obtain ⟨W1,hu2⟩: ∃u2,u1.alloc (.cells (Y8 b pb) 25)=u2:=⟨_,rfl⟩;have hy2:=Z03 u1 b pb;rw[hu2] at hx2 hy2;rw[hs1] at hy2;have hb12:=Z00 hx1 hx2;have hxa:=hy1.next hx2;have HXa:=Y1 hxa;have HXb:=Y1 hy2;have HAa:=Y1 (ha.next hb12);have HAb:=Y1 (hb.next hb12);have HB1:=Y1 hb12;have H2:=Y1 h2;have HI:=Y1 hI;have HRt:=Y1 (Z0S h2.ra (by left; exact h6));have HRo:=Y1 (Z0S h2.rb (by rw[<-hk]; left; exact h6));have HL:=Y1 (hb.small.l);have HM:=Y1 (hb.small.m);have HL':=Y1 (ha.small.l);have HM':=Y1 (ha.small.m);have HK:=Y1 (And.intro hk h6);obtain ⟨_,⟨a0,a1,a2,a3,a4⟩,_⟩:=hxa;obtain ⟨_,⟨b0,b1,b2,b3,b4⟩,_⟩:=hy2;simp only[Nat.zero_add] at a0 a1 a2 a3 a4 b0 b1 b2 b3 b4;have n1: (a.kind !=b.kind)=false:=by rw[hk]; simp
 have n2: (a.of_ !=b.of_)=false:=by rw[ho]; simp
 have n3: (a.name !=b.name)=false:=by rw[hn]; simp
 have e1: (a.kind==b.kind)=true:=by rw[hk]; simp
 have e2: (a.of_==b.of_)=true:=by rw[ho]; simp
 have e3: (a.name==b.name)=true:=by rw[hn]; simp
 have n6:=Y4 6 h6 rfl;clear hx1 hx2 hy1 hb12 ha hb h2 hI;go_enter Tryd.func21,Tryd.ntmps21;clear hk ho hn h6
 go_wp2_with fail
 clear hs1 hu1 hu2 a0 a1 a2 a3 a4 b0 b1 b2 b3 b4 n1 n2 n3 e1 e2 e3 n6
 go_loopw [5] (fun ii wr=> ∃i:Nat,ii= .int .i64 i/\i<=b.names.length/\Hid (∀j (h1:j < b.names.length) (h2:j < b.parts.length),j < i-> ∃p,get a (b.names[j]'h1)=some p/\bw f p (b.parts[j]'h2)=true)/\Below W1.heap.size W1 wr) (fun i _=>b.names.length - (intOf i).toNat)
 case atStart=>exact ⟨0,rfl,Nat.zero_le _,Y1 (fun j _ _ hj=>absurd hj (by omega)),Below.refl _ _⟩
 case round=>
  obtain ⟨i,rfl,hi,HN,hb⟩:=hrel;have hl:=HL.out;have hm:=HM.out;have hl':=HL'.out;have hm':=HM'.out;have HB:=Y1 hb;obtain ⟨_,⟨a0,a1,a2,a3,a4⟩,_⟩:=HXa.out.next hb;obtain ⟨_,⟨b0,b1,b2,b3,b4⟩,_⟩:=HXb.out.next hb;simp only[Nat.zero_add] at a0 a1 a2 a3 a4 b0 b1 b2 b3 b4;by_cases hlt:i < b.names.length
  {have hi1: (i:Int) < (b.names.length:Int):=by omega
   have hip:i < b.parts.length:=by have:=HRo.out.l; omega
   have hi2: (i:Int) < (b.parts.length:Int):=by omega
   rcases (HAb.out.strs.next hb).cell7 with h0 | ⟨g,off,hqA,hg,hc⟩
   {omega}
   have hcx:=hc i hlt;obtain ⟨x,hx⟩: ∃x,x=b.names[i]'hlt:=⟨_,rfl⟩;rw[<-hx] at hcx;have HX:=Y1 hx;rcases HAb.out.part with h0 | ⟨g',off',qs,hqP,hg',hc',hra⟩
   {omega}
   obtain ⟨y,hy⟩: ∃y,y=b.parts[i]'hip:=⟨_,rfl⟩;have hY5:=(hc' i hip).keep hg' hb;have hYA:=(hra i hip).next hb;have hpe:b.parts[i]'hip=y:=hy.symm;rw[hpe] at hY5 hYA;have HY:=Y1 hy;have HY5:=Y1 hY5;have HYA:=Y1 hYA;have HG':=Y1 hg';rw[hqA] at b3;rw[hqP] at b4;have HCX:=Y1 hcx;have HQA:=Y1 hqA;have HQP:=Y1 hqP;have HAt:=Y1 (HAa.out.next hb);have HGX:=Y1 hg;obtain ⟨p,hp⟩: ∃p,(get a x).getD Z0d=p:=⟨_,rfl⟩;obtain ⟨ok,hok⟩: ∃ok,(get a x).isSome=ok:=⟨_,rfl⟩;have HP:=Y1 (And.intro hp hok);clear hp hok hpe hY5 hYA hy hra hc' hc hx hg hg' hcx hb hqA hqP
   go_wp2_with fail
   refine Z6x (rs:= [0,1,2,3,4,5,6,7,8,9,10,11,12])
    (fun u'=> { tmps:=#[.agg (Y8 a pa),.agg (Y8 b pb),.pointer (some { block:=w.heap.size,off:=0 }),.pointer (some { block:=w.heap.size+1,off:=0 }),u4,.int .i64 ↑i,u' 10,u' 12,undef,undef,undef,undef,.pointer (some { block:=w.heap.size,off:=0 }),.int .i64 a.kind,.pointer (some { block:=w.heap.size+1,off:=0 }),.int .i64 b.kind,.bool false,.bool false,.pointer (some { block:=w.heap.size,off:=1 }),.string { data:=a.of_.toArray },.pointer (some { block:=w.heap.size+1,off:=1 }),.string { data:=b.of_.toArray },.bool false,.bool false,.bool false,.pointer (some { block:=w.heap.size,off:=2 }),.string { data:=a.name.toArray },.pointer (some { block:=w.heap.size+1,off:=2 }),.string { data:=b.name.toArray },.bool false,.bool false,.pointer (some { block:=w.heap.size,off:=0 }),.int .i64 a.kind,.bool true,.int .i64 ↑i,.pointer (some { block:=w.heap.size+1,off:=3 }),.slice (some { block:=g,off:=off }) b.names.length pb.c,.int .i64 ↑b.names.length,.bool true,u39,u40,u' 7,u' 0,u' 1,u' 2,u' 3,u' 4,u' 5,u' 6,u' 8,u' 9,u51,u52,u53,u54,u55,u56,u57,u58,u59,u60,u61,u62,undef,undef,undef,undef,undef,undef,undef,undef,undef,undef,undef,undef,undef,undef,undef,undef,undef,undef,undef,undef,undef,undef,undef,undef,undef,undef,undef,undef,undef,undef,undef,undef,undef,undef,undef,undef,undef,undef,undef,undef,undef,undef,undef,undef,undef,undef,undef,undef,undef,undef,undef,undef,undef,undef,undef,undef,undef,undef,undef,undef,undef,undef,undef,undef,undef,undef,undef,undef,undef,undef,undef,undef,undef,undef,undef,undef,undef,undef,undef,undef,undef,undef,undef,undef,undef,undef],defers:= [] })
    (fun j=>([u42,u43,u44,u45,u46,u47,u48,u41,u49,u50,u6,undef,u7]:List Value).getD j undef) (TakeI wr (takeT (.agg (Y8 a pa)) (.pointer (some ⟨w.heap.size+1,3,none⟩)) (.slice (some ⟨g,off,none⟩) b.names.length pb.c) (.int .i64 (i:Int)) (.pointer (some ⟨g,off+i,none⟩)) (.string ⟨x.toArray⟩) wr p ok) p) (by kernel_rfl) (by kernel_rfl) (by kernel_rfl) TakeI.start ?_ ?_
   refine StepsInv.cons _ rfl (fun d u' W K' hI hd hw hK=> ?_) ?_
   {obtain ⟨_,⟨y0,y1,y2,y3,y4⟩,_⟩:=HXa.out.next (Z00 HB.out hI.up);simp only[Nat.zero_add] at y0 y1 y2 y3 y4;refine Z01 (v:=(.agg (Y8 a pa))) (W':=W) rfl ?_ (hK.out _ _ (hI.step (by decide) (by decide) rfl Y2))
    try dsimp only
    go_simp}
   refine StepsInv.cons _ rfl (fun d u' W K' hI hd hw hK=> ?_) ?_
   {refine Z01 (v:=(.pointer (some ⟨w.heap.size+1,3,none⟩))) (W':=W) rfl ?_ (hK.out _ _ (hI.step (by decide) (by decide) rfl Y2))
    try dsimp only
    go_simp}
   refine StepsInv.cons _ rfl (fun d u' W K' hI hd hw hK=> ?_) ?_
   {have d1:u' 1=(.pointer (some ⟨w.heap.size+1,3,none⟩)):=hI.vals 1 (hw 1 (by kernel_rfl));obtain ⟨_,⟨y0,y1,y2,y3,y4⟩,_⟩:=HXb.out.next (Z00 HB.out hI.up);simp only[Nat.zero_add] at y0 y1 y2 y3 y4;rw[HQA.out] at y3;refine Z01 (v:=(.slice (some ⟨g,off,none⟩) b.names.length pb.c)) (W':=W) rfl ?_ (hK.out _ _ (hI.step (by decide) (by decide) rfl Y2))
    try dsimp only
    go_simp}
   refine StepsInv.cons _ rfl (fun d u' W K' hI hd hw hK=> ?_) ?_
   {refine Z01 (v:=(.int .i64 (i:Int))) (W':=W) rfl ?_ (hK.out _ _ (hI.step (by decide) (by decide) rfl Y2))
    try dsimp only
    go_simp}
   refine StepsInv.cons _ rfl (fun d u' W K' hI hd hw hK=> ?_) ?_
   {have d2:u' 2=(.slice (some ⟨g,off,none⟩) b.names.length pb.c):=hI.vals 2 (hw 2 (by kernel_rfl));have d3:u' 3=(.int .i64 (i:Int)):=hI.vals 3 (hw 3 (by kernel_rfl));refine Z01 (v:=(.pointer (some ⟨g,off+i,none⟩))) (W':=W) rfl ?_ (hK.out _ _ (hI.step (by decide) (by decide) rfl Y2))
    try dsimp only
    go_simp}
   refine StepsInv.cons _ rfl (fun d u' W K' hI hd hw hK=> ?_) ?_
   {have d4:u' 4=(.pointer (some ⟨g,off+i,none⟩)):=hI.vals 4 (hw 4 (by kernel_rfl));have hcx:=(hI.up.cell (p:=⟨g,off+i,none⟩) HGX.out).trans HCX.out;refine Z01 (v:=(.string ⟨x.toArray⟩)) (W':=W) rfl ?_ (hK.out _ _ (hI.step (by decide) (by decide) rfl Y2))
    try dsimp only
    go_simp}
   refine StepsInv.cons _ rfl (fun d u' W K' hI hd hw hK=> ?_) ?_
   {have d0:u' 0=(.agg (Y8 a pa)):=hI.vals 0 (hw 0 (by kernel_rfl));have d5:u' 5=(.string ⟨x.toArray⟩):=hI.vals 5 (hw 5 (by kernel_rfl));refine Z04 (f:=41) (args:=#[(.agg (Y8 a pa)),(.string ⟨x.toArray⟩)]) (W':=W) rfl ?_ ((Z80 HAt.out HRt.out HP.out.1 HP.out.2 hI.up).mono fun e w' ⟨q,he,hs,hb⟩=>⟨_,he,hK.out _ _ (hI.step (by decide) (by decide) ⟨q,rfl,hs⟩ hb)⟩)
    try dsimp only
    go_simp}
   refine StepsInv.cons _ rfl (fun d u' W K' hI hd hw hK=> ?_) ?_
   {obtain ⟨q,d6,hs⟩:=hI.vals 6 (hw 6 (by kernel_rfl));refine Z01 (v:= .tuple #[.agg (Y8 p q),.bool ok]) (W':=W) rfl ?_ (hK.out _ _ (hI.step (by decide) (by decide) ⟨q,rfl,hs⟩ Y2))
    try dsimp only
    go_simp}
   refine StepsInv.cons _ rfl (fun d u' W K' hI hd hw hK=> ?_) ?_
   {obtain ⟨q,d7,hs⟩:=hI.vals 7 (hw 7 (by kernel_rfl));refine Z01 (v:= .agg (Y8 p q)) (W':=W) rfl ?_ (hK.out _ _ (hI.step (by decide) (by decide) ⟨q,rfl,hs⟩ Y2))
    try dsimp only
    go_simp}
   refine StepsInv.cons _ rfl (fun d u' W K' hI hd hw hK=> ?_) ?_
   {obtain ⟨q,d7,hs⟩:=hI.vals 7 (hw 7 (by kernel_rfl));refine Z01 (v:= .bool ok) (W':=W) rfl ?_ (hK.out _ _ (hI.step (by decide) (by decide) rfl Y2))
    try dsimp only
    go_simp}
   refine StepsInv.cons _ rfl (fun d u' W K' hI hd hw hK=> ?_) ?_
   {refine Z01 (v:= .pointer (some ⟨W.heap.size,0,none⟩)) (W':=W.alloc (.cells Yb 25)) rfl ?_ (hK.out _ _ (hI.alloc hd (fun _=>trivial)))
    try dsimp only
    go_simp}
   refine StepsInv.cons _ rfl (fun d u' W K' hI hd hw hK=> ?_) ?_
   {obtain ⟨q,d8,hs⟩:=hI.vals 8 (hw 8 (by kernel_rfl));obtain ⟨b',d10,hb1,hr⟩:=hI.al (hw 10 (by kernel_rfl)) hd;obtain ⟨v0,y0⟩:=hr.ex 0 (by omega);obtain ⟨v1,y1⟩:=hr.ex 1 (by omega);obtain ⟨v2,y2⟩:=hr.ex 2 (by omega);obtain ⟨v3,y3⟩:=hr.ex 3 (by omega);obtain ⟨v4,y4⟩:=hr.ex 4 (by omega);have z0:=hr.fz 0;have z1:=hr.fz 1;have z2:=hr.fz 2;have z3:=hr.fz 3;have z4:=hr.fz 4;refine Z10 (W':=RX.lay W b' p q) rfl ?_ (hK.out _ _ (hI.store (hw 10 (by kernel_rfl)) hd (fun _=>trivial) d10 hs));unfold RX.lay
    try dsimp only
    go_simp}
   refine StepsInv.cons _ rfl (fun d u' W K' hI hd hw hK=> ?_) StepsInv.nil
   {have d9:u' 9= .bool ok:=hI.vals 9 (hw 9 (by kernel_rfl));refine Z01 (v:= .bool ok) (W':=W) rfl ?_ (hK.out _ _ (hI.step (by decide) (by decide) rfl Y2))
    try dsimp only
    go_simp}
   intro dd z' W2 hI hdn
   try dsimp only
   obtain ⟨h10,b',q,z10,hb1,hs,hbx⟩:=hI.st (hdn 11 (by decide));rw[z10,show z' 12= .bool ok from hI.vals 12 (hdn 12 (by decide))];have hb3:=hI.up;clear hI hdn h10 z10 hb1;have HB2:=Y1 hb3;have HBX:=Y1 hbx;have HSP:=Y1 (hs.next hb3);have HY5:=Y1 (HY5.out.keep (Nat.lt_of_lt_of_le HG'.out (by have:=HB.out.size; omega)) hb3);have HYA:=Y1 (HYA.out.next hb3);have HBB:=Y1 (Z00 HB.out hb3);clear hb3 hbx hs a0 a1 a2 a3 a4 b0 b1 b2 b3 b4;obtain ⟨_,⟨b0,b1,b2,b3,b4⟩,_⟩:=HXb.out.next HBB.out;simp only[Nat.zero_add] at b0 b1 b2 b3 b4;rw[HQP.out] at b4;cases ok with
   | false=>
    have HF:Hid (bw (f+1) a b=false):=Y1 (Zb5 H2.out.ra H2.out.rb HK.out.1 HK.out.2 hlt (by
     rw[<-HX.out];cases hq:get a x with
     | none=>rfl
     | some v=>have:=HP.out.2; rw[hq] at this; cases this))
    go_wp2_with fail
    go_quiet (fail)
    go_wp2;go_ret;exact ⟨by rw[HF.out]; rfl,Z0l (Z00 HB1.out HBB.out) _⟩
   | true=>
    have HG:Hid (get a x=some p):=Y1 (by
     cases hq:get a x with
     | none=>have:=HP.out.2; rw[hq] at this; cases this
     | some v=>have:=HP.out.1; rw[hq] at this; rw[<-this]; rfl)
    have hdr:Below W2.heap.size W2 W2.drew:=Y2.drew;have HD:=Y1 hdr;have HT:Hid (Two f p y):=Y1 (H2.out.part (Z06 HG.out) (by rw[HY.out]; exact List.getElem_mem hip));have HC:=Y1 (HI.out p y q (qs i) W2.drew HT.out (HSP.out.next hdr) (HYA.out.next hdr));obtain ⟨_,⟨x0,x1,x2,x3,x4⟩,_⟩:=HBX.out;obtain ⟨s0,s1,s2,s3,s4⟩:=HY5.out;simp only[Nat.zero_add] at x0 x1 x2 x3 x4;clear hdr
    go_wp2_with fail
    go_still_tail 9,(by kernel_rfl)
    change wpList _ _ _ _ _ W2.drew
    go_wp2_with fail
    refine HC.out.mono ?_;rintro e W3 ⟨rfl,hb4⟩;have HB3:=Y1 (Z00 HBB.out (Z00 HD.out hb4));clear hb4 HC x0 x1 x2 x3 x4 s0 s1 s2 s3 s4;cases hbw:bw f p y with
    | false=>
     have HF:Hid (bw (f+1) a b=false):=Y1 (ZbP H2.out.ra H2.out.rb HK.out.1 HK.out.2 hlt hip (p:=p) (by rw[<-HX.out]; exact HG.out) (by rw[<-HY.out]; exact hbw));go_wp2;go_ret;exact ⟨by rw[HF.out]; rfl,Z00 HB1.out HB3.out⟩
    | true=>
     have HE:Hid (∃p,get a (b.names[i]'hlt)=some p/\bw f p (b.parts[i]'hip)=true):=Y1 ⟨p,by rw[<-HX.out]; exact HG.out,by rw[<-HY.out]; exact hbw⟩;go_wp2
     go_roundw
     case rel=>exact ⟨i+1,by go_num,by omega,Y1 (fun j h1 h2 hji=>by
      rcases Nat.lt_succ_iff_lt_or_eq.1 hji with h | rfl
      {exact HN.out j h1 h2 h}
      · exact HE.out),HB3.out⟩
     case measure=>simp[intOf]; omega}
  {have hi1: ¬(i:Int) < (b.names.length:Int):=by omega
   have HF:Hid (bw (f+1) a b=true):=Y1 (Zbr H2.out.ra H2.out.rb HK.out.1 HK.out.2 (fun j h1 h2=>HN.out j h1 h2 (by omega)));clear hb;go_wp2;go_ret;exact ⟨by rw[HF.out]; rfl,Z00 HB1.out HB.out⟩}
end SubM
end Go.Proofs.YtlomianlcnmfgaaDoor
namespace Go.Proofs.YtlomianlcnmfgaaDoor
open Go.RowKit Shp Sub
namespace SubM
theorem Zau {f:Nat} (hI:UnderOk f) (a b:Sh) (pa pb:Ptr) (w:World) (h2:Two (f+1) a b) (ha:ShAt w w.heap.size pa a) (hb:ShAt w w.heap.size pb b) (hk:a.kind=b.kind) (ho:a.of_=b.of_) (hn:a.name=b.name) (h6:a.kind=7):
 Y9 21 #[.agg (Y8 a pa),.agg (Y8 b pb)] w (.bool (bw (f+1) a b)):=by
 have hx1:=Z02 w (.cells (Y8 a pa) 25);obtain ⟨u1,hu1⟩: ∃u1,w.alloc (.cells (Y8 a pa) 25)=u1:=⟨_,rfl⟩;have hs1:u1.heap.size=w.heap.size+1:=by rw[<-hu1]; simp
 have hy1:=Z03 w a pa;rw[hu1] at hx1 hy1;have hx2:=Z02 u1 (.cells (Y8 b pb) 25);obtain ⟨W1,hu2⟩: ∃u2,u1.alloc (.cells (Y8 b pb) 25)=u2:=⟨_,rfl⟩;have hy2:=Z03 u1 b pb;rw[hu2] at hx2 hy2;rw[hs1] at hy2;have hb12:=Z00 hx1 hx2;have hxa:=hy1.next hx2;have HXa:=Y1 hxa;have HXb:=Y1 hy2;have HAa:=Y1 (ha.next hb12);have HAb:=Y1 (hb.next hb12);have HB1:=Y1 hb12;have H2:=Y1 h2;have HI:=Y1 hI;have HRt:=Y1 (Z0S h2.rb (by rw[<-hk]; right; exact h6));have HRo:=Y1 (Z0S h2.ra (by right; exact h6));have HL:=Y1 (hb.small.l);have HM:=Y1 (hb.small.m);have HL':=Y1 (ha.small.l);have HM':=Y1 (ha.small.m);have HK:=Y1 (And.intro hk h6);obtain ⟨_,⟨a0,a1,a2,a3,a4⟩,_⟩:=hxa;obtain ⟨_,⟨b0,b1,b2,b3,b4⟩,_⟩:=hy2;simp only[Nat.zero_add] at a0 a1 a2 a3 a4 b0 b1 b2 b3 b4;have n1: (a.kind !=b.kind)=false:=by rw[hk]; simp
 have n2: (a.of_ !=b.of_)=false:=by rw[ho]; simp
 have n3: (a.name !=b.name)=false:=by rw[hn]; simp
 have e1: (a.kind==b.kind)=true:=by rw[hk]; simp
 have e2: (a.of_==b.of_)=true:=by rw[ho]; simp
 have e3: (a.name==b.name)=true:=by rw[hn]; simp
 have n6:=Y3 6 h6 rfl;have n7:=Y4 7 h6 rfl;clear hx1 hx2 hy1 hb12 ha hb h2 hI;go_enter Tryd.func21,Tryd.ntmps21;clear hk ho hn h6
 go_wp2_with fail
 clear hs1 hu1 hu2 a0 a1 a2 a3 a4 b0 b1 b2 b3 b4 n1 n2 n3 e1 e2 e3 n6 n7
 go_loopw [8] (fun ii wr=> ∃i:Nat,ii= .int .i64 i/\i<=a.names.length/\Hid (∀j (h1:j < a.names.length) (h2:j < a.parts.length),j < i-> ∃p,get b (a.names[j]'h1)=some p/\bw f (a.parts[j]'h2) p=true)/\Below W1.heap.size W1 wr) (fun i _=>a.names.length - (intOf i).toNat)
 case atStart=>exact ⟨0,rfl,Nat.zero_le _,Y1 (fun j _ _ hj=>absurd hj (by omega)),Below.refl _ _⟩
 case round=>
  obtain ⟨i,rfl,hi,HN,hb⟩:=hrel;have hl:=HL.out;have hm:=HM.out;have hl':=HL'.out;have hm':=HM'.out;have HB:=Y1 hb;obtain ⟨_,⟨a0,a1,a2,a3,a4⟩,_⟩:=HXa.out.next hb;obtain ⟨_,⟨b0,b1,b2,b3,b4⟩,_⟩:=HXb.out.next hb;simp only[Nat.zero_add] at a0 a1 a2 a3 a4 b0 b1 b2 b3 b4;by_cases hlt:i < a.names.length
  {have hi1: (i:Int) < (a.names.length:Int):=by omega
   have hip:i < a.parts.length:=by have:=HRo.out.l; omega
   have hi2: (i:Int) < (a.parts.length:Int):=by omega
   rcases (HAa.out.strs.next hb).cell7 with h0 | ⟨g,off,hqA,hg,hc⟩
   {omega}
   have hcx:=hc i hlt;obtain ⟨x,hx⟩: ∃x,x=a.names[i]'hlt:=⟨_,rfl⟩;rw[<-hx] at hcx;have HX:=Y1 hx;rcases HAa.out.part with h0 | ⟨g',off',qs,hqP,hg',hc',hra⟩
   {omega}
   obtain ⟨y,hy⟩: ∃y,y=a.parts[i]'hip:=⟨_,rfl⟩;have hY5:=(hc' i hip).keep hg' hb;have hYA:=(hra i hip).next hb;have hpe:a.parts[i]'hip=y:=hy.symm;rw[hpe] at hY5 hYA;have HY:=Y1 hy;have HY5:=Y1 hY5;have HYA:=Y1 hYA;have HG':=Y1 hg';rw[hqA] at a3;rw[hqP] at a4;have HCX:=Y1 hcx;have HQA:=Y1 hqA;have HQP:=Y1 hqP;have HAt:=Y1 (HAb.out.next hb);have HGX:=Y1 hg;obtain ⟨p,hp⟩: ∃p,(get b x).getD Z0d=p:=⟨_,rfl⟩;obtain ⟨ok,hok⟩: ∃ok,(get b x).isSome=ok:=⟨_,rfl⟩;have HP:=Y1 (And.intro hp hok);clear hp hok hpe hY5 hYA hy hra hc' hc hx hg hg' hcx hb hqA hqP
   go_wp2_with fail
   refine Z6x (rs:= [0,1,2,3,4,5,6,7,8,9,10,11,12])
    (fun u'=> { tmps:=#[.agg (Y8 a pa),.agg (Y8 b pb),.pointer (some { block:=w.heap.size,off:=0 }),.pointer (some { block:=w.heap.size+1,off:=0 }),u4,undef,undef,undef,.int .i64 ↑i,u' 10,u' 12,undef,.pointer (some { block:=w.heap.size,off:=0 }),.int .i64 a.kind,.pointer (some { block:=w.heap.size+1,off:=0 }),.int .i64 b.kind,.bool false,.bool false,.pointer (some { block:=w.heap.size,off:=1 }),.string { data:=a.of_.toArray },.pointer (some { block:=w.heap.size+1,off:=1 }),.string { data:=b.of_.toArray },.bool false,.bool false,.bool false,.pointer (some { block:=w.heap.size,off:=2 }),.string { data:=a.name.toArray },.pointer (some { block:=w.heap.size+1,off:=2 }),.string { data:=b.name.toArray },.bool false,.bool false,.pointer (some { block:=w.heap.size,off:=0 }),.int .i64 a.kind,.bool false,undef,undef,undef,undef,undef,undef,undef,undef,undef,undef,undef,undef,undef,undef,undef,undef,undef,undef,undef,undef,undef,undef,undef,undef,undef,undef,undef,undef,undef,.pointer (some { block:=w.heap.size,off:=0 }),.int .i64 a.kind,.bool true,.int .i64 ↑i,.pointer (some { block:=w.heap.size,off:=3 }),.slice (some { block:=g,off:=off }) a.names.length pa.c,.int .i64 ↑a.names.length,.bool true,u71,u72,u' 7,u' 0,u' 1,u' 2,u' 3,u' 4,u' 5,u' 6,u' 8,u' 9,u83,u84,u85,u86,u87,u88,u89,u90,u91,u92,u93,u94,undef,undef,undef,undef,undef,undef,undef,undef,undef,undef,undef,undef,undef,undef,undef,undef,undef,undef,undef,undef,undef,undef,undef,undef,undef,undef,undef,undef,undef,undef,undef,undef,undef,undef,undef,undef,undef,undef,undef,undef,undef,undef,undef,undef,undef,undef,undef,undef,undef,undef,undef,undef,undef,undef],defers:= [] })
    (fun j=>([u74,u75,u76,u77,u78,u79,u80,u73,u81,u82,u9,undef,u10]:List Value).getD j undef) (TakeI wr (takeT (.agg (Y8 b pb)) (.pointer (some ⟨w.heap.size,3,none⟩)) (.slice (some ⟨g,off,none⟩) a.names.length pa.c) (.int .i64 (i:Int)) (.pointer (some ⟨g,off+i,none⟩)) (.string ⟨x.toArray⟩) wr p ok) p) (by kernel_rfl) (by kernel_rfl) (by kernel_rfl) TakeI.start ?_ ?_
   refine StepsInv.cons _ rfl (fun d u' W K' hI hd hw hK=> ?_) ?_
   {obtain ⟨_,⟨y0,y1,y2,y3,y4⟩,_⟩:=HXb.out.next (Z00 HB.out hI.up);simp only[Nat.zero_add] at y0 y1 y2 y3 y4;refine Z01 (v:=(.agg (Y8 b pb))) (W':=W) rfl ?_ (hK.out _ _ (hI.step (by decide) (by decide) rfl Y2))
    try dsimp only
    go_simp}
   refine StepsInv.cons _ rfl (fun d u' W K' hI hd hw hK=> ?_) ?_
   {refine Z01 (v:=(.pointer (some ⟨w.heap.size,3,none⟩))) (W':=W) rfl ?_ (hK.out _ _ (hI.step (by decide) (by decide) rfl Y2))
    try dsimp only
    go_simp}
   refine StepsInv.cons _ rfl (fun d u' W K' hI hd hw hK=> ?_) ?_
   {have d1:u' 1=(.pointer (some ⟨w.heap.size,3,none⟩)):=hI.vals 1 (hw 1 (by kernel_rfl));obtain ⟨_,⟨y0,y1,y2,y3,y4⟩,_⟩:=HXa.out.next (Z00 HB.out hI.up);simp only[Nat.zero_add] at y0 y1 y2 y3 y4;rw[HQA.out] at y3;refine Z01 (v:=(.slice (some ⟨g,off,none⟩) a.names.length pa.c)) (W':=W) rfl ?_ (hK.out _ _ (hI.step (by decide) (by decide) rfl Y2))
    try dsimp only
    go_simp}
   refine StepsInv.cons _ rfl (fun d u' W K' hI hd hw hK=> ?_) ?_
   {refine Z01 (v:=(.int .i64 (i:Int))) (W':=W) rfl ?_ (hK.out _ _ (hI.step (by decide) (by decide) rfl Y2))
    try dsimp only
    go_simp}
   refine StepsInv.cons _ rfl (fun d u' W K' hI hd hw hK=> ?_) ?_
   {have d2:u' 2=(.slice (some ⟨g,off,none⟩) a.names.length pa.c):=hI.vals 2 (hw 2 (by kernel_rfl));have d3:u' 3=(.int .i64 (i:Int)):=hI.vals 3 (hw 3 (by kernel_rfl));refine Z01 (v:=(.pointer (some ⟨g,off+i,none⟩))) (W':=W) rfl ?_ (hK.out _ _ (hI.step (by decide) (by decide) rfl Y2))
    try dsimp only
    go_simp}
   refine StepsInv.cons _ rfl (fun d u' W K' hI hd hw hK=> ?_) ?_
   {have d4:u' 4=(.pointer (some ⟨g,off+i,none⟩)):=hI.vals 4 (hw 4 (by kernel_rfl));have hcx:=(hI.up.cell (p:=⟨g,off+i,none⟩) HGX.out).trans HCX.out;refine Z01 (v:=(.string ⟨x.toArray⟩)) (W':=W) rfl ?_ (hK.out _ _ (hI.step (by decide) (by decide) rfl Y2))
    try dsimp only
    go_simp}
   refine StepsInv.cons _ rfl (fun d u' W K' hI hd hw hK=> ?_) ?_
   {have d0:u' 0=(.agg (Y8 b pb)):=hI.vals 0 (hw 0 (by kernel_rfl));have d5:u' 5=(.string ⟨x.toArray⟩):=hI.vals 5 (hw 5 (by kernel_rfl));refine Z04 (f:=41) (args:=#[(.agg (Y8 b pb)),(.string ⟨x.toArray⟩)]) (W':=W) rfl ?_ ((Z80 HAt.out HRt.out HP.out.1 HP.out.2 hI.up).mono fun e w' ⟨q,he,hs,hb⟩=>⟨_,he,hK.out _ _ (hI.step (by decide) (by decide) ⟨q,rfl,hs⟩ hb)⟩)
    try dsimp only
    go_simp}
   refine StepsInv.cons _ rfl (fun d u' W K' hI hd hw hK=> ?_) ?_
   {obtain ⟨q,d6,hs⟩:=hI.vals 6 (hw 6 (by kernel_rfl));refine Z01 (v:= .tuple #[.agg (Y8 p q),.bool ok]) (W':=W) rfl ?_ (hK.out _ _ (hI.step (by decide) (by decide) ⟨q,rfl,hs⟩ Y2))
    try dsimp only
    go_simp}
   refine StepsInv.cons _ rfl (fun d u' W K' hI hd hw hK=> ?_) ?_
   {obtain ⟨q,d7,hs⟩:=hI.vals 7 (hw 7 (by kernel_rfl));refine Z01 (v:= .agg (Y8 p q)) (W':=W) rfl ?_ (hK.out _ _ (hI.step (by decide) (by decide) ⟨q,rfl,hs⟩ Y2))
    try dsimp only
    go_simp}
   refine StepsInv.cons _ rfl (fun d u' W K' hI hd hw hK=> ?_) ?_
   {obtain ⟨q,d7,hs⟩:=hI.vals 7 (hw 7 (by kernel_rfl));refine Z01 (v:= .bool ok) (W':=W) rfl ?_ (hK.out _ _ (hI.step (by decide) (by decide) rfl Y2))
    try dsimp only
    go_simp}
   refine StepsInv.cons _ rfl (fun d u' W K' hI hd hw hK=> ?_) ?_
   {refine Z01 (v:= .pointer (some ⟨W.heap.size,0,none⟩)) (W':=W.alloc (.cells Yb 25)) rfl ?_ (hK.out _ _ (hI.alloc hd (fun _=>trivial)))
    try dsimp only
    go_simp}
   refine StepsInv.cons _ rfl (fun d u' W K' hI hd hw hK=> ?_) ?_
   {obtain ⟨q,d8,hs⟩:=hI.vals 8 (hw 8 (by kernel_rfl));obtain ⟨b',d10,hb1,hr⟩:=hI.al (hw 10 (by kernel_rfl)) hd;obtain ⟨v0,y0⟩:=hr.ex 0 (by omega);obtain ⟨v1,y1⟩:=hr.ex 1 (by omega);obtain ⟨v2,y2⟩:=hr.ex 2 (by omega);obtain ⟨v3,y3⟩:=hr.ex 3 (by omega);obtain ⟨v4,y4⟩:=hr.ex 4 (by omega);have z0:=hr.fz 0;have z1:=hr.fz 1;have z2:=hr.fz 2;have z3:=hr.fz 3;have z4:=hr.fz 4;refine Z10 (W':=RX.lay W b' p q) rfl ?_ (hK.out _ _ (hI.store (hw 10 (by kernel_rfl)) hd (fun _=>trivial) d10 hs));unfold RX.lay
    try dsimp only
    go_simp}
   refine StepsInv.cons _ rfl (fun d u' W K' hI hd hw hK=> ?_) StepsInv.nil
   {have d9:u' 9= .bool ok:=hI.vals 9 (hw 9 (by kernel_rfl));refine Z01 (v:= .bool ok) (W':=W) rfl ?_ (hK.out _ _ (hI.step (by decide) (by decide) rfl Y2))
    try dsimp only
    go_simp}
   intro dd z' W2 hI hdn
   try dsimp only
   obtain ⟨h10,b',q,z10,hb1,hs,hbx⟩:=hI.st (hdn 11 (by decide));rw[z10,show z' 12= .bool ok from hI.vals 12 (hdn 12 (by decide))];have hb3:=hI.up;clear hI hdn h10 z10 hb1;have HB2:=Y1 hb3;have HBX:=Y1 hbx;have HSP:=Y1 (hs.next hb3);have HY5:=Y1 (HY5.out.keep (Nat.lt_of_lt_of_le HG'.out (by have:=HB.out.size; omega)) hb3);have HYA:=Y1 (HYA.out.next hb3);have HBB:=Y1 (Z00 HB.out hb3);clear hb3 hbx hs a0 a1 a2 a3 a4 b0 b1 b2 b3 b4;obtain ⟨_,⟨a0,a1,a2,a3,a4⟩,_⟩:=HXa.out.next HBB.out;simp only[Nat.zero_add] at a0 a1 a2 a3 a4;rw[HQP.out] at a4;cases ok with
   | false=>
    have HF:Hid (bw (f+1) a b=false):=Y1 (Zb6 H2.out.ra H2.out.rb HK.out.1 HK.out.2 hlt (by
     rw[<-HX.out];cases hq:get b x with
     | none=>rfl
     | some v=>have:=HP.out.2; rw[hq] at this; cases this))
    go_wp2_with fail
    go_quiet (fail)
    go_wp2;go_ret;exact ⟨by rw[HF.out]; rfl,Z0l (Z00 HB1.out HBB.out) _⟩
   | true=>
    have HG:Hid (get b x=some p):=Y1 (by
     cases hq:get b x with
     | none=>have:=HP.out.2; rw[hq] at this; cases this
     | some v=>have:=HP.out.1; rw[hq] at this; rw[<-this]; rfl)
    have hdr:Below W2.heap.size W2 W2.drew:=Y2.drew;have HD:=Y1 hdr;have HT:Hid (Two f y p):=Y1 (H2.out.part (by rw[HY.out]; exact List.getElem_mem hip) (Z06 HG.out));have HC:=Y1 (HI.out y p (qs i) q W2.drew HT.out (HYA.out.next hdr) (HSP.out.next hdr));obtain ⟨_,⟨x0,x1,x2,x3,x4⟩,_⟩:=HBX.out;obtain ⟨s0,s1,s2,s3,s4⟩:=HY5.out;simp only[Nat.zero_add] at x0 x1 x2 x3 x4;clear hdr
    go_wp2_with fail
    go_still_tail 9,(by kernel_rfl)
    change wpList _ _ _ _ _ W2.drew
    go_wp2_with fail
    refine HC.out.mono ?_;rintro e W3 ⟨rfl,hb4⟩;have HB3:=Y1 (Z00 HBB.out (Z00 HD.out hb4));clear hb4 HC x0 x1 x2 x3 x4 s0 s1 s2 s3 s4;cases hbw:bw f y p with
    | false=>
     have HF:Hid (bw (f+1) a b=false):=Y1 (ZbQ H2.out.ra H2.out.rb HK.out.1 HK.out.2 hlt hip (p:=p) (by rw[<-HX.out]; exact HG.out) (by rw[<-HY.out]; exact hbw));go_wp2;go_ret;exact ⟨by rw[HF.out]; rfl,Z00 HB1.out HB3.out⟩
    | true=>
     have HE:Hid (∃p,get b (a.names[i]'hlt)=some p/\bw f (a.parts[i]'hip) p=true):=Y1 ⟨p,by rw[<-HX.out]; exact HG.out,by rw[<-HY.out]; exact hbw⟩;go_wp2
     go_roundw
     case rel=>exact ⟨i+1,by go_num,by omega,Y1 (fun j h1 h2 hji=>by
      rcases Nat.lt_succ_iff_lt_or_eq.1 hji with h | rfl
      {exact HN.out j h1 h2 h}
      · exact HE.out),HB3.out⟩
     case measure=>simp[intOf]; omega}
  {have hi1: ¬(i:Int) < (a.names.length:Int):=by omega
   have HF:Hid (bw (f+1) a b=true):=Y1 (Zbs H2.out.ra H2.out.rb HK.out.1 HK.out.2 (fun j h1 h2=>HN.out j h1 h2 (by omega)));clear hb;go_wp2;go_ret;exact ⟨by rw[HF.out]; rfl,Z00 HB1.out HB.out⟩}
end SubM
end Go.Proofs.YtlomianlcnmfgaaDoor
namespace Go.Proofs.YtlomianlcnmfgaaDoor
open Go.RowKit Shp Sub
namespace SubM
theorem Z9b {f:Nat} (a b:Sh) (pa pb:Ptr) (w:World) (h2:Two (f+1) a b) (ha:ShAt w w.heap.size pa a) (hb:ShAt w w.heap.size pb b) (hd: ¬(a.kind=b.kind/\a.of_=b.of_/\a.name=b.name)):
 Y9 21 #[.agg (Y8 a pa),.agg (Y8 b pb)] w (.bool (bw (f+1) a b)):=by
 have hF:bw (f+1) a b=false:=by
  by_cases h1:a.kind=b.kind
  {refine Zb4 h2.ra h2.rb ?_;by_cases h3:a.of_=b.of_
   {exact Or.inr (fun h4=>hd ⟨h1,h3,h4⟩)}
   {exact Or.inl h3}}
  {exact Z6C h1}
 rw[hF];have hx1:=Z02 w (.cells (Y8 a pa) 25);obtain ⟨u1,hu1⟩: ∃u1,w.alloc (.cells (Y8 a pa) 25)=u1:=⟨_,rfl⟩;have hs1:u1.heap.size=w.heap.size+1:=by rw[<-hu1]; simp
 have hy1:=Z03 w a pa;rw[hu1] at hx1 hy1;have hx2:=Z02 u1 (.cells (Y8 b pb) 25);obtain ⟨W1,hu2⟩: ∃u2,u1.alloc (.cells (Y8 b pb) 25)=u2:=⟨_,rfl⟩;have hy2:=Z03 u1 b pb;rw[hu2] at hx2 hy2;rw[hs1] at hy2;have hb12:=Z00 hx1 hx2;have hxa:=hy1.next hx2;have HXa:=Y1 hxa;have HXb:=Y1 hy2;have HAa:=Y1 (ha.next hb12);have HAb:=Y1 (hb.next hb12);have HB1:=Y1 hb12;have H2:=Y1 h2;have HL:=Y1 (hb.small.l);have HM:=Y1 (hb.small.m);have HL':=Y1 (ha.small.l);have HM':=Y1 (ha.small.m);have hm1:=hb.small.m;have hm2:=ha.small.m;obtain ⟨_,⟨a0,a1,a2,a3,a4⟩,_⟩:=hxa;obtain ⟨_,⟨b0,b1,b2,b3,b4⟩,_⟩:=hy2;simp only[Nat.zero_add] at a0 a1 a2 a3 a4 b0 b1 b2 b3 b4;by_cases h1:a.kind=b.kind
 {have n1: (a.kind !=b.kind)=false:=by rw[h1]; simp
  have e1: (a.kind==b.kind)=true:=by rw[h1]; simp
  by_cases h3:a.of_=b.of_
  {have n2: (a.of_ !=b.of_)=false:=by rw[h3]; simp
   have e2: (a.of_==b.of_)=true:=by rw[h3]; simp
   have h4:a.name≠b.name:=fun h4=>hd ⟨h1,h3,h4⟩;have e3: (a.name==b.name)=false:=by simpa using h4
   have n3: (a.name !=b.name)=true:=by unfold bne; rw[e3]; rfl
   clear hx1 hx2 hy1 hb12 ha hb h2 hF hd h1 h3 h4;go_enter Tryd.func21,Tryd.ntmps21;go_wp2;go_ret;exact ⟨rfl,HB1.out⟩}
  {have e2: (a.of_==b.of_)=false:=by simpa using h3
   have n2: (a.of_ !=b.of_)=true:=by unfold bne; rw[e2]; rfl
   clear hx1 hx2 hy1 hb12 ha hb h2 hF hd h1 h3;go_enter Tryd.func21,Tryd.ntmps21;go_wp2;go_ret;exact ⟨rfl,HB1.out⟩}}
 {have e1: (a.kind==b.kind)=false:=by simpa using h1
  have n1: (a.kind !=b.kind)=true:=by unfold bne; rw[e1]; rfl
  clear hx1 hx2 hy1 hb12 ha hb h2 hF hd h1;go_enter Tryd.func21,Tryd.ntmps21;go_wp2;go_ret;exact ⟨rfl,HB1.out⟩}
theorem Zb7 {f:Nat} (hI:UnderOk f) (a b:Sh) (pa pb:Ptr) (w:World) (h2:Two (f+1) a b) (ha:ShAt w w.heap.size pa a) (hb:ShAt w w.heap.size pb b) (hk:a.kind=b.kind) (ho:a.of_=b.of_) (hn:a.name=b.name) (h6: ¬(a.kind=6\/a.kind=7)):
 Y9 21 #[.agg (Y8 a pa),.agg (Y8 b pb)] w (.bool (bw (f+1) a b)):=by
 have hx1:=Z02 w (.cells (Y8 a pa) 25);obtain ⟨u1,hu1⟩: ∃u1,w.alloc (.cells (Y8 a pa) 25)=u1:=⟨_,rfl⟩;have hs1:u1.heap.size=w.heap.size+1:=by rw[<-hu1]; simp
 have hy1:=Z03 w a pa;rw[hu1] at hx1 hy1;have hx2:=Z02 u1 (.cells (Y8 b pb) 25);obtain ⟨W1,hu2⟩: ∃u2,u1.alloc (.cells (Y8 b pb) 25)=u2:=⟨_,rfl⟩;have hy2:=Z03 u1 b pb;rw[hu2] at hx2 hy2;rw[hs1] at hy2;have hb12:=Z00 hx1 hx2;have hxa:=hy1.next hx2;have HXa:=Y1 hxa;have HXb:=Y1 hy2;have HAa:=Y1 (ha.next hb12);have HAb:=Y1 (hb.next hb12);have HB1:=Y1 hb12;have H2:=Y1 h2;have HL:=Y1 (hb.small.l);have HM:=Y1 (hb.small.m);have HL':=Y1 (ha.small.l);have HM':=Y1 (ha.small.m);have hm1:=hb.small.m;have hm2:=ha.small.m;obtain ⟨_,⟨a0,a1,a2,a3,a4⟩,_⟩:=hxa;obtain ⟨_,⟨b0,b1,b2,b3,b4⟩,_⟩:=hy2;simp only[Nat.zero_add] at a0 a1 a2 a3 a4 b0 b1 b2 b3 b4;have HI:=Y1 hI;have HK:=Y1 (And.intro hk (And.intro ho (And.intro hn h6)));have n1: (a.kind !=b.kind)=false:=by rw[hk]; simp
 have n2: (a.of_ !=b.of_)=false:=by rw[ho]; simp
 have n3: (a.name !=b.name)=false:=by rw[hn]; simp
 have e1: (a.kind==b.kind)=true:=by rw[hk]; simp
 have e2: (a.of_==b.of_)=true:=by rw[ho]; simp
 have e3: (a.name==b.name)=true:=by rw[hn]; simp
 have n6: (a.kind==6)=false:=by simp; exact fun h=>h6 (Or.inl h)
 have n7: (a.kind==7)=false:=by simp; exact fun h=>h6 (Or.inr h)
 clear hx1 hx2 hy1 hb12 ha hb h2 hI;go_enter Tryd.func21,Tryd.ntmps21;clear hk ho hn h6;by_cases hpl:a.parts.length=b.parts.length
 {have n5: ((a.parts.length:Int) !=(b.parts.length:Int))=false:=by rw[hpl]; simp
  have e5: ((a.parts.length:Int)==(b.parts.length:Int))=true:=by rw[hpl]; simp
  have HPL:=Y1 hpl;clear hpl
  go_wp2_with fail
  clear hs1 hu1 hu2 a0 a1 a2 a3 a4 b0 b1 b2 b3 b4 n1 n2 n3 e1 e2 e3 n6 n7 n5 e5
  go_loopw [11] (fun ii wr=> ∃i:Nat,ii= .int .i64 i/\i<=a.parts.length/\Hid (∀j (h1:j < a.parts.length) (h2:j < b.parts.length),j < i->(if j+1=a.parts.length then bw f (a.parts[j]'h1) (b.parts[j]'h2) else bw f (b.parts[j]'h2) (a.parts[j]'h1))=true)/\Below W1.heap.size W1 wr) (fun i _=>a.parts.length - (intOf i).toNat)
  case atStart=>exact ⟨0,rfl,Nat.zero_le _,Y1 (fun j _ _ hj=>absurd hj (by omega)),Below.refl _ _⟩
  case round=>
   obtain ⟨i,rfl,hi,HN,hb⟩:=hrel;have hl:=HL.out;have hm:=HM.out;have hl':=HL'.out;have hm':=HM'.out;have HB:=Y1 hb;obtain ⟨_,⟨a0,a1,a2,a3,a4⟩,_⟩:=HXa.out.next hb;obtain ⟨_,⟨b0,b1,b2,b3,b4⟩,_⟩:=HXb.out.next hb;simp only[Nat.zero_add] at a0 a1 a2 a3 a4 b0 b1 b2 b3 b4;by_cases hlt:i < a.parts.length
   {have hi1: (i:Int) < (a.parts.length:Int):=by omega
    have hib:i < b.parts.length:=by have:=HPL.out; omega
    have hi2: (i:Int) < (b.parts.length:Int):=by omega
    rcases HAa.out.part with h0 | ⟨g,off,qs,hqP,hg,hc,hra⟩
    {omega}
    rcases HAb.out.part with h0 | ⟨g',off',qs',hqP',hg',hc',hra'⟩
    {omega}
    obtain ⟨x,hx⟩: ∃x,x=a.parts[i]'hlt:=⟨_,rfl⟩;obtain ⟨y,hy⟩: ∃y,y=b.parts[i]'hib:=⟨_,rfl⟩;have hX5:=(hc i hlt).keep hg hb;have hXA:=(hra i hlt).next hb;have hY5:=(hc' i hib).keep hg' hb;have hYA:=(hra' i hib).next hb;have hxe:a.parts[i]'hlt=x:=hx.symm;have hye:b.parts[i]'hib=y:=hy.symm;rw[hxe] at hX5 hXA;rw[hye] at hY5 hYA;have HX:=Y1 hx;have HY:=Y1 hy;have HXX:=Y1 hXA;have HYY:=Y1 hYA;have HX5:=Y1 hX5;have HY5:=Y1 hY5;have HGA:=Y1 (And.intro hg hg');have HQA:=Y1 hqP;have HQB:=Y1 hqP';obtain ⟨x0,x1,x2,x3,x4⟩:=hX5;obtain ⟨y0,y1,y2,y3,y4⟩:=hY5;rw[hqP] at a4;rw[hqP'] at b4;have HT:Hid (Two f x y):=Y1 (H2.out.part (by rw[hx]; exact List.getElem_mem hlt) (by rw[hy]; exact List.getElem_mem hib));clear hxe hye hXA hYA hra hra' hc hc' hx hy hg hg' hb hqP hqP';have kw:IntKind.i64.wrap ((a.parts.length:Int) - 1)=(a.parts.length:Int) - 1:=IntWalk.i64_in _ (by omega);by_cases hE:i+1=a.parts.length
    {have HE:=Y1 hE;have k1: ((i:Int)==(a.parts.length:Int) - 1)=true:=by simp; omega
     have hdr:Below wr.heap.size wr wr.drew:=Y2.drew;have HD:=Y1 hdr;have HC:=Y1 (HI.out x y (qs i) (qs' i) wr.drew HT.out (HXX.out.next hdr) (HYY.out.next hdr));clear hdr hE
     go_wp2_with fail
     go_still_tail 17,(by kernel_rfl)
     change wpList _ _ _ _ _ wr.drew
     go_wp2_with fail
     refine HC.out.mono ?_;rintro e W3 ⟨rfl,hb4⟩;have HB3:=Y1 (Z00 HB.out (Z00 HD.out hb4));clear hb4 HC x0 x1 x2 x3 x4 y0 y1 y2 y3 y4 a0 a1 a2 a3 a4 b0 b1 b2 b3 b4;cases hbw:bw f x y with
     | false=>
      have HF:Hid (bw (f+1) a b=false):=Y1 (Zbt H2.out.ra H2.out.rb HK.out.2.2.2 hlt hib HE.out (by rw[<-HX.out, <-HY.out]; exact hbw));go_wp2;go_ret;exact ⟨by rw[HF.out]; rfl,Z00 HB1.out HB3.out⟩
     | true=>
      have HEE:Hid ((if i+1=a.parts.length then bw f (a.parts[i]'hlt) (b.parts[i]'hib) else bw f (b.parts[i]'hib) (a.parts[i]'hlt))=true):=Y1 (by rw[if_pos HE.out, <-HX.out, <-HY.out]; exact hbw);obtain ⟨_,⟨a0,a1,a2,a3,a4⟩,_⟩:=HXa.out.next HB3.out;obtain ⟨_,⟨b0,b1,b2,b3,b4⟩,_⟩:=HXb.out.next HB3.out;simp only[Nat.zero_add] at a0 a1 a2 a3 a4 b0 b1 b2 b3 b4;have k3:decide ((i:Int) < (a.parts.length:Int) - 1)=false:=decide_eq_false (by have:=HE.out; omega)
      go_wp2_with fail
      go_quiet (fail)
      go_wp2
      go_roundw
      case rel=>exact ⟨i+1,by go_num,by omega,Y1 (fun j h1 h2 hji=>by
       rcases Nat.lt_succ_iff_lt_or_eq.1 hji with h | rfl
       {exact HN.out j h1 h2 h}
       · exact HEE.out),Z0l HB3.out _⟩
      case measure=>simp[intOf]; omega}
    {have HE:=Y1 hE;have k1: ((i:Int)==(a.parts.length:Int) - 1)=false:=by simp; omega
     clear hE x0 x1 x2 x3 x4 y0 y1 y2 y3 y4
     go_wp2_with fail
     go_quiet (fail)
     have hbq:Below wr.heap.size wr (wr.drewN nq):=Z0l Y2 nq;generalize wr.drewN nq=Wq at hbq ⊢;have hdr:=Z00 hbq (Below.refl Wq.heap.size Wq).drew;have HD:=Y1 hdr;have HC:=Y1 (HI.out y x (qs' i) (qs i) Wq.drew HT.out.swap (HYY.out.next hdr) (HXX.out.next hdr));obtain ⟨x0,x1,x2,x3,x4⟩:=HX5.out.keep (Nat.lt_of_lt_of_le HGA.out.1 HB.out.size) hbq;obtain ⟨y0,y1,y2,y3,y4⟩:=HY5.out.keep (Nat.lt_of_lt_of_le HGA.out.2 HB.out.size) hbq;clear a0 a1 a2 a3 a4 b0 b1 b2 b3 b4;obtain ⟨_,⟨a0,a1,a2,a3,a4⟩,_⟩:=HXa.out.next (Z00 HB.out hbq);obtain ⟨_,⟨b0,b1,b2,b3,b4⟩,_⟩:=HXb.out.next (Z00 HB.out hbq);simp only[Nat.zero_add] at a0 a1 a2 a3 a4 b0 b1 b2 b3 b4;rw[HQA.out] at a4;rw[HQB.out] at b4;have k3: (i:Int) < (a.parts.length:Int) - 1:=by have:=HE.out; omega
     clear hbq hdr
     go_wp2_with fail
     go_still_tail 17,(by kernel_rfl)
     change wpList _ _ _ _ _ Wq.drew
     go_wp2_with fail
     refine HC.out.mono ?_;rintro e W3 ⟨rfl,hb4⟩;have HB3:=Y1 (Z00 HB.out (Z00 HD.out hb4));clear hb4 HC x0 x1 x2 x3 x4 y0 y1 y2 y3 y4 a0 a1 a2 a3 a4 b0 b1 b2 b3 b4;cases hbw:bw f y x with
     | false=>
      have HF:Hid (bw (f+1) a b=false):=Y1 (Zbu H2.out.ra H2.out.rb HK.out.2.2.2 hlt hib HE.out (by rw[<-HX.out, <-HY.out]; exact hbw));go_wp2;go_ret;exact ⟨by rw[HF.out]; rfl,Z00 HB1.out HB3.out⟩
     | true=>
      have HEE:Hid ((if i+1=a.parts.length then bw f (a.parts[i]'hlt) (b.parts[i]'hib) else bw f (b.parts[i]'hib) (a.parts[i]'hlt))=true):=Y1 (by rw[if_neg HE.out, <-HX.out, <-HY.out]; exact hbw);go_wp2
      go_roundw
      case rel=>exact ⟨i+1,by go_num,by omega,Y1 (fun j h1 h2 hji=>by
       rcases Nat.lt_succ_iff_lt_or_eq.1 hji with h | rfl
       {exact HN.out j h1 h2 h}
       · exact HEE.out),HB3.out⟩
      case measure=>simp[intOf]; omega}}
   {have hi1: ¬(i:Int) < (a.parts.length:Int):=by omega
    have HF:Hid (bw (f+1) a b=true):=Y1 (ZbS H2.out.ra H2.out.rb HK.out.1 HK.out.2.1 HK.out.2.2.1 HK.out.2.2.2 HPL.out (fun j h1 h2=>HN.out j h1 h2 (by omega)));clear hb;go_wp2;go_ret;exact ⟨by rw[HF.out]; rfl,Z00 HB1.out HB.out⟩}}
 {have e5: ((a.parts.length:Int)==(b.parts.length:Int))=false:=by simp; omega
  have n5: ((a.parts.length:Int) !=(b.parts.length:Int))=true:=by unfold bne; rw[e5]; rfl
  have HF:Hid (bw (f+1) a b=false):=Y1 (ZbR H2.out.ra H2.out.rb HK.out.2.2.2 hpl);go_wp2;go_ret;exact ⟨by rw[HF.out]; rfl,HB1.out⟩}
theorem Z9c: ∀f,UnderOk f:=by
 intro f;induction f with
 | zero=>intro a b pa pb w h2 _ _; exact absurd h2.da (by rw[Z0q]; omega)
 | succ f ih=>
  intro a b pa pb w h2 ha hb;by_cases hd:a.kind=b.kind/\a.of_=b.of_/\a.name=b.name
  {obtain ⟨hk,ho,hn⟩:=hd;by_cases h6:a.kind=6
   {exact Zat ih a b pa pb w h2 ha hb hk ho hn h6}
   {by_cases h7:a.kind=7
    {exact Zau ih a b pa pb w h2 ha hb hk ho hn h7}
    {exact Zb7 ih a b pa pb w h2 ha hb hk ho hn (fun h=>h.elim h6 h7)}}}
  {exact Z9b a b pa pb w h2 ha hb hd}
end SubM
end Go.Proofs.YtlomianlcnmfgaaDoor
