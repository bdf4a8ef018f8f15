/- What the proofs of ExpandMore want, part 10. -/
import Derived.Test.YtchklpedlbkgaaaDoorK0n9
set_option linter.unusedVariables false
set_option linter.unusedSimpArgs false
set_option linter.unusedSectionVars false
set_option maxRecDepth 100000
set_option maxHeartbeats 16000000
namespace Go.Proofs.YtchklpedlbkgaaaDoor
section
open Go.RowKit Shp
open Expd (Bd put find Z0W)
def kI:Sh:=⟨1,[],[],[],[]⟩
def kL:Sh:=⟨5,[],[],[],[kI]⟩
def kA:Sh:=⟨9,[],[65],[],[]⟩
def kX:Sh:=⟨6,[],[],[[120],[97]],[kA,kI]⟩
def kU:Sh:=⟨6,[],[],[[120],[97]],[kL,kI]⟩
def kY:Sh:=⟨6,[],[],[[97],[120]],[kI,kL]⟩
def kE:List Bd:= [⟨[],[65],kL⟩]
theorem Z6H:check kX=0:=by decide+kernel
theorem Zbg:check kU=0:=by decide+kernel
theorem ZbV:put (find kE) kX=some kU:=by rfl
theorem ZbE:put (find []) kX=none:=by rfl
theorem Zaw:sorted kU=kY:=by kernel_rfl
theorem ZbF:Expd.resolve kE kX=(kY,0):=by rw[Expd.resolve_ok Z6H ZbV Zbg,Zaw]
theorem ZbG:Expd.resolve [] kX=(Z0W,110):=Expd.resolve_name Z6H ZbE
def kW (w:World):World:=(((((((w.alloc (.cells #[.int .i64 1,.string ⟨#[]⟩,.string ⟨#[]⟩,.slice none 0 0,.slice none 0 0] 25)).alloc (.cells #[.int .i64 1,.string ⟨#[]⟩,.string ⟨#[]⟩,.slice none 0 0,.slice none 0 0] 25)).alloc
 (.cells #[.int .i64 5,.string ⟨#[]⟩,.string ⟨#[]⟩,.slice none 0 0,.slice (some ⟨w.heap.size+1,0,none⟩) 1 1] 25)).alloc (.cells #[.int .i64 9,.string ⟨#[]⟩,.string ⟨#[65]⟩,.slice none 0 0,.slice none 0 0] 25)).alloc
 (.cells #[.string ⟨#[120]⟩,.string ⟨#[97]⟩] 9)).alloc (.cells #[.int .i64 9,.string ⟨#[]⟩,.string ⟨#[65]⟩,.slice none 0 0,.slice none 0 0,.int .i64 1,.string ⟨#[]⟩,.string ⟨#[]⟩,.slice none 0 0,.slice none 0 0] 25)).alloc
 (.cells #[.int .i64 6,.string ⟨#[]⟩,.string ⟨#[]⟩,.slice (some ⟨w.heap.size+1+1+1+1,0,none⟩) 2 2,.slice (some ⟨w.heap.size+1+1+1+1+1,0,none⟩) 2 2] 25)).alloc
 (.cells #[.string ⟨#[]⟩,.string ⟨#[65]⟩,.int .i64 5,.string ⟨#[]⟩,.string ⟨#[]⟩,.slice none 0 0,.slice (some ⟨w.heap.size+1,0,none⟩) 1 1] 54)
theorem Z1J (w:World): (kW w).heap.size=w.heap.size+8:=by simp[kW]
theorem Z4A (w:World):Below w.heap.size w (kW w):=Z0i (Z0i (Z0i (Z0i (Z0i (Z0i (Z0i (Z00 _ _) _) _) _) _) _) _) _
def kq0:Ptr:=⟨none,0,none,0⟩
def kqL (H:Nat):Ptr:=⟨none,0,some ⟨H+1,0,none⟩,1⟩
def kqX (H:Nat):Ptr:=⟨some ⟨H+1+1+1+1,0,none⟩,2,some ⟨H+1+1+1+1+1,0,none⟩,2⟩
theorem Z2y (W:World) (B:Nat) (t:Sh) (h1:t.names= []) (h2:t.parts= []) (h3:t.of_.length<=9223372036854775807) (h4:t.name.length<=9223372036854775807):ShAt W B kq0 t:=
 .mk _ _ 0 0 (fun _=>kq0) ⟨h3,h4,by rw[h1]; nofun,by rw[h1]; simp,by rw[h2]; simp,by rw[h1]; exact Nat.le_refl _,by rw[h2]; exact Nat.le_refl _,fun _=>rfl,fun _=>rfl⟩ (Or.inl (by rw[h1]; rfl)) (Or.inl (by rw[h2]; rfl)) (fun i h=>absurd h (by rw[h2]; simp)) (fun i h=>absurd h (by rw[h2]; simp))
section
variable (w : World)
include w
theorem kW_L:ShAt (kW w) (kW w).heap.size (kqL w.heap.size) kL:=by
 refine .mk _ _ (w.heap.size+1) 0 (fun _=>kq0) ⟨by decide,by decide,nofun,by decide,by decide,Nat.le_refl _,Nat.le_refl _,fun _=>rfl,nofun⟩ (Or.inl rfl) (Or.inr ⟨rfl,by rw[Z1J]; omega⟩) (fun i h=> ?_) (fun i h=> ?_)
 {have h1:i < 1:=h
  match i,h1 with
  | 0,_=>refine ⟨?_, ?_, ?_, ?_, ?_⟩ <;> simp[kW,go_sem,kL,kI,kq0]}
 {have h1:i < 1:=h
  match i,h1 with
  | 0,_=>exact Z2y _ _ kI rfl rfl (by decide) (by decide)}
theorem kW_X:ShAt (kW w) (kW w).heap.size (kqX w.heap.size) kX:=by
 refine .mk _ _ (w.heap.size+1+1+1+1+1) 0 (fun _=>kq0) ⟨by decide,by decide,by decide,by decide,by decide,Nat.le_refl _,Nat.le_refl _,nofun,nofun⟩ (Or.inr ⟨w.heap.size+1+1+1+1,0,rfl,by rw[Z1J]; omega,fun i hi=> ?_⟩) (Or.inr ⟨rfl,by rw[Z1J]; omega⟩) (fun i h=> ?_) (fun i h=> ?_)
 {have h2:i < 2:=hi
  match i,h2 with
  | 0,_=>simp[kW,go_sem,kX,strs]
  | 1,_=>simp[kW,go_sem,kX,strs]}
 {have h2:i < 2:=h
  match i,h2 with
  | 0,_=>refine ⟨?_, ?_, ?_, ?_, ?_⟩ <;> simp[kW,go_sem,kX,kA,kq0]
  | 1,_=>refine ⟨?_, ?_, ?_, ?_, ?_⟩ <;> simp[kW,go_sem,kX,kI,kq0]}
 {have h2:i < 2:=h
  match i,h2 with
  | 0,_=>exact Z2y _ _ kA rfl rfl (by decide) (by decide)
  | 1,_=>exact Z2y _ _ kI rfl rfl (by decide) (by decide)}
theorem kW_E:BdsAt (kW w) (kW w).heap.size (some ⟨w.heap.size+1+1+1+1+1+1+1,0,none⟩) kE:=by
 refine Or.inr ⟨w.heap.size+1+1+1+1+1+1+1,0,fun _=>kqL w.heap.size,rfl,by rw[Z1J]; omega,fun i h=> ?_⟩;have h1:i < 1:=h
 match i,h1 with
 | 0,_=>exact ⟨by simp[kW,go_sem,kE],by simp[kW,go_sem,kE],⟨by simp[kW,go_sem,kE,kL,kqL],by simp[kW,go_sem,kE,kL,kqL],by simp[kW,go_sem,kE,kL,kqL],by simp[kW,go_sem,kE,kL,kqL],by simp[kW,go_sem,kE,kL,kqL]⟩,kW_L w,by simp[kE],by simp[kE]⟩
theorem kW_i:Box5 (kW w) w.heap.size kI kq0:=by
 refine ⟨by rw[Z1J]; omega,⟨?_, ?_, ?_, ?_, ?_⟩, ?_, ?_, ?_, ?_, ?_⟩ <;> simp[kW,go_sem,kI,kq0]
theorem kW_l:Box5 (kW w) (w.heap.size+1+1) kL (kqL w.heap.size):=by
 refine ⟨by rw[Z1J]; omega,⟨?_, ?_, ?_, ?_, ?_⟩, ?_, ?_, ?_, ?_, ?_⟩ <;> simp[kW,go_sem,kL,kqL]
theorem kW_x:Box5 (kW w) (w.heap.size+1+1+1+1+1+1) kX (kqX w.heap.size):=by
 refine ⟨by rw[Z1J]; omega,⟨?_, ?_, ?_, ?_, ?_⟩, ?_, ?_, ?_, ?_, ?_⟩ <;> simp[kW,go_sem,kX,kqX]
theorem Z0V (hg:WGlobs w):Y9 8 #[] w (.bool true):=by
 have HBW:=Y1 (Z4A w);have HG:=Y1 (hg.next (Z4A w));have HI:=Y1 (kW_i w);have HL:=Y1 (kW_l w);have HX:=Y1 (kW_x w);have HXA:=Y1 (kW_X w);have HLA:=Y1 (kW_L w);have HSZ:=Y1 (Z1J w);have HR:=Y1 (Z13 kX (kqX w.heap.size) kE (some ⟨w.heap.size+1+1+1+1+1+1+1,0,none⟩) 1 (kW w) (kW_X w) (kW_E w) (by decide) (hg.next (Z4A w)));clear hg;go_enter Tryd.func8,Tryd.ntmps8
 go_wp2_with fail
 change Calls _ _ _ (kW w) _;obtain ⟨H,hH⟩: ∃H,H=w.heap.size:=⟨_,rfl⟩;rw[<-hH] at HI HL HX HXA HLA HR HSZ ⊢;generalize kW w=W0 at HBW HG HI HL HX HXA HLA HR HSZ ⊢;refine HR.out.mono ?_;rintro e w1 ⟨q1,he,hat,hb1⟩;rw[ZbF] at he hat;obtain ⟨z,hz⟩: ∃z,z=kY:=⟨_,rfl⟩;rw[<-hz] at he hat;subst he;have HZ:=Y1 hz;have hb2:=Z00 w1 (.cells (Y8 z q1) 25);have hbb:=Z02 hb1 hb2;have HB2:=Y1 hbb;have HBZ:=Y1 (Z07 w1 z q1);have HAT:=Y1 (hat.next hb2);have HG2:=Y1 (HG.out.next hbb);have HXA2:=Y1 (HXA.out.next hbb);obtain ⟨z1,⟨x0,x1,x2,x3,x4⟩,z2⟩:=HX.out.next hbb;simp only[Nat.zero_add] at x0 x1 x2 x3 x4;change (w1.alloc _).cell? _=some (.int .i64 6) at x0;change (w1.alloc _).cell? _=some (.string ⟨#[]⟩) at x1;change (w1.alloc _).cell? _=some (.string ⟨#[]⟩) at x2;change (w1.alloc _).cell? _=some (.slice (some ⟨H+1+1+1+1,0,none⟩) 2 2) at x3;change (w1.alloc _).cell? _=some (.slice (some ⟨H+1+1+1+1+1,0,none⟩) 2 2) at x4;have HR2:=Y1 (Z13 kX (kqX H) [] none 0 _ HXA2.out (Or.inl rfl) (by decide) HG2.out);clear hz hb1 hb2 hbb hat z1 z2 hH HR;unfold shV;obtain ⟨W2,hW2⟩: ∃W2,w1.alloc (.cells (Y8 z q1) 25)=W2:=⟨_,rfl⟩;rw[hW2] at x0 x1 x2 x3 x4 HR2 HB2 HBZ HAT HG2 HXA2
 go_wp2_with fail
 clear hW2;refine HR2.out.mono ?_;rintro e w3 ⟨q2,he, -,hb3⟩;rw[ZbG] at he;subst he;have hb4:=Z02 hb3 (Z00 w3 (.cells #[.int .i64 0,.string ⟨#[]⟩,.string ⟨#[]⟩,.slice q2.A 0 q2.c,.slice q2.P 0 q2.d] 25));have HB4:=Y1 (Z02 HB2.out hb4);have HBZ4:=Y1 (HBZ.out.next hb4);have HAT4:=Y1 (HAT.out.next hb4);clear x0 x1 x2 x3 x4 hb3 hb4 HR2
 try simp only
 unfold shV Z0W
 try simp only
 obtain ⟨W4,hW4⟩: ∃W4,w3.alloc (.cells #[.int .i64 0,.string ⟨#[]⟩,.string ⟨#[]⟩,.slice q2.A 0 q2.c,.slice q2.P 0 q2.d] 25)=W4:=⟨_,rfl⟩;rw[hW4] at HB4 HBZ4 HAT4;have hz8:H+8<=W4.heap.size:=by have:=HSZ.out; have:=HB4.out.size; omega
 have hn1:H≠W4.heap.size:=by omega
 have hn2:H+1+1≠W4.heap.size:=by omega
 obtain ⟨z1,⟨x0,x1,x2,x3,x4⟩,z2⟩:=HBZ4.out;obtain ⟨z3,⟨i0,i1,i2,i3,i4⟩,z4⟩:=(HI.out.next HB4.out).next (Z00 W4 (.cells #[.string ⟨#[97]⟩,.string ⟨#[120]⟩] 9));obtain ⟨z5,⟨l0,l1,l2,l3,l4⟩,z6⟩:=(HL.out.next HB4.out).next (Z00 W4 (.cells #[.string ⟨#[97]⟩,.string ⟨#[120]⟩] 9));simp only[Nat.zero_add] at x0 x1 x2 x3 x4 i0 i1 i2 i3 i4 l0 l1 l2 l3 l4;change (W4.alloc _).cell? _=some (.int .i64 1) at i0;change (W4.alloc _).cell? _=some (.string ⟨#[]⟩) at i1;change (W4.alloc _).cell? _=some (.string ⟨#[]⟩) at i2;change (W4.alloc _).cell? _=some (.slice none 0 0) at i3;change (W4.alloc _).cell? _=some (.slice none 0 0) at i4;change (W4.alloc _).cell? _=some (.int .i64 5) at l0;change (W4.alloc _).cell? _=some (.string ⟨#[]⟩) at l1;change (W4.alloc _).cell? _=some (.string ⟨#[]⟩) at l2;change (W4.alloc _).cell? _=some (.slice none 0 0) at l3;change (W4.alloc _).cell? _=some (.slice (some ⟨H+1,0,none⟩) 1 1) at l4;have hb6:Below W4.heap.size W4 ((W4.alloc (.cells #[.string ⟨#[97]⟩,.string ⟨#[120]⟩] 9)).alloc (.cells #[.int .i64 1,.string ⟨#[]⟩,.string ⟨#[]⟩,.slice none 0 0,.slice none 0 0,.int .i64 5,.string ⟨#[]⟩,.string ⟨#[]⟩,.slice none 0 0,.slice (some ⟨H+1,0,none⟩) 1 1] 25)):=Z0i (Z00 _ _) _;have hs6: ((W4.alloc (.cells #[.string ⟨#[97]⟩,.string ⟨#[120]⟩] 9)).alloc (.cells #[.int .i64 1,.string ⟨#[]⟩,.string ⟨#[]⟩,.slice none 0 0,.slice none 0 0,.int .i64 5,.string ⟨#[]⟩,.string ⟨#[]⟩,.slice none 0 0,.slice (some ⟨H+1,0,none⟩) 1 1] 25)).heap.size=W4.heap.size+2:=by simp
 have hy:ShAt ((W4.alloc (.cells #[.string ⟨#[97]⟩,.string ⟨#[120]⟩] 9)).alloc (.cells #[.int .i64 1,.string ⟨#[]⟩,.string ⟨#[]⟩,.slice none 0 0,.slice none 0 0,.int .i64 5,.string ⟨#[]⟩,.string ⟨#[]⟩,.slice none 0 0,.slice (some ⟨H+1,0,none⟩) 1 1] 25)) (W4.heap.size+2) ⟨some ⟨W4.heap.size,0,none⟩,2,some ⟨W4.heap.size+1,0,none⟩,2⟩ kY:=by
  refine .mk _ _ (W4.heap.size+1) 0 (fun i=>if i=0 then kq0 else kqL H) ⟨by decide,by decide,by decide,by decide,by decide,Nat.le_refl _,Nat.le_refl _,nofun,nofun⟩ (Or.inr ⟨W4.heap.size,0,rfl,by omega,fun i hi=> ?_⟩) (Or.inr ⟨rfl,by omega⟩) (fun i h=> ?_) (fun i h=> ?_)
  {have h2:i < 2:=hi
   match i,h2 with
   | 0,_=>simp[go_sem,kY,strs]
   | 1,_=>simp[go_sem,kY,strs]}
  {have h2:i < 2:=h
   match i,h2 with
   | 0,_=>refine ⟨?_, ?_, ?_, ?_, ?_⟩ <;> simp[go_sem,kY,kI,kq0]
   | 1,_=>refine ⟨?_, ?_, ?_, ?_, ?_⟩ <;> simp[go_sem,kY,kL,kqL]}
  {have h2:i < 2:=h
   match i,h2 with
   | 0,_=>exact Z2y _ _ kI rfl rfl (by decide) (by decide)
   | 1,_=>rw[<-hs6]; exact (HLA.out.next HB4.out).next hb6}
 rw[<-hs6] at hy;have HE:=Y1 (Z1h z kY q1 _ _ (HAT4.out.next hb6) hy);have HB6:=Y1 (Z02 HB4.out hb6);clear hb6 hs6 hy z1 z2 z3 z4 z5 z6 hz8;obtain ⟨W5,hW5⟩: ∃W5,W4.alloc (.cells #[.string ⟨#[97]⟩,.string ⟨#[120]⟩] 9)=W5:=⟨_,rfl⟩;have hs5:Hid (W5.heap.size=W4.heap.size+1):=Y1 (by rw[<-hW5]; simp);rw[hW5] at i0 i1 i2 i3 i4 l0 l1 l2 l3 l4 HE HB6
 go_wp2_with fail
 rw[<-hs5.out] at HE;have heq:eqB z kY=true:=by rw[HZ.out]; exact Z1n _
 rw[heq] at HE;refine HE.out.mono ?_;rintro e w7 ⟨rfl,hb7⟩;have HB7:=Y1 (HBW.out.trans ((HB6.out.mono HBW.out.size).trans (hb7.mono (by have:=HBW.out.size; have:=HB6.out.size; omega))));clear hb7 HE heq;go_wp2;go_ret;exact ⟨rfl,HB7.out⟩
end
end
section
open Go.RowKit
theorem Z0y (d:Nat->Bool) (i:Nat):also d i i=true:=by
 have:Nat.beq i i=true:=Nat.beq_refl i;unfold also; rw[this]; rfl
theorem Z04 (d:Nat->Bool) {i j:Nat} (h:j≠i):also d i j=d j:=by
 have:Nat.beq j i=false:=by cases hb:Nat.beq j i <;> first | rfl | exact absurd (Nat.eq_of_beq_eq_true hb) h
 unfold also; rw[this]; rfl
theorem Z0e {P:Program} {ops:Array Oper} {o:Oper} {a:Act} {W:World} {K':Act->World->Prop} {Q:Exit->Act->World->Prop} {E:Prop} (hgd:Region.wanted o (yielded ops a.tmps)=true) (s x:Operand) (t:TypeId)
 (ho:o.op= .call { callee:= .builtin .append,args:=#[s,x],argTypes:=#[t,t] })
 (base:Nat) (e:TypeId) (i:TypeInfo) (z:Value) (size bytes:Nat) (ht:P.underlying t=some (.slice e)) (hi:P.info? e=some i) (hz:i.zero=some z)
 (hsize:i.size=size) (hby:i.bytes=bytes) (hzs:z.cells.size=size) (hsz:0 < size)
 (v:Value) (n:Nat) (xs:List Value) (hs:a.eval s=v) (hown:W.ownsRow base e size v n xs)
 (A:Option Addr) (m c:Nat) (news:List Value) (hx:a.eval x= .slice A m c) (hA:A=none->m=0/\c=0) (hl:news.length=m * size)
 (hnews: ∀ad,A=some ad-> ∀j u,news[j]? =some u->W.cell? (ad.add j)=some u) (h1: ∀u∈news,u.oneCell'=true)
 (h63:n+m<=maxLen) (hbytes: (n+m) * bytes<=140737488355328) (hbase:base<=W.heap.size)
 (h: ∀v' w',w'.ownsRow base e size v' (n+m) (xs++news)->W.grownBy w' v.ownBlock->(v'.ownBlock=v.ownBlock\/v'.ownBlock=some W.heap.size)->K' (a.put o.dst v') w'):
 if Region.wanted o (yielded ops a.tmps)=true then Oper.wp P o a W K' Q else E:=by
 rw[if_pos hgd]
 match A,hA,hnews,hx with
 | some ad,_,hnews,hx=>
  obtain ⟨v',w',hr,h2,h3,_,h5⟩:=run_append_own_at (P:=P) W base t o.type e i z size bytes ht hi hz hsize hby hzs hsz v n xs hown ad m c news hl (hnews ad rfl) h1 h63 hbytes hbase;unfold Oper.wp execOp;simp only[ho,resolve,invoke,builtin,Sem.run_bind,Sem.run_pure,Result.andThen_ok,List.map_toArray,List.map_cons,List.map_nil,hs,hx,hr];exact h v' w' h2 h3 h5
 | none,hA,_,hx=>
  obtain ⟨rfl,rfl⟩:=hA rfl;obtain rfl:news= []:=List.eq_nil_of_length_eq_zero (by rw[hl,Nat.zero_mul]);have hr:=run_append_owned_none (P:=P) (w:=W) base t o.type e i size ht hi v n xs hown;unfold Oper.wp execOp;simp only[ho,resolve,invoke,builtin,Sem.run_bind,Sem.run_pure,Result.andThen_ok,List.map_toArray,List.map_cons,List.map_nil,hs,hx,hr];exact h v W (by rw[List.append_nil]; exact hown) ⟨rfl,rfl,rfl,Nat.le_refl _,fun _ _ _=>rfl⟩ (Or.inl rfl)
def InvC (S:Nat) (Ch: (Nat->Bool)->(Nat->Value)->World->Prop) (Fin:World->Prop) (d:Nat->Bool) (u:Nat->Value) (W:World):Prop:=(d S=false/\Ch d u W)\/(d S=true/\(∀j,j < S->d j=true)/\Fin W)
section
variable {S : Nat} {Ch : (Nat -> Bool) -> (Nat -> Value) -> World -> Prop} {Fin : World -> Prop} {d : Nat -> Bool} {u : Nat -> Value}
include S Ch Fin d u
theorem InvC.open {W:World} (h:InvC S Ch Fin d u W) {j:Nat} (hd:d j=false) (hj:j<=S):d S=false/\Ch d u W:=by
 rcases h with h | ⟨h1,h2,_⟩
 {exact h}
 {rcases Nat.lt_or_eq_of_le hj with h | rfl
  {rw[h2 j h] at hd; cases hd}
  {rw[h1] at hd; cases hd}}
theorem InvC.next {W':World} {j:Nat} {v:Value} (h:d S=false) (hj:j < S) (hc:Ch (also d j) (upd u j v) W'):InvC S Ch Fin (also d j) (upd u j v) W':=
 Or.inl ⟨by rw[Z04 d (show S≠j by omega)]; exact h,hc⟩
theorem InvC.last {W':World} (h: ∀j,j < S->d j=true) (hf:Fin W'):InvC S Ch Fin (also d S) u W':=
 Or.inr ⟨Z0y d S,fun j hj=>by rw[Z04 d (show j≠S by omega)]; exact h j hj,hf⟩
end
structure ChN (W0:World) (ty:TypeId) (size:Nat) (val:Nat->Option Value) (x y z:List Value) (lx lz:Nat) (d:Nat->Bool) (u:Nat->Value) (W:World):Prop where
 bel:Below W0.heap.size W0 W
 vals: ∀j,d j=true-> ∀v,val j=some v->u j=v
 rA:d 0=true->d 5=false->W.ownsRow W0.heap.size ty size (u 0) 0 []
 rB:d 5=true->d 12=false->W.ownsRow W0.heap.size ty size (u 5) lx x
 rC:d 12=true->d 17=false->W.ownsRow W0.heap.size ty size (u 12) (lx+1) (x++y)
 rE:d 17=true->W.ownsRow W0.heap.size ty size (u 17) (lx+1+lz) (x++y++z)
 rN:d 11=true->d 12=false-> ∃g,u 11= .slice (some ⟨g,0,none⟩) 1 1/\g < W.heap.size/\(∀j v,y[j]? =some v->W.cell? ⟨g,j,none⟩=some v)/\(d 0=true->d 5=false->(u 0).ownBlock≠some g)/\(d 5=true->(u 5).ownBlock≠some g)
 oB:d 5=true->d 0=true
 oC:d 12=true->d 5=true
 oN:d 12=true->d 11=true
 oE:d 17=true->d 12=true
theorem ChN.start (W0:World) (ty:TypeId) (size:Nat) (val:Nat->Option Value) (x y z:List Value) (lx lz:Nat) (u:Nat->Value):ChN W0 ty size val x y z lx lz (fun _=>false) u W0:=
 ⟨Below.refl _ _,nofun,nofun,nofun,nofun,nofun,nofun,nofun,nofun,nofun,nofun⟩
theorem ChN.pure {W0 W:World} {ty:TypeId} {size:Nat} {val:Nat->Option Value} {x y z:List Value} {lx lz:Nat} {d:Nat->Bool} {u:Nat->Value} (h:ChN W0 ty size val x y z lx lz d u W) {j:Nat} (hj:j≠0/\j≠5/\j≠12/\j≠17/\j≠11) (v:Value) (hv: ∀v',val j=some v'->v=v'):
 ChN W0 ty size val x y z lx lz (also d j) (upd u j v) W:=by
 obtain ⟨j0,j1,j2,j3,j4⟩:=hj;have k0:=Z04 d (show 0≠j by omega);have l0:=Z01 u v (show 0≠j by omega);have k5:=Z04 d (show 5≠j by omega);have l5:=Z01 u v (show 5≠j by omega);have k11:=Z04 d (show 11≠j by omega);have l11:=Z01 u v (show 11≠j by omega);have k12:=Z04 d (show 12≠j by omega);have l12:=Z01 u v (show 12≠j by omega);have k17:=Z04 d (show 17≠j by omega);have l17:=Z01 u v (show 17≠j by omega);refine ⟨h.bel,fun i hi v' hv'=> ?_, ?_, ?_, ?_, ?_, ?_, ?_, ?_, ?_, ?_⟩
 {by_cases hij:i=j
  {subst hij; rw[Z06]; exact hv v' hv'}
  {rw[Z04 d hij] at hi; rw[Z01 u v hij]; exact h.vals i hi v' hv'}}
 {simp only[k0,l0,k5,l5,k11,l11,k12,l12,k17,l17]; exact h.rA}
 {simp only[k0,l0,k5,l5,k11,l11,k12,l12,k17,l17]; exact h.rB}
 {simp only[k0,l0,k5,l5,k11,l11,k12,l12,k17,l17]; exact h.rC}
 {simp only[k0,l0,k5,l5,k11,l11,k12,l12,k17,l17]; exact h.rE}
 {simp only[k0,l0,k5,l5,k11,l11,k12,l12,k17,l17]; exact h.rN}
 {simp only[k0,l0,k5,l5,k11,l11,k12,l12,k17,l17]; exact h.oB}
 {simp only[k0,l0,k5,l5,k11,l11,k12,l12,k17,l17]; exact h.oC}
 {simp only[k0,l0,k5,l5,k11,l11,k12,l12,k17,l17]; exact h.oN}
 {simp only[k0,l0,k5,l5,k11,l11,k12,l12,k17,l17]; exact h.oE}
structure ChP (W0:World) (ty:TypeId) (size:Nat) (val:Nat->Option Value) (x y z:List Value) (lx lz:Nat) (d:Nat->Bool) (u:Nat->Value) (W:World):Prop where
 bel:Below W0.heap.size W0 W
 vals: ∀j,d j=true-> ∀v,val j=some v->u j=v
 rA:d 0=true->d 5=false->W.ownsRow W0.heap.size ty size (u 0) 0 []
 rB:d 5=true->d 8=false->W.ownsRow W0.heap.size ty size (u 5) lx x
 rC:d 8=true->d 13=false->W.ownsRow W0.heap.size ty size (u 8) (lx+1) (x++y)
 rE:d 13=true->W.ownsRow W0.heap.size ty size (u 13) (lx+1+lz) (x++y++z)
 rN:d 7=true->d 8=false-> ∃g,u 7= .slice (some ⟨g,0,none⟩) 1 1/\g < W.heap.size/\(∀j v,y[j]? =some v->W.cell? ⟨g,j,none⟩=some v)/\(d 0=true->d 5=false->(u 0).ownBlock≠some g)/\(d 5=true->(u 5).ownBlock≠some g)
 oB:d 5=true->d 0=true
 oC:d 8=true->d 5=true
 oN:d 8=true->d 7=true
 oE:d 13=true->d 8=true
theorem ChP.start (W0:World) (ty:TypeId) (size:Nat) (val:Nat->Option Value) (x y z:List Value) (lx lz:Nat) (u:Nat->Value):ChP W0 ty size val x y z lx lz (fun _=>false) u W0:=
 ⟨Below.refl _ _,nofun,nofun,nofun,nofun,nofun,nofun,nofun,nofun,nofun,nofun⟩
theorem ChP.pure {W0 W:World} {ty:TypeId} {size:Nat} {val:Nat->Option Value} {x y z:List Value} {lx lz:Nat} {d:Nat->Bool} {u:Nat->Value} (h:ChP W0 ty size val x y z lx lz d u W) {j:Nat} (hj:j≠0/\j≠5/\j≠8/\j≠13/\j≠7) (v:Value) (hv: ∀v',val j=some v'->v=v'):
 ChP W0 ty size val x y z lx lz (also d j) (upd u j v) W:=by
 obtain ⟨j0,j1,j2,j3,j4⟩:=hj;have k0:=Z04 d (show 0≠j by omega);have l0:=Z01 u v (show 0≠j by omega);have k5:=Z04 d (show 5≠j by omega);have l5:=Z01 u v (show 5≠j by omega);have k7:=Z04 d (show 7≠j by omega);have l7:=Z01 u v (show 7≠j by omega);have k8:=Z04 d (show 8≠j by omega);have l8:=Z01 u v (show 8≠j by omega);have k13:=Z04 d (show 13≠j by omega);have l13:=Z01 u v (show 13≠j by omega);refine ⟨h.bel,fun i hi v' hv'=> ?_, ?_, ?_, ?_, ?_, ?_, ?_, ?_, ?_, ?_⟩
 {by_cases hij:i=j
  {subst hij; rw[Z06]; exact hv v' hv'}
  {rw[Z04 d hij] at hi; rw[Z01 u v hij]; exact h.vals i hi v' hv'}}
 {simp only[k0,l0,k5,l5,k7,l7,k8,l8,k13,l13]; exact h.rA}
 {simp only[k0,l0,k5,l5,k7,l7,k8,l8,k13,l13]; exact h.rB}
 {simp only[k0,l0,k5,l5,k7,l7,k8,l8,k13,l13]; exact h.rC}
 {simp only[k0,l0,k5,l5,k7,l7,k8,l8,k13,l13]; exact h.rE}
 {simp only[k0,l0,k5,l5,k7,l7,k8,l8,k13,l13]; exact h.rN}
 {simp only[k0,l0,k5,l5,k7,l7,k8,l8,k13,l13]; exact h.oB}
 {simp only[k0,l0,k5,l5,k7,l7,k8,l8,k13,l13]; exact h.oC}
 {simp only[k0,l0,k5,l5,k7,l7,k8,l8,k13,l13]; exact h.oN}
 {simp only[k0,l0,k5,l5,k7,l7,k8,l8,k13,l13]; exact h.oE}
end
end Go.Proofs.YtchklpedlbkgaaaDoor
namespace Go.Proofs.YtchklpedlbkgaaaDoor
open Go.RowKit Shp
def pr (x:El):Fld:=(x.n,x.t)
def cells5 (x:El):List Value:= [.int .i64 x.t.kind,.string ⟨x.t.of_.toArray⟩,.string ⟨x.t.name.toArray⟩,.slice x.q.A x.t.names.length x.q.c,.slice x.q.P x.t.parts.length x.q.d]
def cellsE (l:List El):List Value:=l.flatMap cells5
def namesE (l:List (List UInt8)):List Value:=l.map fun n=> .string ⟨n.toArray⟩
theorem cellsE_append (l m:List El):cellsE (l++m)=cellsE l++cellsE m:=by simp[cellsE]
theorem cellsE_one (x:El):cellsE [x]=cells5 x:=by simp[cellsE]
theorem cellsE_len (l:List El): (cellsE l).length=l.length * 5:=by
 induction l with
 | nil=>rfl
 | cons a l ih=>rw[show a::l= [a]++l from rfl,cellsE_append,List.length_append,ih,cellsE_one]; simp[cells5]; omega
theorem namesE_len (l:List (List UInt8)): (namesE l).length=l.length:=by simp[namesE]
theorem cells5_one (x:El): ∀u∈cells5 x,u.oneCell'=true:=by
 intro u hu;simp only[cells5,List.mem_cons,List.not_mem_nil,or_false] at hu;rcases hu with rfl | rfl | rfl | rfl | rfl <;> rfl
theorem Z2O (l:List El): ∀u∈cellsE l,u.oneCell'=true:=by
 intro u hu;obtain ⟨x,_,hx⟩:=List.mem_flatMap.1 hu;exact cells5_one x u hx
theorem Z23 (l:List (List UInt8)): ∀u∈namesE l,u.oneCell'=true:=by
 intro u hu;obtain ⟨x,_,rfl⟩:=List.mem_map.1 hu;rfl
theorem cellsE_at {l:List El} {i c:Nat} (hi:i < l.length) (hc:c < 5): (cellsE l)[i * 5+c]? =(cells5 (l[i]'hi))[c]? :=by
 have h1:l=l.take i++([l[i]'hi]++l.drop (i+1)):=by rw[List.singleton_append,List.getElem_cons_drop,List.take_append_drop]
 have h2: (cellsE (l.take i)).length=i * 5:=by rw[cellsE_len,List.length_take]; omega
 have h3: (cells5 (l[i]'hi)).length=5:=rfl
 conv=>lhs; rw[h1]
 rw[cellsE_append,cellsE_append,cellsE_one,List.getElem?_append_right (by omega),h2,Nat.add_sub_cancel_left,List.getElem?_append_left (by omega)]
def rowB (A:Option Addr):Option Nat:=A.map (·.block)
theorem rowB_own (A:Option Addr) (n c:Nat):Value.ownBlock (.slice A n c)=rowB A:=by cases A <;> rfl
structure OutS (W1 W:World) (ob:Nat) (k:Int) (o n:List UInt8) (nl:List (List UInt8)) (l:List El) (AN:Option Addr) (cN:Nat) (AP:Option Addr) (cP:Nat):Prop where
 up:UpF [ob] W1 W
 lt:ob < W1.heap.size
 c0:W.cell? ⟨ob,0,none⟩=some (.int .i64 k)
 c1:W.cell? ⟨ob,1,none⟩=some (.string ⟨o.toArray⟩)
 c2:W.cell? ⟨ob,2,none⟩=some (.string ⟨n.toArray⟩)
 c3:W.cell? ⟨ob,3,none⟩=some (.slice AN nl.length cN)
 c4:W.cell? ⟨ob,4,none⟩=some (.slice AP l.length cP)
 fz: ∀j,W.frozen? ⟨ob,j,none⟩=false
 rN:W.ownsRow W1.heap.size 9 1 (.slice AN nl.length cN) nl.length (namesE nl)
 rP:W.ownsRow W1.heap.size 25 5 (.slice AP l.length cP) l.length (cellsE l)
 ne:rowB AN=none\/rowB AN≠rowB AP
 own: ∀x∈l,Own W x.q x.t x.F
 fs: ∀x∈l,∀b∈x.F,W1.heap.size<=b/\rowB AN≠some b/\rowB AP≠some b
section
variable {W1 W : World} {ob : Nat} {k : Int} {o n : List UInt8} {nl : List (List UInt8)} {l : List El} {AN AP : Option Addr} {cN cP : Nat}
theorem OutS.start {W1:World} {ob:Nat} (k:Int) (o n:List UInt8) (h:Box5 W1 ob ⟨k,o,n,[],[]⟩ noneQ) (hf: ∀j,W1.frozen? ⟨ob,j,none⟩=false):OutS W1 W1 ob k o n [] [] none 0 none 0:=by
 obtain ⟨h0,⟨c0,c1,c2,c3,c4⟩,_⟩:=h;simp only[Nat.zero_add] at c0 c1 c2 c3 c4;exact ⟨UpF.refl _ _,h0,c0,c1,c2,c3,c4,hf,World.ownsRow_nil _ _ _ _,World.ownsRow_nil _ _ _ _,Or.inl rfl,nofun,nofun⟩
theorem OutS.row {A:Option Addr} {m c B e s:Nat} {xs:List Value} (h:W.ownsRow B e s (.slice A m c) m xs): ∀b,rowB A=some b->B<=b/\b < W.heap.size:=fun b hb=>h.lt b (by rw[rowB_own]; exact hb)
theorem OutS.below {W':World} (h:OutS W1 W ob k o n nl l AN cN AP cP) (hb:Below W.heap.size W W'):OutS W1 W' ob k o n nl l AN cN AP cP:=by
 have hob:=Nat.lt_of_lt_of_le h.lt h.up.size;have e: ∀j,W'.cell? ⟨ob,j,none⟩=W.cell? ⟨ob,j,none⟩:=fun j=>hb.cell (p:=⟨ob,j,none⟩) hob;have g:W.grownBy W' none:=⟨hb.os,hb.tape,hb.output,hb.size,fun j hj _=>hb.block j hj⟩;refine ⟨h.up.below hb,h.lt,(e 0).trans h.c0,(e 1).trans h.c1,(e 2).trans h.c2,(e 3).trans h.c3,(e 4).trans h.c4,fun j=>(hb.frozen (p:=⟨ob,j,none⟩) hob).trans (h.fz j),h.rN.kept g ?_,h.rP.kept g ?_,h.ne,fun x hx=>Z0p (h.own x hx) hb,h.fs⟩
 {cases hq:Value.ownBlock (.slice AN nl.length cN) with
  | none=>exact Or.inl rfl
  | some b=>exact Or.inr nofun}
 {cases hq:Value.ownBlock (.slice AP l.length cP) with
  | none=>exact Or.inl rfl
  | some b=>exact Or.inr nofun}
theorem OutS.putP {Wm:World} {l':List El} {g cap:Nat} (h:OutS W1 W ob k o n nl l AN cN AP cP) (hg:W.grownBy Wm (rowB AP)) (hrow:Wm.ownsRow W1.heap.size 25 5 (.slice (some ⟨g,0,none⟩) l'.length cap) l'.length (cellsE l'))
 (hnew:rowB AP=some g\/W.heap.size<=g) (hl: ∀x∈l',Own W x.q x.t x.F/\ ∀b∈x.F,W1.heap.size<=b/\rowB AN≠some b/\rowB AP≠some b):
 OutS W1 (Wm.setCell ⟨ob,4,none⟩ (.slice (some ⟨g,0,none⟩) l'.length cap)) ob k o n nl l' AN cN (some ⟨g,0,none⟩) cap:=by
 have hob:=Nat.lt_of_lt_of_le h.lt h.up.size;have hgo:g≠ob:=by
  rcases hnew with h1 | h1
  {have:=(OutS.row h.rP g h1).1; have:=h.lt; omega}
  {omega}
 have hne:some ob≠rowB AP:=fun e=>by have:=(OutS.row h.rP ob e.symm).1; have:=h.lt; omega
 have hs: ∀b,b < W.heap.size->rowB AP≠some b->Z0v W Wm b:=fun b hb hn=>⟨fun j=>World.cell?_of_block (w:=W) (hg.block b hb (fun e=>hn e.symm)),fun j=>World.frozen?_of_block (w:=W) (hg.block b hb (fun e=>hn e.symm))⟩;have ho:=hs ob hob (fun e=>hne e.symm);have far: ∀j,j≠4->(Wm.setCell ⟨ob,4,none⟩ (.slice (some ⟨g,0,none⟩) l'.length cap)).cell? ⟨ob,j,none⟩=W.cell? ⟨ob,j,none⟩:=fun j hj=>(World.cell?_setCell_other _ _ _ _ (fun e=>by have:=congrArg Addr.off e; simp at this; omega)).trans (ho.1 j);have hsz: (Wm.setCell ⟨ob,4,none⟩ (.slice (some ⟨g,0,none⟩) l'.length cap)).heap.size=Wm.heap.size:=by simp[World.setCell]
 have hW1:=h.up.size;have hz:=hg.size;refine ⟨⟨hg.os.trans h.up.os,hg.tape.trans h.up.tape,hg.output.trans h.up.output,by omega,fun b hb hm=> ?_⟩,h.lt,(far 0 (by omega)).trans h.c0,(far 1 (by omega)).trans h.c1,(far 2 (by omega)).trans h.c2,(far 3 (by omega)).trans h.c3,World.cell?_setCell_same _ _ _ ((ho.1 4).trans h.c4),fun j=> ?_, ?_, ?_, ?_,fun x hx=> ?_,fun x hx b hb=> ?_⟩
 {have hbo:b≠ob:=by simpa using hm
  rw[Below.heap_setCell _ _ _ _ hbo,hg.block b (by omega) (fun e=>by have:=(OutS.row h.rP b e.symm).1; omega)];exact h.up.block b hb hm}
 {rw[World.frozen?_setCell]; exact (ho.2 j).trans (h.fz j)}
 {refine Z1V (h.rN.kept hg (by rw[rowB_own]; exact h.ne)) (a:=⟨ob,4,none⟩) (fun e=> ?_) _;rw[rowB_own] at e;have:=(OutS.row h.rN ob e).1; have:=h.lt; omega}
 {exact Z1V hrow (a:=⟨ob,4,none⟩) (fun e=>hgo (Option.some.inj e)) _}
 {rcases h.ne with h1 | h1
  {exact Or.inl h1}
  {refine Or.inr (fun e=> ?_);have e2:rowB AN=some g:=e;rcases hnew with h2 | h2
   {exact h1 (e2.trans h2.symm)}
   {have:=(OutS.row h.rN g e2).2; omega}}}
 {have hx1:=hl x hx;exact hx1.1.of (fun b hb=>(hs b (hx1.1.lt b hb) (hx1.2 b hb).2.2).trans (Z0m _ _ _ (fun e=>by
   have:=(hx1.2 b hb).1; have:=h.lt;simp at e; omega))) (by rw[hsz]; exact hz)}
 {have hx1:=hl x hx;have hx2:=hx1.2 b hb;refine ⟨hx2.1,hx2.2.1,fun e=> ?_⟩;have e2:g=b:=Option.some.inj e;rcases hnew with h1 | h1
  {exact hx2.2.2 (e2▸h1)}
  {have:=hx1.1.lt b hb; omega}}
theorem OutS.putN {Wm:World} {nl':List (List UInt8)} {g cap:Nat} (h:OutS W1 W ob k o n nl l AN cN AP cP) (hg:Below W.heap.size W Wm) (hrow:Wm.ownsRow W1.heap.size 9 1 (.slice (some ⟨g,0,none⟩) nl'.length cap) nl'.length (namesE nl'))
 (hnew:W.heap.size<=g):OutS W1 (Wm.setCell ⟨ob,3,none⟩ (.slice (some ⟨g,0,none⟩) nl'.length cap)) ob k o n nl' l (some ⟨g,0,none⟩) cap AP cP:=by
 have h2:=h.below hg;have hob:=Nat.lt_of_lt_of_le h.lt h.up.size;have hz:=hg.size;have far: ∀j,j≠3->(Wm.setCell ⟨ob,3,none⟩ (.slice (some ⟨g,0,none⟩) nl'.length cap)).cell? ⟨ob,j,none⟩=Wm.cell? ⟨ob,j,none⟩:=fun j hj=>World.cell?_setCell_other _ _ _ _ (fun e=>by have:=congrArg Addr.off e; simp at this; omega);have hsz: (Wm.setCell ⟨ob,3,none⟩ (.slice (some ⟨g,0,none⟩) nl'.length cap)).heap.size=Wm.heap.size:=by simp[World.setCell]
 have hlt:=h.lt;have hW1:=h.up.size;refine ⟨⟨h2.up.os,h2.up.tape,h2.up.output,by have:=h2.up.size; omega,fun b hb hm=> ?_⟩,h.lt,(far 0 (by omega)).trans h2.c0,(far 1 (by omega)).trans h2.c1,(far 2 (by omega)).trans h2.c2,World.cell?_setCell_same _ _ _ h2.c3,(far 4 (by omega)).trans h2.c4,fun j=> ?_, ?_, ?_, ?_,fun x hx=> ?_,fun x hx b hb=> ?_⟩
 {have hbo:b≠ob:=by simpa using hm
  rw[Below.heap_setCell _ _ _ _ hbo];exact h2.up.block b hb hm}
 {rw[World.frozen?_setCell]; exact h2.fz j}
 {exact Z1V hrow (a:=⟨ob,3,none⟩) (fun e=>by have:=Option.some.inj e; simp at this; omega) _}
 {refine Z1V h2.rP (a:=⟨ob,3,none⟩) (fun e=> ?_) _;rw[rowB_own] at e;have:=(OutS.row h2.rP ob e).1; omega}
 {refine Or.inr (fun e=> ?_);have e2:rowB AP=some g:=e.symm;have:=(OutS.row h.rP g e2).2; omega}
 {exact (h2.own x hx).of (fun b hb=>Z0m _ _ _ (fun e=>by
   have:=(h.fs x hx b hb).1;simp at e; omega)) (by rw[hsz]; exact Nat.le_refl _)}
 {have hx1:=h.fs x hx b hb;refine ⟨hx1.1,fun e=> ?_,hx1.2.2⟩;have e2:g=b:=Option.some.inj e;have:=(h.own x hx).lt b hb;omega}
theorem slice_form {A:Option Addr} {m c B e s:Nat} {xs:List Value} (h:W.ownsRow B e s (.slice A m c) m xs): (A=none/\m=0/\c=0)\/ ∃g,A=some ⟨g,0,none⟩/\m<=c:=by
 rcases h.2 with ⟨h1,h2⟩ | ⟨g,cap,cur,h1,_,_,h2,_⟩
 {simp only[Value.slice.injEq] at h1; exact Or.inl ⟨h1.1,h2,h1.2.2⟩}
 {simp only[Value.slice.injEq] at h1;obtain ⟨h3,_,rfl⟩:=h1;exact Or.inr ⟨g,h3,h2⟩}
theorem OutS.result {u:Sh} (h:OutS W1 W ob k o n nl l AN cN AP cP) (hn:u.names=nl) (hp:u.parts=l.map El.t) (ho:u.of_.length<=9223372036854775807) (hna:u.name.length<=9223372036854775807) (hns: ∀x∈u.names,x.length<=9223372036854775807) (hnl:nl.length<=9223372036854775807) (hl:l.length<=9223372036854775807):
 Own W ⟨AN,cN,AP,cP⟩ u ((rowB AN).toList++(rowB AP).toList++l.flatMap El.F)/\ ∀b∈(rowB AN).toList++(rowB AP).toList++l.flatMap El.F,W1.heap.size<=b:=by
 have hpl:u.parts.length=l.length:=by rw[hp,List.length_map]
 have fN:=slice_form h.rN;have fP:=slice_form h.rP;have hget: ∀i (hi:i < l.length),(l[i]!)=l[i]'hi:=fun i hi=>getElem!_pos l i hi;refine ⟨.mk _ u _ (rowB AN).toList (rowB AP).toList (fun i=>(l[i]!).q) (fun i=>(l[i]!).F) ⟨ho,hna,hns,by rw[hn]; exact hnl,by rw[hpl]; exact hl, ?_, ?_, ?_, ?_⟩ ?_ ?_ ?_ ?_, ?_⟩
 {rw[hn]; rcases fN with ⟨_,h1,h2⟩ | ⟨_,_,h1⟩
  {rw[h1]; exact Nat.zero_le _}
  {exact h1}}
 {rw[hpl]; rcases fP with ⟨_,h1,h2⟩ | ⟨_,_,h1⟩
  {rw[h1]; exact Nat.zero_le _}
  {exact h1}}
 {intro hA;rcases fN with ⟨_,_,h2⟩ | ⟨g,h1,_⟩
  {exact h2}
  {rw[h1] at hA; cases hA}}
 {intro hA;rcases fP with ⟨_,_,h2⟩ | ⟨g,h1,_⟩
  {exact h2}
  {rw[h1] at hA; cases hA}}
 {rcases fN with ⟨h1,h2,_⟩ | ⟨g,h1,_⟩
  {exact Or.inl ⟨by rw[hn]; exact h2,by rw[h1]; rfl⟩}
  {have hr:=h.rN;rw[h1] at hr;refine Or.inr ⟨g,h1,by rw[h1]; rfl,(hr.lt g rfl).2,fun j hj=> ?_,fun j=>hr.frozenAt j⟩;have hj2:j < nl.length:=by rw[hn] at hj; exact hj
   rw[hr.cellAt j (by omega)];simp[namesE,hn,hj2]}}
 {rcases fP with ⟨h1,h2,_⟩ | ⟨g,h1,_⟩
  {exact Or.inl ⟨by rw[hpl]; exact h2,by rw[h1]; rfl⟩}
  {have hr:=h.rP;rw[h1] at hr;refine Or.inr ⟨g,h1,by rw[h1]; rfl,(hr.lt g rfl).2,fun j hj=> ?_,fun j=>hr.frozenAt j⟩;have hj2:j < l.length:=by rw[hpl] at hj; exact hj
   have e:u.parts[j]'hj=(l[j]'hj2).t:=by simp[hp]
   have hc: ∀c,c < 5->W.cell? ⟨g,j * 5+c,none⟩=(cells5 (l[j]'hj2))[c]? :=fun c hc=>by
    rw[hr.cellAt _ (by omega),cellsE_at hj2 hc]
   rw[e,hget j hj2];exact ⟨hc 0 (by omega),hc 1 (by omega),hc 2 (by omega),hc 3 (by omega),hc 4 (by omega)⟩}}
 {intro i hi;have hj2:i < l.length:=by rw[hpl] at hi; exact hi
  have e:u.parts[i]'hi=(l[i]'hj2).t:=by simp[hp]
  rw[e,hget i hj2];exact h.own _ (List.getElem_mem _)}
 {congr 1;rw[hpl];have:l=(List.range l.length).map (fun i=>l[i]!):=by
   apply List.ext_getElem
   {simp}
   {intro i h1 h2;rw[List.getElem_map,List.getElem_range,hget i h1]}
  conv=>lhs; rw[this]
  rw[List.flatMap_map]}
 {intro b hb;rcases List.mem_append.1 hb with hb | hb
  {rcases List.mem_append.1 hb with hb | hb
   {exact (OutS.row h.rN b (by simpa using hb)).1}
   {exact (OutS.row h.rP b (by simpa using hb)).1}}
  {obtain ⟨x,hx,hb⟩:=List.mem_flatMap.1 hb;exact (h.fs x hx b hb).1}}
end
end Go.Proofs.YtchklpedlbkgaaaDoor
namespace Go.Proofs.YtchklpedlbkgaaaDoor
section
open Go.RowKit Shp
def rW (w:World) (t:Sh) (q:Ptr):World:=(sW w t q).alloc (.cells #[.int .i64 t.kind,.string ⟨t.of_.toArray⟩,.string ⟨t.name.toArray⟩,.slice none 0 0,.slice none 0 0] 25)
section
variable (w : World) (t : Sh) (q : Ptr)
include w t q
theorem Z46: (rW w t q).heap.size=w.heap.size+3:=by simp[rW,sW]
theorem Z3o:Below w.heap.size w (rW w t q):=Z0i (Z2n w t q) _
theorem Z54:Box5 (rW w t q) w.heap.size t q:=(Z9O w t q).next (Z00 _ _)
theorem Z55:Box5 (rW w t q) (w.heap.size+1) Z5W noneQ:=(Z6b w t q).next (Z00 _ _)
theorem Z86: (sW w t q).heap.size=w.heap.size+2:=by simp[sW]
theorem Z56:OutS (rW w t q) (rW w t q) (w.heap.size+2) t.kind t.of_ t.name [] [] none 0 none 0:=by
 have h:=Z07 (sW w t q) ⟨t.kind,t.of_,t.name,[],[]⟩ noneQ;rw[Z86] at h;refine OutS.start t.kind t.of_ t.name h (fun j=> ?_);unfold rW;have e:w.heap.size+2=(sW w t q).heap.size:=(Z86 w t q).symm;rw[e];simp[go_sem]
end
theorem UpF.old {ob:Nat} {w W1 W:World} (h:UpF [ob] W1 W) (hb:Below w.heap.size w W1) (ho:w.heap.size<=ob):Below w.heap.size w W:=
 ⟨h.os.trans hb.os,h.tape.trans hb.tape,h.output.trans hb.output,Nat.le_trans hb.size h.size,fun k hk=>(h.block k (Nat.lt_of_lt_of_le hk hb.size) (by simp; omega)).trans (hb.block k hk)⟩
theorem OutS.box {W1 W:World} {ob:Nat} {k:Int} {o n:List UInt8} {nl:List (List UInt8)} {l:List El} {AN AP:Option Addr} {cN cP:Nat} (h:OutS W1 W ob k o n nl l AN cN AP cP) {g:Nat} {t:Sh} {q:Ptr} (hb:Box5 W1 g t q) (hg:g≠ob):Box5 W g t q:=
 hb.same (h.up.same hb.1 (by simpa using hg)) h.up.size
theorem Zay (W:World) (x:El) (H:Nat) (hH:W.heap.size=H): ∀j u,(cells5 x)[j]? =some u->(W.alloc (.cells (Y8 x.t x.q) 25)).cell? ((⟨H,0,none⟩:Addr).add j)=some u:=by
 subst hH;intro j u hj;rw[Z0b,Nat.zero_add,World.cell?_alloc_at _ _ _ _ rfl];simpa[cells5] using hj
def Rp7 (W1 wr:World) (ob:Nat) (t:Sh) (f:Sh->Sh) (i:Nat):Prop:= ∃l AP cP,OutS W1 wr ob t.kind t.of_ t.name [] l none 0 AP cP/\l.map El.t=(t.parts.map f).take i
theorem Rp7.push {W1 Wa W3:World} {ob:Nat} {t:Sh} {f:Sh->Sh} {i g cap:Nat} {l:List El} {AP:Option Addr} {cP:Nat} {x:El} {o:Obj} (hO:OutS W1 Wa ob t.kind t.of_ t.name [] l none 0 AP cP) (hl:l.map El.t=(t.parts.map f).take i) (hi:i < t.parts.length) (hx:x.t=f (t.parts[i]'hi))
 (hxo:Own Wa x.q x.t x.F) (hxf: ∀b∈x.F,W1.heap.size<=b/\rowB AP≠some b) (hg: (Wa.alloc o).grownBy W3 (rowB AP)) (hat:rowB AP=some g\/g=(Wa.alloc o).heap.size)
 (hrow:W3.ownsRow W1.heap.size 25 5 (.slice (some ⟨g,0,none⟩) (l.length+1) cap) (l.length+1) (cellsE l++cells5 x)):
 Rp7 W1 (W3.setCell ⟨ob,4,none⟩ (.slice (some ⟨g,0,none⟩) (l.length+1) cap)) ob t f (i+1):=by
 have hO2:=hO.below (Z00 Wa o);refine ⟨l++ [x],some ⟨g,0,none⟩,cap, ?_, ?_⟩
 {have e:l.length+1=(l++ [x]).length:=by simp
  rw[e] at hrow ⊢;refine hO2.putP hg (by rw[cellsE_append,cellsE_one]; exact hrow) (hat.imp id (fun h=>by omega)) (fun y hy=> ?_);rcases List.mem_append.1 hy with hy | hy
  {exact ⟨hO2.own y hy,fun b hb=>hO2.fs y hy b hb⟩}
  {obtain rfl:y=x:=by simpa using hy
   exact ⟨Z0p hxo (Z00 Wa o),fun b hb=>⟨(hxf b hb).1,nofun,(hxf b hb).2⟩⟩}}
 {rw[List.map_append,hl,Z1m (l:=t.parts.map f) (by simpa using hi)];simp[hx]}
theorem Z47 {w:World} {base base' size n:Nat} {e:TypeId} {v:Value} {xs:List Value} (h:w.ownsRow base e size v n xs) (hb:base'<=base):w.ownsRow base' e size v n xs:=
 ⟨h.1,h.2.elim Or.inl (fun ⟨g,cap,cur,hv,hg,r⟩=>Or.inr ⟨g,cap,cur,hv,Nat.le_trans hb hg,r⟩)⟩
theorem Zaz {W W':World} {B e size m c k:Nat} {A:Option Addr} {xs:List Value} (h:W.ownsRow B e size (.slice A m c) m xs) (hk:k<=m) (hb:Below W.heap.size W W'):
 ∀ad,A=some ad-> ∀j u,(xs.take (k * size))[j]? =some u->W'.cell? (ad.add j)=some u:=by
 intro ad hA j u hj;rcases slice_form h with ⟨h1,_⟩ | ⟨g,h1,_⟩
 {rw[h1] at hA; cases hA}
 {rw[h1] at hA h;cases hA;have hjl:j < k * size:=by
   rcases Nat.lt_or_ge j (k * size) with hl | hl
   {exact hl}
   {rw[List.getElem?_eq_none (by rw[List.length_take]; omega)] at hj; cases hj}
  have hkm:k * size<=m * size:=Nat.mul_le_mul_right _ hk;rw[Z0b,Nat.zero_add,hb.cell (p:=⟨g,j,none⟩) (h.lt g rfl).2,h.cellAt j (by omega)]
  rwa [List.getElem?_take,if_pos hjl] at hj}
theorem Z48 {W:World} {B e size m c k:Nat} {A:Option Addr} {xs:List Value} (h:W.ownsRow B e size (.slice A m c) m xs) (hk:k<=m):A=none->k=0/\c=0:=by
 intro hA;rcases slice_form h with ⟨h1,h2,h3⟩ | ⟨g,h1,h2⟩
 {omega}
 {rw[h1] at hA; cases hA}
def FinC (W0:World) (ob c:Nat) (ty size n:Nat) (xs:List Value) (W:World):Prop:=
 ∃Wm g cap,Below W0.heap.size W0 Wm/\Wm.ownsRow W0.heap.size ty size (.slice (some ⟨g,0,none⟩) n cap) n xs/\W0.heap.size<=g/\W=Wm.setCell ⟨ob,c,none⟩ (.slice (some ⟨g,0,none⟩) n cap)
theorem FinC.size {W0 W:World} {ob c ty size n:Nat} {xs:List Value} (h:FinC W0 ob c ty size n xs W):W0.heap.size<=W.heap.size:=by
 obtain ⟨Wm,g,cap,b1,_,_,rfl⟩:=h;simpa[World.setCell] using b1.size
section
variable {W0 W : World} {ob c ty size n : Nat} {xs : List Value} (h : FinC W0 ob c ty size n xs W)
include W0 W ob c ty size n xs h
theorem FinC.same {b:Nat} (hb:b < W0.heap.size) (hne:b≠ob):Z0v W0 W b:=by
 obtain ⟨Wm,g,cap,b1,_,_,rfl⟩:=h;exact (Z0v.below b1 hb).trans (Z0m _ _ _ (fun e=>hne e.symm))
theorem FinC.other (hb:ob < W0.heap.size) {j:Nat} (hne:j≠c):W.cell? ⟨ob,j,none⟩=W0.cell? ⟨ob,j,none⟩:=by
 obtain ⟨Wm,g,cap,b1,_,_,rfl⟩:=h;exact (World.cell?_setCell_other _ _ _ _ (fun e=>hne (congrArg Addr.off e).symm)).trans (b1.cell (p:=⟨ob,j,none⟩) hb)
end
theorem FinC.frozen {W0 W:World} {ob c ty size n:Nat} {xs:List Value} (h:FinC W0 ob c ty size n xs W) (hb:ob < W0.heap.size) (j:Nat):W.frozen? ⟨ob,j,none⟩=W0.frozen? ⟨ob,j,none⟩:=by
 obtain ⟨Wm,g,cap,b1,_,_,rfl⟩:=h;rw[World.frozen?_setCell]; exact b1.frozen (p:=⟨ob,j,none⟩) hb
theorem FinC.row {W0 W:World} {ob c ty size n:Nat} {xs:List Value} (h:FinC W0 ob c ty size n xs W) {B e s m cc:Nat} {A:Option Addr} {ys:List Value} (hr:W0.ownsRow B e s (.slice A m cc) m ys) (hne:rowB A≠some ob):W.ownsRow B e s (.slice A m cc) m ys:=by
 obtain ⟨Wm,g,cap,b1,_,_,rfl⟩:=h;refine Z1V (hr.kept (row:=none) ⟨b1.os,b1.tape,b1.output,b1.size,fun j hj _=>b1.block j hj⟩ ?_) (a:=⟨ob,c,none⟩) (by rw[rowB_own]; exact hne) _;cases hq:Value.ownBlock (.slice A m cc) with
 | none=>exact Or.inl rfl
 | some b=>exact Or.inr nofun
theorem Z87 {W W':World} {B e m c k:Nat} {A:Option Addr} {l:List (List UInt8)} (h:W.ownsRow B e 1 (.slice A m c) m (namesE l)) (hk:k<=m) (hb:Below W.heap.size W W'):
 ∀ad,A=some ad-> ∀j u,(namesE (l.take k))[j]? =some u->W'.cell? (ad.add j)=some u:=by
 have:=Zaz h hk hb;rw[Nat.mul_one] at this;simpa[namesE,List.map_take] using this
theorem Z7P (l:List El) (k:Nat): (cellsE l).take (k * 5)=cellsE (l.take k):=by
 rcases Nat.lt_or_ge l.length k with h | h
 {rw[List.take_of_length_le (by rw[cellsE_len]; omega),List.take_of_length_le (by omega)]}
 {conv=>lhs; rw[<-List.take_append_drop k l,cellsE_append]
  have: (cellsE (l.take k)).length=k * 5:=by rw[cellsE_len,List.length_take,Nat.min_eq_left h]
  rw[<-this,List.take_left]}
theorem Z88 {W W':World} {B e m c k:Nat} {A:Option Addr} {l:List El} (h:W.ownsRow B e 5 (.slice A m c) m (cellsE l)) (hk:k<=m) (hb:Below W.heap.size W W'):
 ∀ad,A=some ad-> ∀j u,(cellsE (l.take k))[j]? =some u->W'.cell? (ad.add j)=some u:=by
 have:=Zaz h hk hb
 rwa [Z7P] at this
end
end Go.Proofs.YtchklpedlbkgaaaDoor
