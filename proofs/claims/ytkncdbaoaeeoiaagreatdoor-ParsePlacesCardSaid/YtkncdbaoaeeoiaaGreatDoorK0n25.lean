/- What the proofs of ParsePlaces want, part 25. -/
import Derived.Test.YtkncdbaoaeeoiaaGreatDoorK0n24
import Derived.Test.YtkncdbaoaeeoiaaGreatDoorK0n17
set_option linter.unusedVariables false
set_option linter.unusedSimpArgs false
set_option linter.unusedSectionVars false
set_option maxRecDepth 100000
set_option maxHeartbeats 16000000
namespace Go.Proofs.YtkncdbaoaeeoiaaGreatDoor
section
open Go.RowKit Tms
open Shp (Sh)
open Pso (St Ok Goes betw loop want)
structure VInv (w:World) (bp:Nat) (A:Option Addr) (c:Nat) (l:List Tk) (τ:St) (ob:Nat) (nm n2:List UInt8) (d:Nat->Bool) (u:Nat->Value) (W:World):Prop where
 v0:d 0=true->u 0= .pointer (some ⟨ob,2,none⟩)
 v1:d 1=true->u 1= .string ⟨nm.toArray⟩
 v2:d 2=true->u 2= .pointer (some ⟨bp,0,none⟩)
 vA:d 3=true->u 3= .pointer (some ⟨bp,0,none⟩)
 vB:d 4=true->u 4= .pointer (some ⟨bp,0,none⟩)
 v3:d 5=true->u 5= .string ⟨n2.toArray⟩
 v4:d 6=true->u 6= .pointer (some ⟨ob,1,none⟩)
 v6:d 8=true->u 8= .pointer (some ⟨ob,2,none⟩)
 e5:d 7=true->d 5=true/\d 1=true
 e7:d 9=true->d 7=true
 pre:d 5=false->Below w.heap.size w W
 mid:d 5=true->d 7=false->PAt W bp A c l τ/\UpT [bp] w W
 late:d 7=true-> ∃Wm,PAt Wm bp A c l τ/\UpT [bp] w Wm/\W=if d 9=true then (Wm.setCell ⟨ob,1,none⟩ (.string ⟨nm.toArray⟩)).setCell ⟨ob,2,none⟩ (.string ⟨n2.toArray⟩) else Wm.setCell ⟨ob,1,none⟩ (.string ⟨nm.toArray⟩)
section
variable {w : World} {bp : Nat} {A : Option Addr} {c : Nat} {l : List Tk} {τ : St} {ob : Nat} {nm n2 : List UInt8} {d : Nat -> Bool} {u : Nat -> Value} {W W' : World}
section
variable (h : VInv w bp A c l τ ob nm n2 d u W)
include h
theorem VInv.not5 {i:Nat} (hi:i=1\/i=5\/i=7) (hd:d i=false):d 7=false:=by
 cases h5:d 7 with
 | false=>rfl
 | true=>
  have h1:=h.e5 h5;rcases hi with rfl | rfl | rfl
  {rw[hd] at h1; cases h1.2}
  {rw[hd] at h1; cases h1.1}
  {rw[hd] at h5; cases h5}
theorem VInv.up (h5:d 7=false):UpT [bp] w W:=by
 cases h3:d 5 with
 | false=>exact Z05 (h.pre h3)
 | true=>exact (h.mid h3 h5).2
theorem VInv.pure {i:Nat} {v:Value} (hi:i=0/\v= .pointer (some ⟨ob,2,none⟩)\/i=1/\v= .string ⟨nm.toArray⟩\/i=2/\v= .pointer (some ⟨bp,0,none⟩)\/i=3/\v= .pointer (some ⟨bp,0,none⟩)\/i=4/\v= .pointer (some ⟨bp,0,none⟩)\/i=6/\v= .pointer (some ⟨ob,1,none⟩)\/i=8/\v= .pointer (some ⟨ob,2,none⟩)):
 VInv w bp A c l τ ob nm n2 (also d i) (upd u i v) W:=by
 have k: ∀j,j≠i->also d i j=d j/\upd u i v j=u j:=fun j hj=>⟨PtxT.ne9 d hj,Z06 u _ hj⟩;have sd:also d i i=true:=PtxT.self9 d i;have su:upd u i v i=v:=Z09 _ _ _;have q: ∀(j:Nat) (V:Value),(i=j->v=V)->(d j=true->u j=V)->also d i j=true->upd u i v j=V:=fun j V h1 h2 h3=>by
  by_cases e:j=i
  {subst e; rw[su]; exact h1 rfl}
  {rw[(k j e).2]; rw[(k j e).1] at h3; exact h2 h3}
 have n3:i≠5:=by omega
 have n5:i≠7:=by omega
 have n7:i≠9:=by omega
 refine ⟨q 0 _ (fun e=> ?_) h.v0,q 1 _ (fun e=> ?_) h.v1,q 2 _ (fun e=> ?_) h.v2,q 3 _ (fun e=> ?_) h.vA,q 4 _ (fun e=> ?_) h.vB,q 5 _ (fun e=>absurd e n3) h.v3,q 6 _ (fun e=> ?_) h.v4,q 8 _ (fun e=> ?_) h.v6, ?_, ?_, ?_, ?_, ?_⟩
 {rcases hi with ⟨h1,h2⟩ | ⟨h1,h2⟩ | ⟨h1,h2⟩ | ⟨h1,h2⟩ | ⟨h1,h2⟩ | ⟨h1,h2⟩ | ⟨h1,h2⟩ <;> first | exact h2 | omega}
 {rcases hi with ⟨h1,h2⟩ | ⟨h1,h2⟩ | ⟨h1,h2⟩ | ⟨h1,h2⟩ | ⟨h1,h2⟩ | ⟨h1,h2⟩ | ⟨h1,h2⟩ <;> first | omega | exact h2}
 {rcases hi with ⟨h1,h2⟩ | ⟨h1,h2⟩ | ⟨h1,h2⟩ | ⟨h1,h2⟩ | ⟨h1,h2⟩ | ⟨h1,h2⟩ | ⟨h1,h2⟩ <;> first | omega | exact h2}
 {rcases hi with ⟨h1,h2⟩ | ⟨h1,h2⟩ | ⟨h1,h2⟩ | ⟨h1,h2⟩ | ⟨h1,h2⟩ | ⟨h1,h2⟩ | ⟨h1,h2⟩ <;> first | omega | exact h2}
 {rcases hi with ⟨h1,h2⟩ | ⟨h1,h2⟩ | ⟨h1,h2⟩ | ⟨h1,h2⟩ | ⟨h1,h2⟩ | ⟨h1,h2⟩ | ⟨h1,h2⟩ <;> first | omega | exact h2}
 {rcases hi with ⟨h1,h2⟩ | ⟨h1,h2⟩ | ⟨h1,h2⟩ | ⟨h1,h2⟩ | ⟨h1,h2⟩ | ⟨h1,h2⟩ | ⟨h1,h2⟩ <;> first | omega | exact h2}
 {rcases hi with ⟨h1,h2⟩ | ⟨h1,h2⟩ | ⟨h1,h2⟩ | ⟨h1,h2⟩ | ⟨h1,h2⟩ | ⟨h1,h2⟩ | ⟨h1,h2⟩ <;> first | omega | exact h2}
 {rw[(k 7 n5.symm).1,(k 5 n3.symm).1];intro h5;refine ⟨(h.e5 h5).1, ?_⟩;by_cases e: (1:Nat)=i
  {rw[e]; exact sd}
  {rw[(k 1 e).1]; exact (h.e5 h5).2}}
 {rw[(k 9 n7.symm).1,(k 7 n5.symm).1]; exact h.e7}
 {rw[(k 5 n3.symm).1]; exact h.pre}
 {rw[(k 5 n3.symm).1,(k 7 n5.symm).1]; exact h.mid}
 {rw[(k 7 n5.symm).1,(k 9 n7.symm).1]; exact h.late}
theorem VInv.s3 (hd:d 5=false) (hp:PAt W' bp A c l τ) (hu:UpT [bp] W W'):VInv w bp A c l τ ob nm n2 (also d 5) (upd u 5 (.string ⟨n2.toArray⟩)) W':=by
 have h5:=h.not5 (by omega) hd;have k: ∀j,j≠5->also d 5 j=d j/\upd u 5 (.string ⟨n2.toArray⟩) j=u j:=fun j hj=>⟨PtxT.ne9 d hj,Z06 u _ hj⟩;refine ⟨?_, ?_, ?_, ?_, ?_,fun _=>Z09 _ _ _, ?_, ?_, ?_, ?_, ?_,fun _ _=>⟨hp,(Z05 (h.pre hd)).trans hu⟩, ?_⟩
 {rw[(k 0 (by omega)).1,(k 0 (by omega)).2]; exact h.v0}
 {rw[(k 1 (by omega)).1,(k 1 (by omega)).2]; exact h.v1}
 {rw[(k 2 (by omega)).1,(k 2 (by omega)).2]; exact h.v2}
 {rw[(k 3 (by omega)).1,(k 3 (by omega)).2]; exact h.vA}
 {rw[(k 4 (by omega)).1,(k 4 (by omega)).2]; exact h.vB}
 {rw[(k 6 (by omega)).1,(k 6 (by omega)).2]; exact h.v4}
 {rw[(k 8 (by omega)).1,(k 8 (by omega)).2]; exact h.v6}
 {rw[(k 7 (by omega)).1,h5]; intro e; cases e}
 {rw[(k 9 (by omega)).1,(k 7 (by omega)).1]; exact h.e7}
 {rw[PtxT.self9]; intro e; cases e}
 {rw[(k 7 (by omega)).1,h5]; intro e; cases e}
theorem VInv.s5 (hd:d 7=false) (h3:d 5=true) (h1:d 1=true) (v:Value):VInv w bp A c l τ ob nm n2 (also d 7) (upd u 7 v) (W.setCell ⟨ob,1,none⟩ (.string ⟨nm.toArray⟩)):=by
 have d7:d 9=false:=by cases e:d 9 with | false=>rfl | true=>have:=h.e7 e; rw[hd] at this; cases this
 have k: ∀j,j≠7->also d 7 j=d j/\upd u 7 v j=u j:=fun j hj=>⟨PtxT.ne9 d hj,Z06 u _ hj⟩;have hm:=h.mid h3 hd;refine ⟨?_, ?_, ?_, ?_, ?_, ?_, ?_, ?_, ?_,fun _=>PtxT.self9 _ _, ?_, ?_,fun _=>⟨W,hm.1,hm.2, ?_⟩⟩
 {rw[(k 0 (by omega)).1,(k 0 (by omega)).2]; exact h.v0}
 {rw[(k 1 (by omega)).1,(k 1 (by omega)).2]; exact h.v1}
 {rw[(k 2 (by omega)).1,(k 2 (by omega)).2]; exact h.v2}
 {rw[(k 3 (by omega)).1,(k 3 (by omega)).2]; exact h.vA}
 {rw[(k 4 (by omega)).1,(k 4 (by omega)).2]; exact h.vB}
 {rw[(k 5 (by omega)).1,(k 5 (by omega)).2]; exact h.v3}
 {rw[(k 6 (by omega)).1,(k 6 (by omega)).2]; exact h.v4}
 {rw[(k 8 (by omega)).1,(k 8 (by omega)).2]; exact h.v6}
 {rw[(k 5 (by omega)).1,(k 1 (by omega)).1]; exact fun _=>⟨h3,h1⟩}
 {rw[(k 5 (by omega)).1,h3]; intro e; cases e}
 {rw[PtxT.self9]; intro _ e; cases e}
 {rw[(k 9 (by omega)).1,d7]; rfl}
theorem VInv.s7 (hd:d 9=false) (h5:d 7=true) (v:Value):VInv w bp A c l τ ob nm n2 (also d 9) (upd u 9 v) (W.setCell ⟨ob,2,none⟩ (.string ⟨n2.toArray⟩)):=by
 have k: ∀j,j≠9->also d 9 j=d j/\upd u 9 v j=u j:=fun j hj=>⟨PtxT.ne9 d hj,Z06 u _ hj⟩;obtain ⟨Wm,h1,h2,h3⟩:=h.late h5;refine ⟨?_, ?_, ?_, ?_, ?_, ?_, ?_, ?_, ?_, ?_, ?_, ?_,fun _=>⟨Wm,h1,h2, ?_⟩⟩
 {rw[(k 0 (by omega)).1,(k 0 (by omega)).2]; exact h.v0}
 {rw[(k 1 (by omega)).1,(k 1 (by omega)).2]; exact h.v1}
 {rw[(k 2 (by omega)).1,(k 2 (by omega)).2]; exact h.v2}
 {rw[(k 3 (by omega)).1,(k 3 (by omega)).2]; exact h.vA}
 {rw[(k 4 (by omega)).1,(k 4 (by omega)).2]; exact h.vB}
 {rw[(k 5 (by omega)).1,(k 5 (by omega)).2]; exact h.v3}
 {rw[(k 6 (by omega)).1,(k 6 (by omega)).2]; exact h.v4}
 {rw[(k 8 (by omega)).1,(k 8 (by omega)).2]; exact h.v6}
 {rw[(k 7 (by omega)).1,(k 5 (by omega)).1,(k 1 (by omega)).1]; exact h.e5}
 {rw[(k 7 (by omega)).1]; exact fun _=>h5}
 {rw[(k 5 (by omega)).1,(h.e5 h5).1]; intro e; cases e}
 {rw[(k 7 (by omega)).1,h5]; intro _ e; cases e}
 {rw[PtxT.self9,if_pos rfl,h3,hd]; rfl}
end
end
theorem ZbT (bp:Nat) (A:Option Addr) (c:Nat) (l:List Tk) (σ:St) (a:Int) (hl:TokOk l) (ha: -9223372036854775808<=a/\a<=9223372036854775807) (hσ:Ok l σ) (w:World) (h:PAt w bp A c l σ):
 Calls Tryz.prog 134 #[.pointer (some ⟨bp,0,none⟩),.int .i64 a] w (TmIs bp A c l (Pso.valueE l σ a) w):=by
 have hbw:=h.lt;have HLEN:=hl.len;have t1:=Pso.to_name hσ;have hn1:=Z0q hl.txt σ 1 (by decide) Lex.isName;change (Pso.name l σ).1.length<=1000000 at hn1;have hb0:=Z01 w (.cells Ya 26);have hz0:=Z0h w (.int .i64 0) (.string ⟨#[]⟩) (.string ⟨#[]⟩) (.int .i64 0) (.slice none 0 0) (.slice none 0 0) (.slice none 0 0) (.slice none 0 0) (.int .i64 0) 26;have HN:=Y1 (Z1a bp A c l σ (by omega) hσ.1 hl.txt _ (h.below hb0));have HB0:=Y1 hb0;have HZ0:=Y1 hz0;have HT1:=Y1 t1;have HL:=Y1 hl;have HA:=Y1 ha;clear h hb0 hz0 hl ha;cases hs:Prs.sign l (Pso.name l σ).2.1 [47]
 {have HF:Hid (Pso.valueE l σ a=({ Prs.tm 5 a with name:=(Pso.name l σ).1 },(Pso.name l σ).2)):=Y1 (by unfold Pso.valueE; simp only; rw[hs]; rfl);rw[HF.out];have HPN:=Y1 (fun (w:World) (h:PAt w bp A c l (Pso.name l σ).2) (b:Nat) (hb:b=w.heap.size)=>Z0C hs HLEN t1.1.1 w h (hb0:=hb));obtain ⟨y,hy⟩: ∃y,y=Pso.name l σ:=⟨_,rfl⟩;rw[<-hy] at HN HPN hn1 ⊢;clear hs t1 HF HT1 hy;go_enter Tryz.func134,Tryz.ntmps134
  go_wp2_with fail
  refine HN.out.mono ?_;rintro e w0 ⟨rfl,hp0,hu0⟩;have hs0:w.heap.size+1<=w0.heap.size:=by have:=hu0.size; simpa using this
  have HP0:=Y1 (hp0.alloc (.cells #[.int .i64 5,.string ⟨#[]⟩,.string ⟨y.1.toArray⟩,.int .i64 0,.slice none 0 0,.slice none 0 0,.slice none 0 0,.slice none 0 0,.int .i64 a] 26));have HU0:=Y1 (((Z05 (F:= [bp]) HB0.out).trans hu0).alloc (.cells #[.int .i64 5,.string ⟨#[]⟩,.string ⟨y.1.toArray⟩,.int .i64 0,.slice none 0 0,.slice none 0 0,.slice none 0 0,.slice none 0 0,.int .i64 a] 26));have HZ1:=Y1 ((HZ0.out.up hu0 (by simp; omega)).below (Z01 w0 (.cells #[.int .i64 5,.string ⟨#[]⟩,.string ⟨y.1.toArray⟩,.int .i64 0,.slice none 0 0,.slice none 0 0,.slice none 0 0,.slice none 0 0,.int .i64 a] 26)));have HC1:=Y1 (Z0h w0 (.int .i64 5) (.string ⟨#[]⟩) (.string ⟨y.1.toArray⟩) (.int .i64 0) (.slice none 0 0) (.slice none 0 0) (.slice none 0 0) (.slice none 0 0) (.int .i64 a) 26);have hbl:bp < w0.heap.size:=hp0.lt;clear hp0 hu0 HN HB0 HZ0
  go_wp2_with fail
  have HZW:=Y1 (show w0.heap.size+1=(w0.alloc (.cells #[.int .i64 5,.string ⟨#[]⟩,.string ⟨y.1.toArray⟩,.int .i64 0,.slice none 0 0,.slice none 0 0,.slice none 0 0,.slice none 0 0,.int .i64 a] 26)).heap.size by simp);generalize w0.alloc (.cells #[.int .i64 5,.string ⟨#[]⟩,.string ⟨y.1.toArray⟩,.int .i64 0,.slice none 0 0,.slice none 0 0,.slice none 0 0,.slice none 0 0,.int .i64 a] 26)=W0 at HZW HP0 HU0 HZ1 HC1 ⊢;refine (HPN.out W0 HP0.out _ HZW.out).mono ?_;rintro e w1 ⟨rfl,hp1,hu1⟩;have HP1:=Y1 hp1;have HU1:=Y1 (HU0.out.trans hu1);obtain ⟨r0,r1,r2,r3,r4,r5,r6,r7,r8,rf,rl⟩:=HZ1.out.up hu1 (by simp; omega);obtain ⟨x0,x1,x2,x3,x4,x5,x6,x7,x8,xf,xl⟩:=HC1.out.up hu1 (by simp; omega);have f0:=rf 0;have f1:=rf 1;have f2:=rf 2;have f3:=rf 3;have f4:=rf 4;have f5:=rf 5;have f6:=rf 6;have f7:=rf 7;have f8:=rf 8;clear hp1 hu1 HPN HP0 HU0 HZ1 HC1 rf xf;go_wp2;refine bodyPost_ret (v:=valT ⟨mkT ⟨5,[],y.1,0,a⟩ TR.none_,mkQ TR.none_,w1.heap.size,w1.heap.size⟩) (by simp[results,Tryz.results134,go_sem,valT,mkT,mkQ,TR.none_,r0,r1,r2,r3,r4,r5,r6,r7,r8,rl]) rfl ?_;have hE:=end9 HP1.out HU1.out (Z2p w1 ⟨5,[],y.1,0,a⟩ ⟨by simp,hn1,by simp,HA.out,by simp⟩) (rb:=w.heap.size) (Nat.le_refl _) (Or.inl (by simp only; omega)) hbw;exact ⟨_,rfl,(hE _ _ _ _ _ _ _ _ _).1,(hE _ _ _ _ _ _ _ _ _).2.1,(hE _ _ _ _ _ _ _ _ _).2.2,by simp only; omega,rfl,Z1Y _⟩}
 {have HF:Hid (Pso.valueE l σ a=({ Prs.tm 5 a with of_:=(Pso.name l σ).1,name:=(Pso.name l ((Pso.name l σ).2.1+1,(Pso.name l σ).2.2)).1 },(Pso.name l ((Pso.name l σ).2.1+1,(Pso.name l σ).2.2)).2)):=Y1 (by unfold Pso.valueE; simp only; rw[hs]; rfl);rw[HF.out];have HPY:=Y1 (fun (w:World) (h:PAt w bp A c l (Pso.name l σ).2) (b:Nat) (hb:b=w.heap.size)=>Z0N hs HLEN t1.1.1 w h (hb0:=hb));have t2:=Pso.to_next t1.1 (Pso.sign_lt hs);have HN2:=Y1 (fun (w:World) (h:PAt w bp A c l ((Pso.name l σ).2.1+1,(Pso.name l σ).2.2))=>Z1a bp A c l _ (by omega) t2.1.1 HL.out.txt w h);have hn2:=Z0q HL.out.txt ((Pso.name l σ).2.1+1,(Pso.name l σ).2.2) 1 (by decide) Lex.isName;change (Pso.name l ((Pso.name l σ).2.1+1,(Pso.name l σ).2.2)).1.length<=1000000 at hn2;obtain ⟨z,hz⟩: ∃z,z=Pso.name l ((Pso.name l σ).2.1+1,(Pso.name l σ).2.2):=⟨_,rfl⟩;rw[<-hz] at HN2 hn2 ⊢;obtain ⟨y,hy⟩: ∃y,y=Pso.name l σ:=⟨_,rfl⟩;rw[<-hy] at HN HPY HN2 hn1 ⊢;clear hs t1 HF HT1 hy hz t2;go_enter Tryz.func134,Tryz.ntmps134
  go_wp2_with fail
  refine HN.out.mono ?_;rintro e w0 ⟨rfl,hp0,hu0⟩;have hs0:w.heap.size+1<=w0.heap.size:=by have:=hu0.size; simpa using this
  have HP0:=Y1 (hp0.alloc (.cells #[.int .i64 5,.string ⟨#[]⟩,.string ⟨y.1.toArray⟩,.int .i64 0,.slice none 0 0,.slice none 0 0,.slice none 0 0,.slice none 0 0,.int .i64 a] 26));have HU0:=Y1 (((Z05 (F:= [bp]) HB0.out).trans hu0).alloc (.cells #[.int .i64 5,.string ⟨#[]⟩,.string ⟨y.1.toArray⟩,.int .i64 0,.slice none 0 0,.slice none 0 0,.slice none 0 0,.slice none 0 0,.int .i64 a] 26));have HZ1:=Y1 ((HZ0.out.up hu0 (by simp; omega)).below (Z01 w0 (.cells #[.int .i64 5,.string ⟨#[]⟩,.string ⟨y.1.toArray⟩,.int .i64 0,.slice none 0 0,.slice none 0 0,.slice none 0 0,.slice none 0 0,.int .i64 a] 26)));have HC1:=Y1 (Z0h w0 (.int .i64 5) (.string ⟨#[]⟩) (.string ⟨y.1.toArray⟩) (.int .i64 0) (.slice none 0 0) (.slice none 0 0) (.slice none 0 0) (.slice none 0 0) (.int .i64 a) 26);have hbl:bp < w0.heap.size:=hp0.lt;clear hp0 hu0 HN HB0 HZ0
  go_wp2_with fail
  have HZW:=Y1 (show w0.heap.size+1=(w0.alloc (.cells #[.int .i64 5,.string ⟨#[]⟩,.string ⟨y.1.toArray⟩,.int .i64 0,.slice none 0 0,.slice none 0 0,.slice none 0 0,.slice none 0 0,.int .i64 a] 26)).heap.size by simp);generalize w0.alloc (.cells #[.int .i64 5,.string ⟨#[]⟩,.string ⟨y.1.toArray⟩,.int .i64 0,.slice none 0 0,.slice none 0 0,.slice none 0 0,.slice none 0 0,.int .i64 a] 26)=W0 at HZW HP0 HU0 HZ1 HC1 ⊢;refine (HPY.out W0 HP0.out _ HZW.out).mono ?_;rintro e w1 ⟨rfl,hp1,hu1⟩;have HP1:=Y1 hp1;have HU1:=Y1 (HU0.out.trans hu1);have HZ2:=Y1 (HZ1.out.up hu1 (by simp; omega));have HC2:=Y1 (HC1.out.up hu1 (by simp; omega));clear hp1 hu1 HPY HP0 HU0 HZ1 HC1
  go_wp2_with fail
  refine Z2c (rs:= [0,1,2,3,4,5,6,7,8,9]) (fun u=> { tmps:=#[.pointer (some ⟨bp,0,none⟩),.int .i64 a,undef,undef,.pointer (some ⟨w.heap.size,0,none⟩),.pointer (some ⟨w0.heap.size,0,none⟩),.pointer (some ⟨bp,0,none⟩),.pointer (some ⟨bp,0,none⟩),.pointer (some ⟨bp,0,none⟩),.string ⟨y.1.toArray⟩,.int .i64 a,.agg #[.int .i64 5,.string ⟨#[]⟩,.string ⟨y.1.toArray⟩,.int .i64 0,.slice none 0 0,.slice none 0 0,.slice none 0 0,.slice none 0 0,.int .i64 a],.pointer (some ⟨bp,0,none⟩),.pointer (some ⟨bp,0,none⟩),.pointer (some ⟨bp,0,none⟩),.slice (some ⟨w0.heap.size+1,0,none⟩) 1 1,.bool true,u 0,u 1,u 2,u 3,u 4,u 5,u 6,u 8,undef],defers:= [] }) (fun _=>undef)
   (VInv w1 bp A c l z.2 w0.heap.size y.1 z.1) (by kernel_rfl) (by kernel_rfl) (by kernel_rfl) ⟨nofun,nofun,nofun,nofun,nofun,nofun,nofun,nofun,nofun,nofun,fun _=>Y2.drew,nofun,nofun⟩ ?_ ?_
  refine StepsInv.cons _ rfl (fun d u W K' hI hd hw hK=> ?_) ?_
  {refine Z02 (v:= .pointer (some ⟨w0.heap.size,2,none⟩)) (W':=W) rfl ?_ (hK.out _ _ (hI.pure (by simp)))
   try dsimp only
   go_simp}
  refine StepsInv.cons _ rfl (fun d u W K' hI hd hw hK=> ?_) ?_
  {have d0:=hI.v0 (hw 0 (by kernel_rfl));obtain ⟨x0,x1,x2,x3,x4,x5,x6,x7,x8,xf,xl⟩:=HC2.out.up (hI.up (hI.not5 (by omega) hd)) (by simp; omega);refine Z02 (v:= .string ⟨y.1.toArray⟩) (W':=W) rfl ?_ (hK.out _ _ (hI.pure (by simp)))
   try dsimp only
   go_simp}
  refine StepsInv.cons _ rfl (fun d u W K' hI hd hw hK=> ?_) ?_
  {refine Z02 (v:= .pointer (some ⟨bp,0,none⟩)) (W':=W) rfl ?_ (hK.out _ _ (hI.pure (by simp)))
   try dsimp only
   go_simp}
  refine StepsInv.cons _ rfl (fun d u W K' hI hd hw hK=> ?_) ?_
  {have d2:=hI.v2 (hw 2 (by kernel_rfl));refine Z02 (v:= .pointer (some ⟨bp,0,none⟩)) (W':=W) rfl ?_ (hK.out _ _ (hI.pure (by simp)))
   try dsimp only
   go_simp}
  refine StepsInv.cons _ rfl (fun d u W K' hI hd hw hK=> ?_) ?_
  {have d3:=hI.vA (hw 3 (by kernel_rfl));refine Z02 (v:= .pointer (some ⟨bp,0,none⟩)) (W':=W) rfl ?_ (hK.out _ _ (hI.pure (by simp)))
   try dsimp only
   all_goals first | (go_simp; done) | (go_simp; rfl)}
  refine StepsInv.cons _ rfl (fun d u W K' hI hd hw hK=> ?_) ?_
  {have d4:=hI.vB (hw 4 (by kernel_rfl));refine Z0M (f:=92) (args:=#[.pointer (some ⟨bp,0,none⟩)]) (W':=W) rfl ?_ ((HN2.out W (HP1.out.below (hI.pre hd))).mono ?_)
   {try dsimp only
    go_simp}
   {rintro e W' ⟨rfl,h1,h2⟩;exact ⟨_,rfl,hK.out _ _ (hI.s3 hd h1 h2)⟩}}
  refine StepsInv.cons _ rfl (fun d u W K' hI hd hw hK=> ?_) ?_
  {refine Z02 (v:= .pointer (some ⟨w0.heap.size,1,none⟩)) (W':=W) rfl ?_ (hK.out _ _ (hI.pure (by simp)))
   try dsimp only
   go_simp}
  refine StepsInv.cons _ rfl (fun d u W K' hI hd hw hK=> ?_) ?_
  {have d4:=hI.v4 (hw 6 (by kernel_rfl));have d1:=hI.v1 (hw 1 (by kernel_rfl));obtain ⟨x0,x1,x2,x3,x4,x5,x6,x7,x8,xf,xl⟩:=HC2.out.up (hI.up hd) (by simp; omega);have f1:=xf 1;refine Z0B (W':=W.setCell ⟨w0.heap.size,1,none⟩ (.string ⟨y.1.toArray⟩)) rfl ?_ (hK.out _ _ (hI.s5 hd (hw 5 (by kernel_rfl)) (hw 1 (by kernel_rfl)) undef))
   try dsimp only
   go_simp}
  refine StepsInv.cons _ rfl (fun d u W K' hI hd hw hK=> ?_) ?_
  {refine Z02 (v:= .pointer (some ⟨w0.heap.size,2,none⟩)) (W':=W) rfl ?_ (hK.out _ _ (hI.pure (by simp)))
   try dsimp only
   go_simp}
  refine StepsInv.cons _ rfl (fun d u W K' hI hd hw hK=> ?_) StepsInv.nil
  {have d6:=hI.v6 (hw 8 (by kernel_rfl));have d3:=hI.v3 (hw 5 (by kernel_rfl));obtain ⟨Wm,k1,k2,k3⟩:=hI.late (hw 7 (by kernel_rfl));rw[hd,if_neg (by simp)] at k3;obtain ⟨x0,x1,x2,x3,x4,x5,x6,x7,x8,xf,xl⟩:=HC2.out.up k2 (by simp; omega);have c2:W.cell? ⟨w0.heap.size,2,none⟩=some (.string ⟨y.1.toArray⟩):=by rw[k3,World.cell?_setCell_other _ _ _ _ (fun e=>by have:=congrArg Addr.off e; simp at this)]; exact x2
   have f2:W.frozen? ⟨w0.heap.size,2,none⟩=false:=by rw[k3,World.frozen?_setCell]; exact xf 2
   have wl:w0.heap.size < W.heap.size:=by rw[k3]; simpa[World.setCell] using xl
   have h7:=hI.s7 hd (hw 7 (by kernel_rfl)) undef;clear k3 xf xl x0 x1 x2 x3 x4 x5 x6 x7 x8;refine Z0B (W':=W.setCell ⟨w0.heap.size,2,none⟩ (.string ⟨z.1.toArray⟩)) rfl ?_ (hK.out _ _ h7)
   try dsimp only
   go_simp}
  intro d u W hI hd;obtain ⟨Wm,k1,k2,k3⟩:=hI.late (hd 7 (by decide));rw[hd 9 (by decide),if_pos rfl] at k3;have HP2:=Y1 k1;have HU2:=Y1 (HU1.out.trans k2);obtain ⟨r0,r1,r2,r3,r4,r5,r6,r7,r8,rf,rl⟩:=HZ2.out.up k2 (by simp; omega);obtain ⟨x0,x1,x2,x3,x4,x5,x6,x7,x8,xf,xl⟩:=HC2.out.up k2 (by simp; omega);have f0:=rf 0;have f1:=rf 1;have f2:=rf 2;have f3:=rf 3;have f4:=rf 4;have f5:=rf 5;have f6:=rf 6;have f7:=rf 7;have f8:=rf 8;have hne:w.heap.size≠w0.heap.size:=by omega
  have hzm:w0.heap.size < Wm.heap.size:=xl;subst k3;clear k1 k2 hI hd rf xf HP1 HU1 HZ2 HC2;go_wp2;have hP:=(HP2.out.set ⟨w0.heap.size,1,none⟩ hbl (.string ⟨y.1.toArray⟩)).set ⟨w0.heap.size,2,none⟩ hbl (.string ⟨z.1.toArray⟩);have hU:=(HU2.out.set ⟨w0.heap.size,1,none⟩ (Or.inl (by simp only; omega)) (.string ⟨y.1.toArray⟩)).set ⟨w0.heap.size,2,none⟩ (Or.inl (by simp only; omega)) (.string ⟨z.1.toArray⟩);have hsz: ((Wm.setCell ⟨w0.heap.size,1,none⟩ (.string ⟨y.1.toArray⟩)).setCell ⟨w0.heap.size,2,none⟩ (.string ⟨z.1.toArray⟩)).heap.size=Wm.heap.size:=by simp[World.setCell]
  refine bodyPost_ret (v:=valT ⟨mkT ⟨5,y.1,z.1,0,a⟩ TR.none_,mkQ TR.none_,Wm.heap.size,Wm.heap.size⟩) (by simp[results,Tryz.results134,go_sem,valT,mkT,mkQ,TR.none_,r0,r1,r2,r3,r4,r5,r6,r7,r8,rl,hne]) rfl ?_;generalize (Wm.setCell ⟨w0.heap.size,1,none⟩ (.string ⟨y.1.toArray⟩)).setCell ⟨w0.heap.size,2,none⟩ (.string ⟨z.1.toArray⟩)=Wx at hP hU hsz ⊢;rw[<-hsz]
  {have hE:=end9 hP hU (Z2p Wx ⟨5,y.1,z.1,0,a⟩ ⟨hn1,hn2,by simp,HA.out,by simp⟩) (rb:=w.heap.size) (Nat.le_refl _) (Or.inl (by simp only; omega)) hbw;exact ⟨_,rfl,(hE _ _ _ _ _ _ _ _ _).1,(hE _ _ _ _ _ _ _ _ _).2.1,(hE _ _ _ _ _ _ _ _ _).2.2,by simp only; omega,rfl,Z1Y _⟩}}
theorem Z5O {W:World} {b:Nat} {o0 o1 o2 o3 o4 o5 o6 o7 o8:Value} (h:Nine W b o0 o1 o2 o3 o4 o5 o6 o7 o8) (v0 v1 v2 v3 v4 v5 v6 v7 v8:Value):Nine (Z10 W b v0 v1 v2 v3 v4 v5 v6 v7 v8) b v0 v1 v2 v3 v4 v5 v6 v7 v8:=by
 obtain ⟨c0,c1,c2,c3,c4,c5,c6,c7,c8,f,hl⟩:=h;refine ⟨?_, ?_, ?_, ?_, ?_, ?_, ?_, ?_, ?_,fun j=> ?_, ?_⟩
 all_goals simp[Z10,go_sem,c0,c1,c2,c3,c4,c5,c6,c7,c8,f,hl]
structure ESt (w:World) (bp:Nat) (A:Option Addr) (c:Nat) (l:List Tk) (τ:St) (q:Sh) (u1:Value) (W:World) (s:ES):Prop where
 u1:u1=valS s
 par:PAt W bp A c l τ
 is:s.Is W
 lo:w.heap.size<=s.lo
 t:s.t=q
structure EInv (w:World) (bp:Nat) (A:Option Addr) (c:Nat) (l:List Tk) (τ:St) (q:Sh) (ob:Nat) (x:ET) (a:Int) (d:Nat->Bool) (u:Nat->Value) (W:World):Prop where
 v0:d 0=true->u 0= .pointer (some ⟨bp,0,none⟩)
 v3:d 3=true->u 3=valT x
 v5:d 5=true->u 5= .int .i64 a
 e2:d 2=true->d 1=true
 e4:d 4=true->d 3=true
 e6:d 6=true->d 2=true/\d 4=true/\d 5=true
 e7:d 7=true->d 6=true
 pre:d 1=false->Below w.heap.size w W
 up:d 7=false->UpT [bp] w W
 s1:d 1=true->d 7=false-> ∃s,ESt w bp A c l τ q (u 1) W s/\(d 2=true-> ∃g,u 2= .slice (some ⟨g,0,none⟩) 1 1/\Row W w.heap.size 43 5 cS (some ⟨g,0,none⟩) 1 [s])
 s4:d 4=true->d 7=false-> ∃g,u 4= .slice (some ⟨g,0,none⟩) 1 1/\Row W w.heap.size 26 9 cT (some ⟨g,0,none⟩) 1 [x]
 v6:d 6=true-> ∃g g',u 2= .slice (some ⟨g,0,none⟩) 1 1/\u 4= .slice (some ⟨g',0,none⟩) 1 1/\u 6= .agg #[.int .i64 15,.string ⟨#[]⟩,.string ⟨#[]⟩,.int .i64 0,.slice none 0 0,.slice none 0 0,.slice (some ⟨g,0,none⟩) 1 1,.slice (some ⟨g',0,none⟩) 1 1,.int .i64 a]
 fin:d 7=true-> ∃Wm s g g' v,ESt w bp A c l τ q v Wm s/\Row Wm w.heap.size 43 5 cS (some ⟨g,0,none⟩) 1 [s]/\Row Wm w.heap.size 26 9 cT (some ⟨g',0,none⟩) 1 [x]/\UpT [bp] w Wm/\W=Z10 Wm ob (.int .i64 15) (.string ⟨#[]⟩) (.string ⟨#[]⟩) (.int .i64 0) (.slice none 0 0) (.slice none 0 0) (.slice (some ⟨g,0,none⟩) 1 1) (.slice (some ⟨g',0,none⟩) 1 1) (.int .i64 a)
section
variable {w : World} {bp : Nat} {A : Option Addr} {c : Nat} {l : List Tk} {τ : St} {q : Sh} {ob : Nat} {x : ET} {a : Int} {d : Nat -> Bool} {u : Nat -> Value} {W W' : World}
section
variable (h : EInv w bp A c l τ q ob x a d u W)
include h
theorem EInv.not7 {i:Nat} (hi:i≠0/\i < 8) (hd:d i=false) (h3:i=3\/i=1\/i=2\/i=4\/i=5\/i=6\/i=7):d 7=false:=by
 cases h7:d 7 with
 | false=>rfl
 | true=>
  have k6:=h.e7 h7;obtain ⟨k2,k4,k5⟩:=h.e6 k6;have k1:=h.e2 k2;have k3:=h.e4 k4;rcases h3 with rfl | rfl | rfl | rfl | rfl | rfl | rfl
  {rw[hd] at k3; cases k3}
  {rw[hd] at k1; cases k1}
  {rw[hd] at k2; cases k2}
  {rw[hd] at k4; cases k4}
  {rw[hd] at k5; cases k5}
  {rw[hd] at k6; cases k6}
  {rw[hd] at h7; cases h7}
theorem EInv.p0 (v:Value) (hv:v= .pointer (some ⟨bp,0,none⟩)):EInv w bp A c l τ q ob x a (also d 0) (upd u 0 v) W:=by
 have k: ∀j,j≠0->also d 0 j=d j/\upd u 0 v j=u j:=fun j hj=>⟨PtxT.ne9 d hj,Z06 u _ hj⟩;refine ⟨fun _=>by rw[Z09]; exact hv,(by rw[(k 3 (by omega)).1,(k 3 (by omega)).2]; exact h.v3),(by rw[(k 5 (by omega)).1,(k 5 (by omega)).2]; exact h.v5),(by rw[(k 2 (by omega)).1,(k 1 (by omega)).1]; exact h.e2),(by rw[(k 4 (by omega)).1,(k 3 (by omega)).1]; exact h.e4),(by rw[(k 6 (by omega)).1,(k 2 (by omega)).1,(k 4 (by omega)).1,(k 5 (by omega)).1]; exact h.e6),(by rw[(k 7 (by omega)).1,(k 6 (by omega)).1]; exact h.e7),(by rw[(k 1 (by omega)).1]; exact h.pre),(by rw[(k 7 (by omega)).1]; exact h.up),(by rw[(k 1 (by omega)).1,(k 7 (by omega)).1,(k 1 (by omega)).2,(k 2 (by omega)).1,(k 2 (by omega)).2]; exact h.s1),(by rw[(k 4 (by omega)).1,(k 7 (by omega)).1,(k 4 (by omega)).2]; exact h.s4),(by rw[(k 6 (by omega)).1,(k 2 (by omega)).2,(k 4 (by omega)).2,(k 6 (by omega)).2]; exact h.v6),(by rw[(k 7 (by omega)).1]; exact h.fin)⟩
theorem EInv.p3 (v:Value) (hv:v=valT x):EInv w bp A c l τ q ob x a (also d 3) (upd u 3 v) W:=by
 have k: ∀j,j≠3->also d 3 j=d j/\upd u 3 v j=u j:=fun j hj=>⟨PtxT.ne9 d hj,Z06 u _ hj⟩;refine ⟨(by rw[(k 0 (by omega)).1,(k 0 (by omega)).2]; exact h.v0),fun _=>by rw[Z09]; exact hv,(by rw[(k 5 (by omega)).1,(k 5 (by omega)).2]; exact h.v5),(by rw[(k 2 (by omega)).1,(k 1 (by omega)).1]; exact h.e2),(fun _=>PtxT.self9 _ _),(by rw[(k 6 (by omega)).1,(k 2 (by omega)).1,(k 4 (by omega)).1,(k 5 (by omega)).1]; exact h.e6),(by rw[(k 7 (by omega)).1,(k 6 (by omega)).1]; exact h.e7),(by rw[(k 1 (by omega)).1]; exact h.pre),(by rw[(k 7 (by omega)).1]; exact h.up),(by rw[(k 1 (by omega)).1,(k 7 (by omega)).1,(k 1 (by omega)).2,(k 2 (by omega)).1,(k 2 (by omega)).2]; exact h.s1),(by rw[(k 4 (by omega)).1,(k 7 (by omega)).1,(k 4 (by omega)).2]; exact h.s4),(by rw[(k 6 (by omega)).1,(k 2 (by omega)).2,(k 4 (by omega)).2,(k 6 (by omega)).2]; exact h.v6),(by rw[(k 7 (by omega)).1]; exact h.fin)⟩
theorem EInv.p5 (v:Value) (hv:v= .int .i64 a):EInv w bp A c l τ q ob x a (also d 5) (upd u 5 v) W:=by
 have k: ∀j,j≠5->also d 5 j=d j/\upd u 5 v j=u j:=fun j hj=>⟨PtxT.ne9 d hj,Z06 u _ hj⟩;refine ⟨(by rw[(k 0 (by omega)).1,(k 0 (by omega)).2]; exact h.v0),(by rw[(k 3 (by omega)).1,(k 3 (by omega)).2]; exact h.v3),fun _=>by rw[Z09]; exact hv,(by rw[(k 2 (by omega)).1,(k 1 (by omega)).1]; exact h.e2),(by rw[(k 4 (by omega)).1,(k 3 (by omega)).1]; exact h.e4),(by rw[(k 6 (by omega)).1,(k 2 (by omega)).1,(k 4 (by omega)).1]; exact fun e=>⟨(h.e6 e).1,(h.e6 e).2.1,PtxT.self9 _ _⟩),(by rw[(k 7 (by omega)).1,(k 6 (by omega)).1]; exact h.e7),(by rw[(k 1 (by omega)).1]; exact h.pre),(by rw[(k 7 (by omega)).1]; exact h.up),(by rw[(k 1 (by omega)).1,(k 7 (by omega)).1,(k 1 (by omega)).2,(k 2 (by omega)).1,(k 2 (by omega)).2]; exact h.s1),(by rw[(k 4 (by omega)).1,(k 7 (by omega)).1,(k 4 (by omega)).2]; exact h.s4),(by rw[(k 6 (by omega)).1,(k 2 (by omega)).2,(k 4 (by omega)).2,(k 6 (by omega)).2]; exact h.v6),(by rw[(k 7 (by omega)).1]; exact h.fin)⟩
theorem EInv.c1 (hd:d 1=false) (hbw:bp < w.heap.size) {s:ES} (v:Value) (hu:UpT [bp] W W') (hs:ESt w bp A c l τ q v W' s):EInv w bp A c l τ q ob x a (also d 1) (upd u 1 v) W':=by
 have k: ∀j,j≠1->also d 1 j=d j/\upd u 1 v j=u j:=fun j hj=>⟨PtxT.ne9 d hj,Z06 u _ hj⟩;have d2:d 2=false:=by cases e:d 2 with | false=>rfl | true=>have:=h.e2 e; rw[hd] at this; cases this
 have d7:=h.not7 (i:=1) (by omega) hd (by omega);refine ⟨(by rw[(k 0 (by omega)).1,(k 0 (by omega)).2]; exact h.v0),(by rw[(k 3 (by omega)).1,(k 3 (by omega)).2]; exact h.v3),(by rw[(k 5 (by omega)).1,(k 5 (by omega)).2]; exact h.v5),(fun _=>PtxT.self9 _ _),(by rw[(k 4 (by omega)).1,(k 3 (by omega)).1]; exact h.e4),(by rw[(k 6 (by omega)).1,(k 2 (by omega)).1,(k 4 (by omega)).1,(k 5 (by omega)).1]; exact h.e6),(by rw[(k 7 (by omega)).1,(k 6 (by omega)).1]; exact h.e7),(by rw[PtxT.self9]; intro e; cases e),(fun _=>(h.up d7).trans hu),(fun _ _=>⟨s,by rw[Z09]; exact hs,by rw[(k 2 (by omega)).1,d2]; intro e; cases e⟩),(by
  rw[(k 4 (by omega)).1,(k 4 (by omega)).2];intro h4 _;obtain ⟨g,e1,e2⟩:=h.s4 h4 d7;exact ⟨g,e1,e2.up hu (fun y hy=>by simp at hy; subst hy; intro e; have:=e2.lt _ e; omega)⟩),(by rw[(k 6 (by omega)).1,(k 2 (by omega)).2,(k 4 (by omega)).2,(k 6 (by omega)).2]; exact h.v6),(by rw[(k 7 (by omega)).1,d7]; intro e; cases e)⟩
theorem EInv.c2 (hd:d 2=false) (h1:d 1=true) {s:ES} {g:Nat} (v:Value) (hb:Below W.heap.size W W') (hs:ESt w bp A c l τ q (u 1) W s) (hv:v= .slice (some ⟨g,0,none⟩) 1 1) (hr:Row W' w.heap.size 43 5 cS (some ⟨g,0,none⟩) 1 [s]):EInv w bp A c l τ q ob x a (also d 2) (upd u 2 v) W':=by
 have k: ∀j,j≠2->also d 2 j=d j/\upd u 2 v j=u j:=fun j hj=>⟨PtxT.ne9 d hj,Z06 u _ hj⟩;have d7:=h.not7 (i:=2) (by omega) hd (by omega);have d6:d 6=false:=by cases e:d 6 with | false=>rfl | true=>have:=(h.e6 e).1; rw[hd] at this; cases this
 refine ⟨(by rw[(k 0 (by omega)).1,(k 0 (by omega)).2]; exact h.v0),(by rw[(k 3 (by omega)).1,(k 3 (by omega)).2]; exact h.v3),(by rw[(k 5 (by omega)).1,(k 5 (by omega)).2]; exact h.v5),(by rw[(k 1 (by omega)).1]; exact fun _=>h1),(by rw[(k 4 (by omega)).1,(k 3 (by omega)).1]; exact h.e4),(by rw[(k 6 (by omega)).1,d6]; intro e; cases e),(by rw[(k 7 (by omega)).1,(k 6 (by omega)).1]; exact h.e7),(by rw[(k 1 (by omega)).1,h1]; intro e; cases e),(fun _=>(h.up d7).below hb),(fun _ _=>⟨s,by rw[(k 1 (by omega)).2]; exact ⟨hs.u1,hs.par.below hb,New.below hs.is hb,hs.lo,hs.t⟩,fun _=>⟨g,by rw[Z09]; exact hv,hr⟩⟩),(by
  rw[(k 4 (by omega)).1,(k 4 (by omega)).2];intro h4 _;obtain ⟨g,e1,e2⟩:=h.s4 h4 d7;exact ⟨g,e1,e2.below hb⟩),(by rw[(k 6 (by omega)).1,d6]; intro e; cases e),(by rw[(k 7 (by omega)).1,d7]; intro e; cases e)⟩
theorem EInv.c4 (hd:d 4=false) (h3:d 3=true) {g:Nat} (v:Value) (hb:Below W.heap.size W W') (hv:v= .slice (some ⟨g,0,none⟩) 1 1) (hr:Row W' w.heap.size 26 9 cT (some ⟨g,0,none⟩) 1 [x]):EInv w bp A c l τ q ob x a (also d 4) (upd u 4 v) W':=by
 have k: ∀j,j≠4->also d 4 j=d j/\upd u 4 v j=u j:=fun j hj=>⟨PtxT.ne9 d hj,Z06 u _ hj⟩;have d7:=h.not7 (i:=4) (by omega) hd (by omega);have d6:d 6=false:=by cases e:d 6 with | false=>rfl | true=>have:=(h.e6 e).2.1; rw[hd] at this; cases this
 refine ⟨(by rw[(k 0 (by omega)).1,(k 0 (by omega)).2]; exact h.v0),(by rw[(k 3 (by omega)).1,(k 3 (by omega)).2]; exact h.v3),(by rw[(k 5 (by omega)).1,(k 5 (by omega)).2]; exact h.v5),(by rw[(k 2 (by omega)).1,(k 1 (by omega)).1]; exact h.e2),(by rw[(k 3 (by omega)).1]; exact fun _=>h3),(by rw[(k 6 (by omega)).1,d6]; intro e; cases e),(by rw[(k 7 (by omega)).1,(k 6 (by omega)).1]; exact h.e7),(by rw[(k 1 (by omega)).1]; exact fun e=>(Z00 (h.pre e) hb)),(fun _=>(h.up d7).below hb),(by
  rw[(k 1 (by omega)).1,(k 1 (by omega)).2,(k 2 (by omega)).1,(k 2 (by omega)).2];intro h1 _;obtain ⟨s,hs,h2⟩:=h.s1 h1 d7;refine ⟨s,⟨hs.u1,hs.par.below hb,New.below hs.is hb,hs.lo,hs.t⟩,fun e=> ?_⟩;obtain ⟨g,e1,e2⟩:=h2 e;exact ⟨g,e1,e2.below hb⟩),(fun _ _=>⟨g,by rw[Z09]; exact hv,hr⟩),(by rw[(k 6 (by omega)).1,d6]; intro e; cases e),(by rw[(k 7 (by omega)).1,d7]; intro e; cases e)⟩
theorem EInv.c6 (hd:d 6=false) (h2:d 2=true) (h4:d 4=true) (h5:d 5=true) {g g':Nat} (v:Value) (u2:u 2= .slice (some ⟨g,0,none⟩) 1 1) (u4:u 4= .slice (some ⟨g',0,none⟩) 1 1) (hv:v= .agg #[.int .i64 15,.string ⟨#[]⟩,.string ⟨#[]⟩,.int .i64 0,.slice none 0 0,.slice none 0 0,.slice (some ⟨g,0,none⟩) 1 1,.slice (some ⟨g',0,none⟩) 1 1,.int .i64 a]):EInv w bp A c l τ q ob x a (also d 6) (upd u 6 v) W:=by
 have k: ∀j,j≠6->also d 6 j=d j/\upd u 6 v j=u j:=fun j hj=>⟨PtxT.ne9 d hj,Z06 u _ hj⟩;refine ⟨(by rw[(k 0 (by omega)).1,(k 0 (by omega)).2]; exact h.v0),(by rw[(k 3 (by omega)).1,(k 3 (by omega)).2]; exact h.v3),(by rw[(k 5 (by omega)).1,(k 5 (by omega)).2]; exact h.v5),(by rw[(k 2 (by omega)).1,(k 1 (by omega)).1]; exact h.e2),(by rw[(k 4 (by omega)).1,(k 3 (by omega)).1]; exact h.e4),(by rw[(k 2 (by omega)).1,(k 4 (by omega)).1,(k 5 (by omega)).1]; exact fun _=>⟨h2,h4,h5⟩),(fun _=>PtxT.self9 _ _),(by rw[(k 1 (by omega)).1]; exact h.pre),(by rw[(k 7 (by omega)).1]; exact h.up),(by rw[(k 1 (by omega)).1,(k 7 (by omega)).1,(k 1 (by omega)).2,(k 2 (by omega)).1,(k 2 (by omega)).2]; exact h.s1),(by rw[(k 4 (by omega)).1,(k 7 (by omega)).1,(k 4 (by omega)).2]; exact h.s4),(fun _=>⟨g,g',by rw[(k 2 (by omega)).2]; exact u2,by rw[(k 4 (by omega)).2]; exact u4,by rw[Z09]; exact hv⟩),(by rw[(k 7 (by omega)).1]; exact h.fin)⟩
theorem EInv.c7 (hd:d 7=false) (h6:d 6=true) {s:ES} {g g':Nat} (v:Value) (hs:ESt w bp A c l τ q (u 1) W s) (hr:Row W w.heap.size 43 5 cS (some ⟨g,0,none⟩) 1 [s]) (hr':Row W w.heap.size 26 9 cT (some ⟨g',0,none⟩) 1 [x]):EInv w bp A c l τ q ob x a (also d 7) (upd u 7 v) (Z10 W ob (.int .i64 15) (.string ⟨#[]⟩) (.string ⟨#[]⟩) (.int .i64 0) (.slice none 0 0) (.slice none 0 0) (.slice (some ⟨g,0,none⟩) 1 1) (.slice (some ⟨g',0,none⟩) 1 1) (.int .i64 a)):=by
 have k: ∀j,j≠7->also d 7 j=d j/\upd u 7 v j=u j:=fun j hj=>⟨PtxT.ne9 d hj,Z06 u _ hj⟩;refine ⟨(by rw[(k 0 (by omega)).1,(k 0 (by omega)).2]; exact h.v0),(by rw[(k 3 (by omega)).1,(k 3 (by omega)).2]; exact h.v3),(by rw[(k 5 (by omega)).1,(k 5 (by omega)).2]; exact h.v5),(by rw[(k 2 (by omega)).1,(k 1 (by omega)).1]; exact h.e2),(by rw[(k 4 (by omega)).1,(k 3 (by omega)).1]; exact h.e4),(by rw[(k 6 (by omega)).1,(k 2 (by omega)).1,(k 4 (by omega)).1,(k 5 (by omega)).1]; exact h.e6),(by rw[(k 6 (by omega)).1]; exact fun _=>h6),(by rw[(k 1 (by omega)).1,h.e2 (h.e6 h6).1]; intro e; cases e),(by rw[PtxT.self9]; intro e; cases e),(by rw[PtxT.self9]; intro _ e; cases e),(by rw[PtxT.self9]; intro _ e; cases e),(by rw[(k 6 (by omega)).1,(k 2 (by omega)).2,(k 4 (by omega)).2,(k 6 (by omega)).2]; exact h.v6),(fun _=>⟨W,s,g,g',_,hs,hr,hr',h.up hd,rfl⟩)⟩
end
end
theorem Z7H (bp:Nat) (A:Option Addr) (c:Nat) (l:List Tk) (m:Nat) (σ:St) (a:Int) (hl:TokOk l) (ha: -9223372036854775808<=a/\a<=9223372036854775807) (hσ:Ok l σ) (hE:ExC bp A c l m) (hm:l.length - σ.1 < m) (w:World) (h:PAt w bp A c l σ):
 Calls Tryz.prog 129 #[.pointer (some ⟨bp,0,none⟩),.int .i64 a] w (TmIs bp A c l (Pso.enclosedE l (Pso.expr l m) σ a) w):=by
 have hbw:=h.lt;have HLEN:=hl.len;have t1:=Pso.to_expr m _ hσ;have hb0:=Z01 w (.cells Ya 26);have hz0:=Z0h w (.int .i64 0) (.string ⟨#[]⟩) (.string ⟨#[]⟩) (.int .i64 0) (.slice none 0 0) (.slice none 0 0) (.slice none 0 0) (.slice none 0 0) (.int .i64 0) 26;have HEX:=Y1 (hE _ σ hσ hm (h.below hb0));have HB0:=Y1 hb0;have HZ0:=Y1 hz0;have HL:=Y1 hl;have HA:=Y1 ha;have HT1:=Y1 t1;clear h hb0 hz0 hl ha hE hm;cases hs:Prs.sign l (Pso.expr l m σ).2.1 [97,115]
 {have HF:Hid (Pso.enclosedE l (Pso.expr l m) σ a=((Pso.expr l m σ).1,want l (Pso.expr l m σ).2 [41])):=Y1 (by unfold Pso.enclosedE; simp only; rw[hs]; rfl);rw[HF.out];have HPN:=Y1 (fun (w:World) (h:PAt w bp A c l (Pso.expr l m σ).2) (b:Nat) (hb:b=w.heap.size)=>Z0C hs HLEN t1.1.1 w h (hb0:=hb));have HW:=Y1 (fun (w:World) (h:PAt w bp A c l (Pso.expr l m σ).2)=>Z0d bp A c l _ [41] (by omega) t1.1.1 w h);obtain ⟨y,hy⟩: ∃y,y=Pso.expr l m σ:=⟨_,rfl⟩;rw[<-hy] at HEX HPN HW ⊢;clear hs t1 HF HT1 hy;go_enter Tryz.func129,Tryz.ntmps129
  go_wp2_with fail
  refine HEX.out.mono ?_;rintro e w1 ⟨x,rfl,hp1,hu1,hx,hlo,hxt⟩;have hlo1:w.heap.size+1<=x.lo:=by simpa using hlo
  have hs1:w.heap.size+1<=w1.heap.size:=by have:=hu1.size; simpa using this
  have HP1:=Y1 (hp1.alloc (.cells (Y7 x.t x.q) 26));have HU1:=Y1 (((Z05 (F:= [bp]) HB0.out).trans hu1).alloc (.cells (Y7 x.t x.q) 26));have HX1:=Y1 (show x.Is _ from New.below hx (Z01 w1 (.cells (Y7 x.t x.q) 26)));have HC1:=Y1 (Z0h w1 (.int .i64 x.t.kind) (.string ⟨x.t.of_.toArray⟩) (.string ⟨x.t.name.toArray⟩) (.int .i64 x.t.n) (.slice x.q.A x.t.names.length x.q.c) (.slice x.q.V x.t.vars.length x.q.e) (.slice x.q.S x.t.shapes.length x.q.s) (.slice x.q.P x.t.parts.length x.q.d) (.int .i64 x.t.at_) 26);have HZ1:=Y1 ((HZ0.out.up hu1 (by simp; omega)).below (Z01 w1 (.cells (Y7 x.t x.q) 26)));have hbl:bp < w1.heap.size:=hp1.lt;have HXT:=Y1 hxt;clear hp1 hu1 hx hlo hxt HEX HZ0 HB0;simp only[valT]
  go_wp2_with fail
  have HZW:=Y1 (show w1.heap.size+1=(w1.alloc (.cells (Y7 x.t x.q) 26)).heap.size by simp);generalize w1.alloc (.cells (Y7 x.t x.q) 26)=W1 at HZW HP1 HU1 HX1 HC1 HZ1 ⊢;refine (HPN.out W1 HP1.out _ HZW.out).mono ?_;rintro e w2 ⟨rfl,hp2,hu2⟩;have HP2:=Y1 hp2;have HU2:=Y1 (HU1.out.trans hu2);have HX2:=Y1 (show x.Is w2 from New.up HX1.out hu2 (by simp; omega));have HC2:=Y1 (HC1.out.up hu2 (by simp; omega));have HZ2:=Y1 (HZ1.out.up hu2 (by simp; omega));clear hp2 hu2 HPN HP1 HU1 HX1 HC1 HZ1
  go_wp2_with fail
  refine (HW.out w2 HP2.out).mono ?_;rintro e w3 ⟨v3,rfl,hp3,hu3⟩;have HP3:=Y1 hp3;have HU3:=Y1 (HU2.out.trans hu3);have HX3:=Y1 (show x.Is w3 from New.up HX2.out hu3 (by simp; omega));obtain ⟨r0,r1,r2,r3,r4,r5,r6,r7,r8,rf,rl⟩:=HZ2.out.up hu3 (by simp; omega);obtain ⟨x0,x1,x2,x3,x4,x5,x6,x7,x8,xf,xl⟩:=HC2.out.up hu3 (by simp; omega);have f0:=rf 0;have f1:=rf 1;have f2:=rf 2;have f3:=rf 3;have f4:=rf 4;have f5:=rf 5;have f6:=rf 6;have f7:=rf 7;have f8:=rf 8;clear hp3 hu3 HW HP2 HU2 HX2 HC2 HZ2 rf xf;go_wp2;refine bodyPost_ret (v:=valT x) (by simp[results,Tryz.results129,go_sem,valT,r0,r1,r2,r3,r4,r5,r6,r7,r8,rl]) rfl ?_;have hE:=end9 HP3.out HU3.out HX3.out (rb:=w.heap.size) (Nat.le_refl _) (Or.inl (by omega)) hbw;exact ⟨x,rfl,(hE _ _ _ _ _ _ _ _ _).1,(hE _ _ _ _ _ _ _ _ _).2.1,(hE _ _ _ _ _ _ _ _ _).2.2,by omega,HXT.out⟩}
 {have HF:Hid (Pso.enclosedE l (Pso.expr l m) σ a=({ Prs.tm 15 a with shapes:= [(Pso.wholeT l ((Pso.expr l m σ).2.1+1,(Pso.expr l m σ).2.2)).1],parts:= [(Pso.expr l m σ).1] },want l (Pso.wholeT l ((Pso.expr l m σ).2.1+1,(Pso.expr l m σ).2.2)).2 [41])):=Y1 (by unfold Pso.enclosedE; simp only; rw[hs]; rfl);rw[HF.out];have HPY:=Y1 (fun (w:World) (h:PAt w bp A c l (Pso.expr l m σ).2) (b:Nat) (hb:b=w.heap.size)=>Z0N hs HLEN t1.1.1 w h (hb0:=hb));have t2:=Pso.to_next t1.1 (Pso.sign_lt hs);have t3:=Pso.to_wholeT _ t2.1;have HWT:=Y1 (fun (w:World) (h:PAt w bp A c l ((Pso.expr l m σ).2.1+1,(Pso.expr l m σ).2.2))=>Z0P bp A c l HLEN HL.out.txt _ t2.1 w h);have HW:=Y1 (fun (w:World) (h:PAt w bp A c l (Pso.wholeT l ((Pso.expr l m σ).2.1+1,(Pso.expr l m σ).2.2)).2)=>Z0d bp A c l _ [41] (by omega) t3.1.1 w h);obtain ⟨z,hz⟩: ∃z,z=Pso.wholeT l ((Pso.expr l m σ).2.1+1,(Pso.expr l m σ).2.2):=⟨_,rfl⟩;rw[<-hz] at HWT HW ⊢;obtain ⟨y,hy⟩: ∃y,y=Pso.expr l m σ:=⟨_,rfl⟩;rw[<-hy] at HEX HPY HWT ⊢;clear hs t1 t2 t3 HF HT1 hy hz;go_enter Tryz.func129,Tryz.ntmps129
  go_wp2_with fail
  refine HEX.out.mono ?_;rintro e w1 ⟨x,rfl,hp1,hu1,hx,hlo,hxt⟩;have hlo1:w.heap.size+1<=x.lo:=by simpa using hlo
  have hs1:w.heap.size+1<=w1.heap.size:=by have:=hu1.size; simpa using this
  have hxh:x.hi<=w1.heap.size:=hx.hi_;have HP1:=Y1 (hp1.alloc (.cells (Y7 x.t x.q) 26));have HU1:=Y1 (((Z05 (F:= [bp]) HB0.out).trans hu1).alloc (.cells (Y7 x.t x.q) 26));have HX1:=Y1 (show x.Is _ from New.below hx (Z01 w1 (.cells (Y7 x.t x.q) 26)));have HC1:=Y1 (Z0h w1 (.int .i64 x.t.kind) (.string ⟨x.t.of_.toArray⟩) (.string ⟨x.t.name.toArray⟩) (.int .i64 x.t.n) (.slice x.q.A x.t.names.length x.q.c) (.slice x.q.V x.t.vars.length x.q.e) (.slice x.q.S x.t.shapes.length x.q.s) (.slice x.q.P x.t.parts.length x.q.d) (.int .i64 x.t.at_) 26);have HZ1:=Y1 ((HZ0.out.up hu1 (by simp; omega)).below (Z01 w1 (.cells (Y7 x.t x.q) 26)));have hbl:bp < w1.heap.size:=hp1.lt;have HXT:=Y1 hxt;clear hp1 hu1 hx hlo hxt HEX HZ0 HB0;simp only[valT]
  go_wp2_with fail
  have HZW:=Y1 (show w1.heap.size+1=(w1.alloc (.cells (Y7 x.t x.q) 26)).heap.size by simp);generalize w1.alloc (.cells (Y7 x.t x.q) 26)=W1 at HZW HP1 HU1 HX1 HC1 HZ1 ⊢;refine (HPY.out W1 HP1.out _ HZW.out).mono ?_;rintro e w2 ⟨rfl,hp2,hu2⟩;have HP2:=Y1 hp2;have HU2:=Y1 (HU1.out.trans hu2);have HX2:=Y1 (show x.Is w2 from New.up HX1.out hu2 (by simp; omega));have HC2:=Y1 (HC1.out.up hu2 (by simp; omega));have HZ2:=Y1 (HZ1.out.up hu2 (by simp; omega));have hz2:w1.heap.size < w2.heap.size:=HC2.out.lt;clear hp2 hu2 HPY HP1 HU1 HX1 HC1 HZ1
  go_wp2_with fail
  refine Z2c (rs:= [0,1,2,3,4,5,6,7]) (fun u=> { tmps:=#[.pointer (some ⟨bp,0,none⟩),.int .i64 a,undef,undef,.pointer (some ⟨w.heap.size,0,none⟩),.pointer (some ⟨w1.heap.size,0,none⟩),.pointer (some ⟨bp,0,none⟩),.agg (Y7 x.t x.q),.pointer (some ⟨bp,0,none⟩),.pointer (some ⟨bp,0,none⟩),.pointer (some ⟨bp,0,none⟩),.slice (some ⟨w1.heap.size+1,0,none⟩) 1 1,.bool true,u 0,u 1,u 2,u 3,u 4,u 5,u 6,undef,undef,undef,undef,undef,undef],defers:= [] }) (fun _=>undef)
   (EInv w2 bp A c l z.2 z.1 w1.heap.size x a) (by kernel_rfl) (by kernel_rfl) (by kernel_rfl) ⟨nofun,nofun,nofun,nofun,nofun,nofun,nofun,fun _=>Y2.drew,fun _=>(UpT.refl _ _).drew,nofun,nofun,nofun,nofun⟩ ?_ ?_
  refine StepsInv.cons _ rfl (fun d u W K' hI hd hw hK=> ?_) ?_
  {refine Z02 (v:= .pointer (some ⟨bp,0,none⟩)) (W':=W) rfl ?_ (hK.out _ _ (hI.p0 _ rfl))
   try dsimp only
   go_simp}
  refine StepsInv.cons _ rfl (fun d u W K' hI hd hw hK=> ?_) ?_
  {have d0:=hI.v0 (hw 0 (by kernel_rfl));have hpre:=hI.pre hd;refine Z0M (f:=39) (args:=#[.pointer (some ⟨bp,0,none⟩)]) (W':=W) rfl ?_ ((HWT.out W (HP2.out.below hpre)).mono ?_)
   {try dsimp only
    go_simp}
   {rintro e W' ⟨s,rfl,h1,h2,h3,h4,h5⟩;exact ⟨_,rfl,hK.out _ _ (hI.c1 hd (by omega) _ h2 ⟨rfl,h1,h3,Nat.le_trans hpre.size h4,h5⟩)⟩}}
  refine StepsInv.cons _ rfl (fun d u W K' hI hd hw hK=> ?_) ?_
  {have k1:=hw 1 (by kernel_rfl);have d7:=hI.not7 (i:=2) (by omega) hd (by omega);obtain ⟨s,hs,_⟩:=hI.s1 k1 d7;have d1:=hs.u1;simp only[valS] at d1;refine Z02 (v:= .slice (some ⟨W.heap.size,0,none⟩) 1 1) (W':=W.alloc (.cells (Y8 s.t s.q) 43)) rfl ?_ (hK.out _ _ (hI.c2 hd k1 _ (Z01 _ _) hs rfl (Row.one s (hI.up d7).size)))
   try dsimp only
   go_simp}
  refine StepsInv.cons _ rfl (fun d u W K' hI hd hw hK=> ?_) ?_
  {obtain ⟨x0,x1,x2,x3,x4,x5,x6,x7,x8,xf,xl⟩:=HC2.out.up (hI.up (hI.not7 (i:=3) (by omega) hd (by omega))) (by simp; omega);refine Z02 (v:=valT x) (W':=W) rfl ?_ (hK.out _ _ (hI.p3 _ rfl));simp only[valT]
   try dsimp only
   go_simp}
  refine StepsInv.cons _ rfl (fun d u W K' hI hd hw hK=> ?_) ?_
  {have k3:=hw 3 (by kernel_rfl);have d3:=hI.v3 k3;simp only[valT] at d3;have d7:=hI.not7 (i:=4) (by omega) hd (by omega);refine Z02 (v:= .slice (some ⟨W.heap.size,0,none⟩) 1 1) (W':=W.alloc (.cells (Y7 x.t x.q) 26)) rfl ?_ (hK.out _ _ (hI.c4 hd k3 _ (Z01 _ _) rfl (Row.oneT x (hI.up d7).size)))
   try dsimp only
   go_simp}
  refine StepsInv.cons _ rfl (fun d u W K' hI hd hw hK=> ?_) ?_
  {refine Z02 (v:= .int .i64 a) (W':=W) rfl ?_ (hK.out _ _ (hI.p5 _ rfl))
   try dsimp only
   go_simp}
  refine StepsInv.cons _ rfl (fun d u W K' hI hd hw hK=> ?_) ?_
  {have k2:=hw 2 (by kernel_rfl);have k4:=hw 4 (by kernel_rfl);have k5:=hw 5 (by kernel_rfl);have d7:=hI.not7 (i:=6) (by omega) hd (by omega);obtain ⟨s,hs,h2⟩:=hI.s1 (hI.e2 k2) d7;obtain ⟨g,d2,_⟩:=h2 k2;obtain ⟨g',d4,_⟩:=hI.s4 k4 d7;have d5:=hI.v5 k5;refine Z02 (v:= .agg #[.int .i64 15,.string ⟨#[]⟩,.string ⟨#[]⟩,.int .i64 0,.slice none 0 0,.slice none 0 0,.slice (some ⟨g,0,none⟩) 1 1,.slice (some ⟨g',0,none⟩) 1 1,.int .i64 a]) (W':=W) rfl ?_ (hK.out _ _ (hI.c6 hd k2 k4 k5 _ d2 d4 rfl))
   try dsimp only
   go_simp}
  refine StepsInv.cons _ rfl (fun d u W K' hI hd hw hK=> ?_) StepsInv.nil
  {have k6:=hw 6 (by kernel_rfl);obtain ⟨k2,k4,k5⟩:=hI.e6 k6;obtain ⟨s,hs,h2⟩:=hI.s1 (hI.e2 k2) hd;obtain ⟨g1,d2,hr1⟩:=h2 k2;obtain ⟨g2,d4,hr2⟩:=hI.s4 k4 hd;obtain ⟨g,g',e2,e4,d6⟩:=hI.v6 k6;rw[d2] at e2;rw[d4] at e4;simp only[Value.slice.injEq,Option.some.injEq,Addr.mk.injEq,and_true] at e2 e4;obtain rfl:=e2;obtain rfl:=e4;obtain ⟨x0,x1,x2,x3,x4,x5,x6,x7,x8,xf,xl⟩:=HC2.out.up (hI.up hd) (by simp; omega);have f0:=xf 0;have f1:=xf 1;have f2:=xf 2;have f3:=xf 3;have f4:=xf 4;have f5:=xf 5;have f6:=xf 6;have f7:=xf 7;have f8:=xf 8;have h7:=hI.c7 hd k6 undef hs hr1 hr2;clear xf d2 d4;refine Z0B (W':=Z10 W w1.heap.size (.int .i64 15) (.string ⟨#[]⟩) (.string ⟨#[]⟩) (.int .i64 0) (.slice none 0 0) (.slice none 0 0) (.slice (some ⟨g1,0,none⟩) 1 1) (.slice (some ⟨g2,0,none⟩) 1 1) (.int .i64 a)) rfl ?_ (hK.out _ _ h7)
   try dsimp only
   go_simp
   try rfl}
  intro d u W hI hd;obtain ⟨Wm,s,g,g',v,k1,k2,k3,k4,k5⟩:=hI.fin (hd 7 (by decide));have u1:UpT [w1.heap.size] Wm W:=by rw[k5]; exact Z1X (UpT.refl _ _) (Or.inr (by simp)) _ _ _ _ _ _ _ _ _
  have hzm:=k4.size;have hwm:w1.heap.size < Wm.heap.size:=by omega
  have HP3:=Y1 (k1.par.keep u1 (by simp; omega));have HU3:=Y1 (show UpT [bp] w W by rw[k5]; exact Z1X (HU2.out.trans k4) (Or.inl (by omega)) _ _ _ _ _ _ _ _ _);have HR1:=Y1 (k2.up u1 (fun b hb e=>by simp at hb; subst hb; have:=k2.lt _ e; omega));have HR2:=Y1 (k3.up u1 (fun b hb e=>by simp at hb; subst hb; have:=k3.lt _ e; omega));have HS3:=Y1 (show s.Is W from New.up k1.is u1 (by simp; have:=k1.lo; omega));have HSL:Hid (w2.heap.size<=s.lo/\s.t=z.1):=Y1 ⟨k1.lo,k1.t⟩;have HX3:=Y1 (show x.Is W from New.up (New.up HX2.out k4 (by simp; omega)) u1 (by simp; omega));have HC3:=Y1 (show Nine W w1.heap.size (.int .i64 15) (.string ⟨#[]⟩) (.string ⟨#[]⟩) (.int .i64 0) (.slice none 0 0) (.slice none 0 0) (.slice (some ⟨g,0,none⟩) 1 1) (.slice (some ⟨g',0,none⟩) 1 1) (.int .i64 a) by rw[k5]; exact Z5O (HC2.out.up k4 (by simp; omega)) _ _ _ _ _ _ _ _ _);have HZ3:=Y1 ((HZ2.out.up k4 (by simp; omega)).up u1 (by simp; omega));have hz3:w2.heap.size<=W.heap.size:=Nat.le_trans hzm u1.size;clear hI hd k1 k2 k3 k4 k5 u1 hzm hwm HP2 HU2 HX2 HC2 HZ2
  go_wp2_with fail
  refine (HW.out W HP3.out).mono ?_;rintro e w4 ⟨v4,rfl,hp4,hu4⟩;have HP4:=Y1 hp4;have HU4:=Y1 (HU3.out.trans hu4);have HX4:=Y1 (show x.Is w4 from New.up HX3.out hu4 (by simp; omega));have HS4:=Y1 (show s.Is w4 from New.up HS3.out hu4 (by simp; have:=HSL.out.1; omega));have HR3:=Y1 (HR1.out.up hu4 (fun b hb e=>by simp at hb; subst hb; have:=HR1.out.lt _ e; omega));have HR4:=Y1 (HR2.out.up hu4 (fun b hb e=>by simp at hb; subst hb; have:=HR2.out.lt _ e; omega));obtain ⟨r0,r1,r2,r3,r4,r5,r6,r7,r8,rf,rl⟩:=HZ3.out.up hu4 (by simp; omega);obtain ⟨x0,x1,x2,x3,x4,x5,x6,x7,x8,xf,xl⟩:=HC3.out.up hu4 (by simp; omega);have f0:=rf 0;have f1:=rf 1;have f2:=rf 2;have f3:=rf 3;have f4:=rf 4;have f5:=rf 5;have f6:=rf 6;have f7:=rf 7;have f8:=rf 8;clear hp4 hu4 HW rf xf HP3 HU3 HX3 HC3 HZ3 HS3 HR1 HR2;go_wp2;refine bodyPost_ret (v:=valT ⟨mkT ⟨15,[],[],0,a⟩ ⟨none,0,[],none,0,[],some ⟨g,0,none⟩,1,[s],some ⟨g',0,none⟩,1,[x]⟩,mkQ ⟨none,0,[],none,0,[],some ⟨g,0,none⟩,1,[s],some ⟨g',0,none⟩,1,[x]⟩,w.heap.size+1,w4.heap.size⟩) (by simp[results,Tryz.results129,go_sem,valT,mkT,mkQ,r0,r1,r2,r3,r4,r5,r6,r7,r8,rl]) rfl ?_;have hn:=Z6k (W:=w4) (B:=w.heap.size+1) ⟨15,[],[],0,a⟩ ⟨none,0,[],none,0,[],some ⟨g,0,none⟩,1,[s],some ⟨g',0,none⟩,1,[x]⟩ ⟨by simp,by simp,by simp,HA.out,by simp⟩ (Row.start _ _ _ _ _) (Row.start _ _ _ _ _) (Z2n HR3.out (by omega)) (Z2n HR4.out (by omega))
   (fun b hb=>by
    have e:b=s:=by simpa using hb
    rw[e]; exact ⟨HS4.out,by have:=HSL.out.1; omega⟩) (fun b hb=>by
    have e:b=x:=by simpa using hb
    rw[e]; exact ⟨HX4.out,hlo1⟩) nofun nofun ⟨by simp,by simp,by simp,by simp⟩
  have hE:=end9 HP4.out HU4.out hn (rb:=w.heap.size) (Nat.le_refl _) (Or.inl (by simp only; omega)) hbw;exact ⟨_,rfl,(hE _ _ _ _ _ _ _ _ _).1,(hE _ _ _ _ _ _ _ _ _).2.1,(hE _ _ _ _ _ _ _ _ _).2.2,by simp only; omega,by
   rw[<-HSL.out.2, <-HXT.out.1]; rfl,Z1E _ _ (Nat.zero_le _) (fun b hb=>by
    have e:b=x:=by simpa using hb
    rw[e]; exact HXT.out.2)⟩}
end
end Go.Proofs.YtkncdbaoaeeoiaaGreatDoor
namespace Lex
theorem ZbU {c:UInt8} (h:digit c=true):lumpB c=true:=by unfold lumpB; rw[h]; simp
theorem Za7 {c:UInt8} (h:digit c=true):small c=false/\great c=false/\blank c=false:=by
 unfold digit at h;simp only[Bool.and_eq_true,decide_eq_true_eq] at h;refine ⟨?_, ?_, ?_⟩
 {unfold small; simp; omega}
 {unfold great; simp; omega}
 {unfold blank;have k: ∀n:UInt8,(c==n)=true->c.toNat=n.toNat:=fun n e=>by rw[eq_of_beq e]
  have e9: (c==9)=false:=by cases e: (c==9) with | false=>rfl | true=>have:=k 9 e; simp at this; omega
  have e10: (c==10)=false:=by cases e: (c==10) with | false=>rfl | true=>have:=k 10 e; simp at this; omega
  have e13: (c==13)=false:=by cases e: (c==13) with | false=>rfl | true=>have:=k 13 e; simp at this; omega
  have e32: (c==32)=false:=by cases e: (c==32) with | false=>rfl | true=>have:=k 32 e; simp at this; omega
  rw[e9,e10,e13,e32]; rfl}
theorem Z4n {p:UInt8->Bool}: ∀ {l:List UInt8},(∀x∈l,p x=true)->l.takeWhile p=l
 | [],_=>rfl
 | a::l,h=>by rw[List.takeWhile_cons,h a (by simp),if_pos rfl,Z4n (fun x hx=>h x (by simp[hx]))]
section
variable {s : List UInt8}
include s
theorem Za8 (h:number s=true):good ⟨3,s⟩:=by
 have h0:=h;unfold number at h;simp only[Bool.and_eq_true,decide_eq_true_eq] at h;obtain ⟨⟨⟨hd,h1⟩,h15⟩,_⟩:=h
 match s,h1 with
 | c::r,_=>
  rw[List.all_eq_true] at hd;obtain ⟨a1,a2,a3⟩:=Za7 (hd c (by simp));refine ⟨c,r,rfl,by omega,a3, ?_⟩;have hw:=Z4n (p:=lumpB) (l:=c::r) (fun x hx=>ZbU (hd x hx));have hdc:=hd c (by simp);simp[token,a1,a2,hdc,hw,h0]
theorem Za9 {t:Tok} {n:Nat} (h:quoted s= .ok (t,n)):t.kind=4:=by
 unfold quoted finish at h;split at h
 {cases h}
 {split at h
  {simp only[Except.ok.injEq,Prod.mk.injEq] at h; rw[<-h.1]}
  {split at h <;> cases h}}
theorem Zaa (h:good ⟨3,s⟩):number s=true:=by
 obtain ⟨c,r,hw,_,_,ht⟩:=h;have hs:s=c::r:=hw;simp only[token] at ht;split at ht
 {split at ht
  {simp at ht}
  {split at ht
   {simp at ht}
   {split at ht <;> simp at ht}}}
 {split at ht
  {split at ht
   {next hn=>simp only[Except.ok.injEq,Prod.mk.injEq,Tok.mk.injEq,true_and] at ht; rw[<-ht.1]; exact hn}
   {split at ht <;> simp at ht}}
  {split at ht
   {have:=Za9 ht; simp at this}
   {split at ht
    {simp at ht}
    {split at ht <;> simp at ht}}}}
end
theorem Zab (s:List UInt8):mayShow [⟨3,s⟩] ↔ number s=true:=by
 constructor
 {intro h;rcases h _ (List.mem_singleton.2 rfl) with h1 | h1
  {exact absurd h1 (by simp[endTok])}
  {exact Zaa h1}}
 {intro h t ht;rw[List.mem_singleton.1 ht];exact Or.inr (Za8 h)}
end Lex
namespace Prs
theorem ZaF: ∀(s:List UInt8) (a:Nat),(∀c∈s,48<=c.toNat/\c.toNat<=57)->num s (a:Int)=((s.foldl (fun a c=>10 * a+(c.toNat - 48)) a:Nat):Int)
 | [],a,_=>rfl
 | c::r,a,h=>by
  have hc:=h c (by simp);have e:10 * (a:Int)+((c.toNat:Int) - 48)=((10 * a+(c.toNat - 48):Nat):Int):=by omega
  rw[num,e,ZaF r _ (fun x hx=>h x (by simp[hx]))];rfl
theorem Z7f {s:List UInt8} (h:Lex.number s=true): (∀c∈s,48<=c.toNat/\c.toNat<=57)/\1<=s.length/\s.length<=15:=by
 unfold Lex.number at h;simp only[Bool.and_eq_true,decide_eq_true_eq] at h;obtain ⟨⟨⟨hd,h1⟩,h15⟩,_⟩:=h;refine ⟨fun c hc=> ?_,h1,h15⟩;have:=List.all_eq_true.1 hd c hc;unfold Lex.digit at this;simpa using this
theorem num_lt: ∀(s:List UInt8),(∀c∈s,48<=c.toNat/\c.toNat<=57)->Sem.num s < 10 ^ s.length
 | [],_=>by simp[Sem.num]
 | c::r,h=>by
  have hc:=h c (by simp);have ih:=num_lt r (fun x hx=>h x (by simp[hx]));have e:Sem.num (c::r)=(c.toNat - 48) * 10 ^ r.length+Sem.num r:=by
   show (c::r).foldl _ 0=_;rw[List.foldl_cons,Sem.Z5B]; congr 1; congr 1; omega
  rw[e,List.length_cons,Nat.pow_succ];have: (c.toNat - 48) * 10 ^ r.length<=9 * 10 ^ r.length:=Nat.mul_le_mul_right _ (by omega);omega
section
variable {s : List UInt8} (h : Lex.number s = true)
include s h
theorem num_number:num s 0=(Sem.num s:Int)/\Sem.num s < 1000000000000000:=by
 obtain ⟨hd,h1,h15⟩:=Z7f h;refine ⟨ZaF s 0 hd, ?_⟩;have h2:=num_lt s hd;have h3:10 ^ s.length<=10 ^ 15:=Nat.pow_le_pow_right (by omega) h15;have: (10:Nat) ^ 15=1000000000000000:=by decide
 omega
theorem atoi_number:Go.Lib.atoiAll s= .ok (num s 0):=by
 obtain ⟨hd,h1,h15⟩:=Z7f h;obtain ⟨e,hlt⟩:=num_number h;have hp:=Sem.Z6A s 0 hd (by omega);rw[Nat.zero_mul,Nat.zero_add] at hp
 match s,h1 with
 | c::r,_=>
  have hc:=hd c (by simp);have hm:Go.Lib.parseMag (c::r)= .ok (Sem.num (c::r)):=by
   unfold Go.Lib.parseMag;rw[if_neg (by simp),hp]
  rw[Go.Lib.atoiAll_plain c r (by omega) (by omega),hm,e];show (if 9223372036854775808<=Sem.num (c::r) then Go.Lib.NumEnd.range else .ok (Sem.num (c::r):Int))=_;rw[if_neg (by omega)]
end
end Prs
