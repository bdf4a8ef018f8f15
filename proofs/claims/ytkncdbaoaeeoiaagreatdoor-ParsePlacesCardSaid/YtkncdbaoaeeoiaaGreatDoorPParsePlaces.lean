/- ParsePlaces: each part of an expression that is read stands at a token of its source, and none ahead of the whole; for all values that the row lets in, with the program's variables laid as their texts lay them. -/
import Derived.Test.YtkncdbaoaeeoiaaGreatDoorTie
import Derived.Test.YtkncdbaoaeeoiaaGreatDoorCards
import Derived.LaidMore
import Derived.Lay
import Derived.Test.YtkncdbaoaeeoiaaGreatDoorK0n31
set_option linter.unusedVariables false
set_option linter.unusedSimpArgs false
set_option linter.unusedSectionVars false
set_option maxRecDepth 100000
set_option maxHeartbeats 16000000
namespace Lex
theorem ZeW {s:List UInt8} {x:Int×Nat} (h:scanR s= .error x):x.1≠0:=by
 unfold scanR at h;split at h
 {obtain rfl:=Except.error.inj h; decide}
 {cases ht:toks s 0 with
  | error y=>
   rw[ht] at h;obtain rfl:=Except.error.inj h;rcases (Z1d s.length s 0 y.1 y.2 (Nat.le_refl _) ht).2 with h1 | h1 <;> rw[h1] <;> decide
  | ok l=>rw[ht] at h; cases h}
end Lex
namespace Pso
open Prs (Flt)
open Go.Proofs.YtkncdbaoaeeoiaaGreatDoor (Tk tkOf)
theorem rdText_ne {α:Type} {s:List UInt8} {whole:List Tk->St->α×St} {f:Flt} (h:rdText s whole= .error f):f.1≠0:=by
 unfold rdText at h;cases hm:Lex.scanR s with
 | error x=>
  rw[hm] at h;obtain rfl:=Except.error.inj h;exact Lex.ZeW hm
 | ok m=>
  rw[hm] at h;simp only at h;unfold close at h;split at h
  {next hy=>obtain rfl:=Except.error.inj h; exact rd_err hy}
  {split at h
   {cases h}
   {obtain rfl:=Except.error.inj h; exact (by decide: (90:Int)≠0)}}
end Pso
namespace Go.Proofs.YtkncdbaoaeeoiaaGreatDoor
open Go.RowKit Tms
open Shp (Sh)
def ZfN (s:List UInt8) (m:List (Lex.Tok×Nat)) (A:Option Addr) (cap:Nat) (w1:World):Nat->Want
 | 0=> .val (.slice A (tkOf m).length cap)
 | 1=> .val (.pointer (some ⟨w1.heap.size,0,none⟩))
 | 2=> .val (.int .i64 0)
 | 3=> .val (.bool false)
 | 4=> .val (.slice A (tkOf m).length cap)
 | 5=> .val (.bool false)
 | _=> .any
section
variable (s : List UInt8) (hs : s.length <= 9223372036854775807)
include s hs
theorem Zal {m:List (Lex.Tok×Nat)} (hm:Lex.scanR s= .ok m) (w:World):
 Calls Tryz.prog 9 #[.string ⟨s.toArray⟩] w fun e w'=> ∃A c,e= .returned (.tuple #[.slice A (tkOf m).length c,.bool false])/\Tks w' w'.heap.size A (tkOf m)/\Below w.heap.size w w':=by
 have HM:=Y1 hm;clear hm;go_enter Tryz.func9,Tryz.ntmps9
 go_wp2_with fail
 refine (Zak s hs w).mono ?_;intro e w1 hv;obtain ⟨A,cap,rfl,ht,_,hb⟩:=Z4W hv HM.out;have HT:=Y1 ht;have HB:=Y1 hb;clear ht hb hv;have HX:=Y1 (Z01 w1 (.cells Yc 29))
 go_wp2_with fail
 have f0: (w1.alloc (.cells Yc 29)).cell? ⟨w1.heap.size,0,none⟩=some (.int .i64 0):=by simp[go_sem]
 have hz: (w1.alloc (.cells Yc 29)).heap.size=w1.heap.size+1:=by simp
 refine Z76 (rs:= [0,1,2,3,4,5])
  (fun u'=> { tmps:=#[.string ⟨s.toArray⟩,undef,u' 4,u' 5,.slice A (tkOf m).length cap,.pointer (some ⟨w1.heap.size,0,none⟩),.tuple #[.slice A (tkOf m).length cap,.agg #[.int .i64 0,.int .i64 0]],.string ⟨s.toArray⟩,.tuple #[.slice A (tkOf m).length cap,.agg #[.int .i64 0,.int .i64 0]],.slice A (tkOf m).length cap,.agg #[.int .i64 0,.int .i64 0],u' 0,u' 1,u' 2,u' 3],defers:= [] })
  (fun j=>([undef,undef,undef,undef,.slice none 0 0,.bool false]:List Value).getD j undef) (ZfN s m A cap w1) (fun W=>Below (w1.alloc (.cells Yc 29)).heap.size (w1.alloc (.cells Yc 29)) W) (by kernel_rfl) (by kernel_rfl) (by kernel_rfl) Y2.drew ?_ ?_
 refine StepsAt.cons _ rfl (fun u' W K' hJ hd hK=> ?_) ?_
 {refine Y0 hK hJ rfl rfl rfl ?_
  try dsimp only
  go_simp}
 refine StepsAt.cons _ rfl (fun u' W K' hJ hd hK=> ?_) ?_
 {refine Y0 hK hJ rfl rfl rfl ?_
  try dsimp only
  go_simp}
 refine StepsAt.cons _ rfl (fun u' W K' hJ hd hK=> ?_) ?_
 {have d1:_=_:=hd 1 (by kernel_rfl);have y0:=(hJ.cell (p:=⟨w1.heap.size,0,none⟩) (by rw[hz]; show w1.heap.size < w1.heap.size+1; omega)).trans f0;refine Y0 hK hJ rfl rfl rfl ?_
  try dsimp only
  go_simp}
 refine StepsAt.cons _ rfl (fun u' W K' hJ hd hK=> ?_) ?_
 {have d2:_=_:=hd 2 (by kernel_rfl);refine Y0 hK hJ rfl rfl rfl ?_
  try dsimp only
  go_simp}
 refine StepsAt.cons _ rfl (fun u' W K' hJ hd hK=> ?_) ?_
 {have d0:_=_:=hd 0 (by kernel_rfl);refine Y0 hK hJ rfl rfl rfl ?_
  try dsimp only
  go_simp}
 refine StepsAt.cons _ rfl (fun u' W K' hJ hd hK=> ?_) StepsAt.nil
 {have d3:_=_:=hd 3 (by kernel_rfl);refine Y0 hK hJ rfl rfl rfl ?_
  try dsimp only
  go_simp}
 intro u' W' hJ' hok;have h4:u' 4= .slice A (tkOf m).length cap:=hok 4 (by decide);have h5:u' 5= .bool false:=hok 5 (by decide);clear hok
 try dsimp only
 rw[h4,h5];clear h4 h5;go_wp2;have hbt:Below w1.heap.size w1 W':=Z00 HX.out hJ';refine bodyPost_ret (v:= .tuple #[.slice A (tkOf m).length cap,.bool false]) (by simp[results,Tryz.results9,go_sem]) rfl ?_;exact ⟨A,cap,rfl,(HT.out.keep hbt (Nat.le_refl _)).more hbt.size,Z00 HB.out hbt⟩
theorem Zfo (w:World) (hG:Gl w):
 Calls Tryz.prog 4 #[.string ⟨s.toArray⟩] w fun e w'=>e= .returned (.bool true)/\Below w.heap.size w w':=by
 have h1:=Z2q s hs w hG;have HG:=Y1 hG;clear hG;cases hr:Pso.rdText s Pso.wholeE with
 | error f=>
  rw[hr] at h1;have hf: (f.1 !=0)=true:=by simpa using Pso.rdText_ne hr
  obtain ⟨a,b⟩:=f;dsimp only at hf;clear hr;go_enter Tryz.func4,Tryz.ntmps4
  go_wp2_with fail
  refine h1.mono ?_;rintro e w1 ⟨hb1,he⟩;simp only at he;subst he;clear h1;have hx:=box2 w1 #[.int .i64 0,.string ⟨#[]⟩,.string ⟨#[]⟩,.int .i64 0,.slice none 0 0,.slice none 0 0,.slice none 0 0,.slice none 0 0,.int .i64 0] #[.int .i64 a,.int .i64 b] 26 29;have HB:=Y1 (Z00 hb1 hx.1);clear hx hb1
  go_wp2_with fail
  refine (Z5y _ (HG.out.next HB.out)).mono ?_;rintro e w2 ⟨rfl,hb2⟩;have HB2:=Y1 (Z00 HB.out hb2);clear hb2
  go_wp2_with fail
  go_ret;exact ⟨rfl,HB2.out⟩
 | ok t=>
  rw[hr] at h1;obtain ⟨m,hm,hst⟩:=Pso.places_hold hr;have HR:=Y1 hr;clear hr;go_enter Tryz.func4,Tryz.ntmps4
  go_wp2_with fail
  refine h1.mono ?_;rintro e w1 ⟨hb1,x,rfl,hi,_,ht⟩;clear h1;rw[<-ht] at hst;have HST:=Y1 hst;have HS27:=Y1 (fun W=>Zal s hs hm W);have HSC:=Y1 (scanned hm);have HQ:=Y1 hi.here;have hx:=box2 w1 #[.int .i64 x.t.kind,.string ⟨x.t.of_.toArray⟩,.string ⟨x.t.name.toArray⟩,.int .i64 x.t.n,.slice x.q.A x.t.names.length x.q.c,.slice x.q.V x.t.vars.length x.q.e,.slice x.q.S x.t.shapes.length x.q.s,.slice x.q.P x.t.parts.length x.q.d,.int .i64 x.t.at_] #[.int .i64 0,.int .i64 0] 26 29;have HX:=Y1 hx;have HB:=Y1 (Z00 hb1 hx.1);clear hx hb1 hi ht hst hm;simp only[valT]
  go_wp2_with fail
  refine (HS27.out _).mono ?_;rintro e w2 ⟨A,c,rfl,htk,hb2⟩;have HTK:=Y1 htk;have hz:=HX.out.2.2.2;have d0:=(Below.cells hb2 (b:=w1.heap.size) (by omega) _).trans (HX.out.2.1 0 _ rfl);have d1:=(Below.cells hb2 (b:=w1.heap.size) (by omega) _).trans (HX.out.2.1 1 _ rfl);have d2:=(Below.cells hb2 (b:=w1.heap.size) (by omega) _).trans (HX.out.2.1 2 _ rfl);have d3:=(Below.cells hb2 (b:=w1.heap.size) (by omega) _).trans (HX.out.2.1 3 _ rfl);have d4:=(Below.cells hb2 (b:=w1.heap.size) (by omega) _).trans (HX.out.2.1 4 _ rfl);have d5:=(Below.cells hb2 (b:=w1.heap.size) (by omega) _).trans (HX.out.2.1 5 _ rfl);have d6:=(Below.cells hb2 (b:=w1.heap.size) (by omega) _).trans (HX.out.2.1 6 _ rfl);have d7:=(Below.cells hb2 (b:=w1.heap.size) (by omega) _).trans (HX.out.2.1 7 _ rfl);have d8:=(Below.cells hb2 (b:=w1.heap.size) (by omega) _).trans (HX.out.2.1 8 _ rfl);have HB2:=Y1 (Z00 HB.out hb2);have HQ2:=Y1 ((HQ.out.next HX.out.1).next hb2);clear hb2 htk hz
  go_wp2_with fail
  refine (Zaf A c (tkOf m) (by have:=HSC.out.len; omega) x.t x.q x.t.at_ w2 HQ2.out HTK.out).mono ?_;rintro e w3 ⟨rfl,hb3⟩;rw[HST.out];have HB3:=Y1 (Z00 HB2.out hb3);clear hb3 d0 d1 d2 d3 d4 d5 d6 d7 d8
  go_wp2_with fail
  refine (Z5y _ (HG.out.next HB3.out)).mono ?_;rintro e w4 ⟨rfl,hb4⟩;have HB4:=Y1 (Z00 HB3.out hb4);clear hb4
  go_wp2_with fail
  go_ret;exact ⟨rfl,HB4.out⟩
end
end Go.Proofs.YtkncdbaoaeeoiaaGreatDoor
namespace Go.Proofs.YtkncdbaoaeeoiaaGreatDoor.parsePlaces
section
open Go.ChangeShapes Go.WideShapes Go.ChangeAt Go.RowKit
open Go.ChangeMaps (open_string shut_string)
theorem own:ownKnob Tryz.prog.godebug=none:=by kernel_rfl
theorem laidOut:laidOutB Tryz.prog=true:=by kernel_rfl
theorem contract (H:Type) (enc:TypeId×Value->H) (W:World) (base:Nat) (args:Array Value) (ds gs:List (DataW H)) (before:List MemPlace)
 (hval: ∀(j:Nat) t v,Tryz.f4.params[j]? =some t->args[j]? =some v->Value.okWide Tryz.prog W .any base t v)
 (hW:DataW.Whole enc Tryz.prog Tryz.f4.params.toList Rows.parsePlacesSpec.vars false W args.toList ds gs before) (hL:laidMetH Tryz.prog Rows.parsePlacesRow.laid W)
 (hsz: (DataW.weightsEach Tryz.prog (Tryz.f4.params.toList++Rows.parsePlacesSpec.plain.varTypes Tryz.prog) (ds++gs)).all (· <=reachBytes)=true):
 Calls Tryz.prog 4 args W fun e W'=> ∃v,e= .returned v/\Rows.parsePlacesSpec.post enc Tryz.prog Tryz.f4 false true false false W args v W':=by
 have hW':=hW;obtain ⟨p,q,hA0,hV,rfl,hfz,hnd⟩:=hW;have hA:DataW.TrodAll enc Tryz.prog W 0 (fun _=>true) true Tryz.f4.params.toList args.toList ds p:=hA0;rw[Tryz.params4] at hA hval hsz;obtain ⟨v0,vs0,d0,ds0,p0,q0,hargs,rfl,rfl,h0,t0⟩:=trodAll_cons hA;obtain ⟨rfl,rfl,rfl⟩:=trodAll_nil t0;obtain rfl:args=#[v0]:=by cases args; simp_all
 obtain ⟨rfl,rfl⟩:=trodVars_none hV;obtain ⟨a0,rfl,rfl,rfl,w0⟩:=open_string Tryz.underlying9 (hval 0 9 v0 rfl rfl) h0;have r0:a0.size<=140737488351232:=by
  have:=sized_string hsz (j:=0) (t:=9) rfl rfl;rw[Lib.size_eq]; exact Nat.le_trans this (by decide)
 clear hA0;rw[MakeChecks.laidMetH_plain _ _ _ (by kernel_rfl)] at hL;have g0:Globs W:=Zeb hL (List.Mem.tail _ (List.Mem.tail _ (List.Mem.tail _ (List.Mem.tail _ (List.Mem.tail _ (List.Mem.head _)))))) (List.Mem.tail _ (List.Mem.tail _ (List.Mem.tail _ (List.Mem.tail _ (List.Mem.head _))))) (List.Mem.tail _ (List.Mem.tail _ (List.Mem.head _)));have g1:WGlobs W:=ZcE hL (List.Mem.tail _ (List.Mem.tail _ (List.Mem.tail _ (List.Mem.tail _ (List.Mem.tail _ (List.Mem.tail _ (List.Mem.head _)))))));have g2:Z0J W:=Zba hL (List.Mem.tail _ (List.Mem.tail _ (List.Mem.tail _ (List.Mem.tail _ (List.Mem.tail _ (List.Mem.tail _ (List.Mem.tail _ (List.Mem.head _)))))))) (List.Mem.tail _ (List.Mem.tail _ (List.Mem.tail _ (List.Mem.head _))));refine (Zfo a0.data.toList (by have:=Lib.size_eq a0; omega) W ⟨g0,g1,g2⟩).mono fun e W' ⟨he,bel⟩=> ?_;subst he;exact ⟨_,rfl,_,_,_,[],_,[],hW',trodAll_mk1 (shut_bool Tryz.underlying4 _),(trodAll_cons_mk (shut_string Tryz.underlying9 w0) trodAll_mk0),rfl,bel.frame _,fun h=>by cases h⟩
theorem reads (os:Os) {H:Type} (enc:TypeId×Value->H): ∃places,DataW.whole enc Tryz.prog ((World.laidAll Tryz.prog os Rows.parsePlacesRow.laid).forCall (fun _ _=>0) ⟨#[], #[(.string ByteArray.empty)],[]⟩).memory Tryz.f4.params.toList Rows.parsePlacesSpec.vars false #[(.string ByteArray.empty)].toList 8=some ([.lit (.string [])],[],places):=
 ⟨[],by kernel_rfl⟩
theorem lifted (os:Os) (started:os.Started) (H:Type) (enc:TypeId×Value->H) (F:Stop.Interp):
 ReturnsInHanded {} Tryz.checked os 4 .any ((OpenSpec.ofChange Rows.parsePlacesSpec).preRow enc Tryz.prog Tryz.f4 Rows.parsePlacesRow.domain false Rows.parsePlacesRow.laid) (((OpenSpec.ofChange Rows.parsePlacesSpec).at F).post enc Tryz.prog Tryz.f4 false true false false):=by
 obtain ⟨places,hx⟩:=reads os enc;refine returnsInHanded_of_row (C:=Tryz.checked) (s:=OpenSpec.ofChange Rows.parsePlacesSpec) own started (by kernel_rfl) Tryz.func4
  (Z4C (enc:=enc) (C:=Tryz.checked) (s:=OpenSpec.ofChange Rows.parsePlacesSpec) false (World.laidAll Tryz.prog os Rows.parsePlacesRow.laid) #[(.string ByteArray.empty)] (World.laidAll_os _ _ _)
   (World.shaped_of_ZipB (by kernel_rfl) (by kernel_rfl)) (by kernel_rfl)
   (OpenSpec.preRow_of_cond 8 hx (by kernel_rfl) (fun k hk=>by cases hk) (by kernel_rfl)
    (by rw[MakeChecks.laidMetH_plain _ _ _ (by kernel_rfl)]; exact laidMet_laidAll _ (by kernel_rfl) (by kernel_rfl)))) ?_
 intro W base args ds gs before hval hW _ hcond hsz hL _ _;exact contract H enc W base args ds gs before hval hW hL hsz
theorem band {a b:Bool} (ha:a=true) (hb:b=true): (a&&b)=true:=by rw[ha,hb]; rfl
theorem facts:joinedFacts Tryz.prog 4 Tryz.f4 (OpenSpec.ofChange Rows.parsePlacesSpec).bare Rows.parsePlacesRow=true:=by
 unfold joinedFacts
 repeat' (with_reducible refine band ?_ ?_)
 all_goals as_aux_lemma=>kernel_rfl
theorem proved:Rows.ParsePlacesSaid:=
 OpenClaim.holds_of_cond 4 Tryz.f4 rfl rfl rfl rfl rfl rfl rfl ⟨rfl,rfl,rfl,rfl,rfl⟩ rfl rfl rfl rfl rfl (by as_aux_lemma=>kernel_rfl) Tryz.func4 facts
  (of_decide_eq_true (by as_aux_lemma=>kernel_rfl)) (by unfold Func.isWrapper; first | (rw[if_pos (by decide+kernel)]; kernel_rfl) | (rw[if_neg (by decide+kernel)]; exact ⟨rfl,rfl⟩))
  (fun os started H enc _ F=>by rw[OpenClaim.pre_eq_preRow]; exact lifted os started H enc F)
theorem card:Rows.ParsePlacesCardSaid:=
 Claim7.holds_tied_plain_at .later [] _ _ _ _ proved (fun _ h=>by cases h) (by as_aux_lemma=>kernel_rfl) (fun _ h=>by cases h) parsePlaces_row_tie rfl ⟨rfl,rfl⟩ (by as_aux_lemma=>kernel_rfl) rfl
  (fun f fn hf hfn=>by
   obtain rfl:f=4:=Option.some.inj ((show Tryz.prog.funcNamed "pandect/pandectlaw09.ParsePlaces" =some 4 by kernel_rfl).symm.trans hf) |>.symm;obtain rfl:fn=Tryz.f4:=(Option.some.inj (Tryz.func4.symm.trans hfn)).symm;exact ⟨by kernel_rfl,fun j t ht=>by
    rw[Tryz.params4] at ht;have hm:t∈ [9]:=by simpa using Array.mem_of_getElem? ht
    have hall: ([9].all fun u=> !Tryz.prog.wantsStandIn u)=true:=by kernel_rfl
    exact (show Tryz.prog.wantsStandIn t=false by simpa using List.all_eq_true.1 hall t hm)⟩)
  (by as_aux_lemma=>kernel_rfl)
end
end Go.Proofs.YtkncdbaoaeeoiaaGreatDoor.parsePlaces
