/- TermsBare: an expression without its places is the same, and stays; for all values of a bulk of at most 1048576 that the row lets in, with the program's variables laid as their texts lay them. -/
import Derived.Laws.OwnMore
import Derived.Maps.AppendAt
import Derived.Deep.RegionHeld3
import Derived.StillTailTactics
import Derived.Deep.AppendLies
import Derived.Test.YtnkdedejfonbmaaGreatDoorRows
import Derived.WalkKit
import Derived.ProofKit
import Derived.OpenShut
import Derived.ShutString
import Derived.SizedLaws
import Derived.ChangeOld
import Derived.Below
import Derived.JoinedCond
import Derived.Test.YtnkdedejfonbmaaGreatDoorTie
import Derived.Test.YtnkdedejfonbmaaGreatDoorCards
import Derived.LaidMore
import Derived.Lay
import Derived.SevenTiedAt
import Derived.Test.YtnkdedejfonbmaaGreatDoorK5n0
import Derived.Test.YtnkdedejfonbmaaGreatDoorK7n0
import Derived.Test.YtnkdedejfonbmaaGreatDoorK6n0
import Derived.Test.YtnkdedejfonbmaaGreatDoorK3n0
set_option linter.unusedVariables false
set_option linter.unusedSimpArgs false
set_option maxRecDepth 100000
set_option maxHeartbeats 16000000
namespace Tms
open Shp (Sh Z0C)
mutual
def moved : Int -> Tm -> Tm
 | b, ⟨k, o, na, n, ns, vs, ss, ps, _⟩ => ⟨k, o, na, n, ns, vs, ss, moveds b ps, b⟩
def moveds : Int -> List Tm -> List Tm
 | _, [] => []
 | b, p :: ps => moved b p :: moveds (b + 1) ps
end
end Tms
namespace Tms
open Shp (Sh)
theorem ZdN {f : Tm -> Tm} {l : List Tm} (h : ∀ p ∈ l, size (f p) = size p) : sizes (l.map f) = sizes l := by
 induction l with
 | nil => rfl
 | cons a l ih => simp [sizes, h a (by simp), ih (fun p hp => h p (by simp [hp]))]
theorem ZdO {f : Tm -> Tm} {l : List Tm} (h : ∀ p ∈ l, deep (f p) = deep p) : deeps (l.map f) = deeps l := by
 induction l with
 | nil => rfl
 | cons a l ih => simp [deeps, h a (by simp), ih (fun p hp => h p (by simp [hp]))]
theorem Z2T (t : Tm) : size (strip t) = size t := by
 induction t using Tm.ind with
 | h t ih => rw [Z0A, size_eq, size_eq t, ZdN ih]
theorem Z45 (t : Tm) : deep (strip t) = deep t := by
 induction t using Tm.ind with
 | h t ih => rw [Z0A, deep_eq, deep_eq t, ZdO ih]
theorem ZdP {t u : Tm} (h : strip t = strip u) : size t = size u := by rw [<- Z2T t, h, Z2T]
theorem ZdQ {t u : Tm} (h : strip t = strip u) : deep t = deep u := by rw [<- Z45 t, h, Z45]
theorem Z2C (t : Tm) : strip (strip t) = strip t := by
 induction t using Tm.ind with
 | h t ih =>
  rw [Z0A, Z0A t]
  simp only [List.map_map]
  congr 1
  exact List.map_congr_left ih
theorem Z4E (a : Int) (t : Tm) : moved a t = ⟨t.kind, t.of_, t.name, t.n, t.names, t.vars, t.shapes, moveds a t.parts, a⟩ := by cases t; rfl
theorem Z7Q {l : List Tm} (h : ∀ p ∈ l, ∀ a, strip (moved a p) = strip p) : ∀ a, (moveds a l).map strip = l.map strip := by
 induction l with
 | nil => intro a; rfl
 | cons p l ih =>
  intro a
  simp only [moveds, List.map_cons]
  rw [h p (by simp), ih (fun q hq => h q (by simp [hq]))]
theorem Z1M (t : Tm) : ∀ a, strip (moved a t) = strip t := by
 induction t using Tm.ind with
 | h t ih => intro a; rw [Z4E, Z0A, Z0A t]; simp only; rw [Z7Q ih]
theorem Zbm {t : Tm} {ps : List Tm} {a : Int} (h : fits t = true) (hl : ps.length = t.parts.length) (ha : 0 <= a) : fits ⟨t.kind, t.of_, t.name, t.n, t.names, t.vars, t.shapes, ps, a⟩ = true := by
 have hK : fitsK ⟨t.kind, t.of_, t.name, t.n, t.names, t.vars, t.shapes, ps, a⟩ = fitsK t := by
  unfold fitsK lists; simp only [hl]
 unfold fits at h ⊢
 rw [hK]
 simp only [Bool.and_eq_true, decide_eq_true_eq] at h ⊢
 exact ⟨⟨⟨⟨⟨⟨ha, h.1.1.1.1.1.2⟩, h.1.1.1.1.2⟩, h.1.1.1.2⟩, h.1.1.2⟩, h.1.2⟩, h.2⟩
theorem Za0 {t : Tm} (h : right t = true) : right (strip t) = true := by
 induction t using Tm.ind with
 | h t ih =>
  rw [Z0A]
  refine right_on (Zbm (right_fits h) (by simp) (by omega)) (fun p hp => ?_)
  obtain ⟨p0, hp0, rfl⟩ := List.mem_map.1 hp
  exact ih p0 hp0 (right_part h hp0)
theorem Z5l : ∀ (a : Int) (l : List Tm), (moveds a l).length = l.length
 | _, [] => rfl
 | a, p :: l => by simp [moveds, Z5l (a + 1) l]
theorem Z6a : ∀ {l : List Tm} {a : Int} {x : Tm}, 0 <= a -> x ∈ moveds a l -> ∃ p ∈ l, ∃ b, 0 <= b /\ x = moved b p
 | [], _, _, _, h => by simp [moveds] at h
 | p :: l, a, x, ha, h => by
  simp only [moveds, List.mem_cons] at h
  rcases h with rfl | h
  {exact ⟨p, by simp, a, ha, rfl⟩}
  {obtain ⟨p', h1, b, h2, h3⟩ := Z6a (by omega) h
   exact ⟨p', by simp [h1], b, h2, h3⟩}
theorem Za1 {t : Tm} (h : right t = true) : ∀ {a : Int}, 0 <= a -> right (moved a t) = true := by
 induction t using Tm.ind with
 | h t ih =>
  intro a ha
  rw [Z4E]
  refine right_on (Zbm (right_fits h) (Z5l _ _) ha) (fun p hp => ?_)
  obtain ⟨p0, hp0, b, hb, rfl⟩ := Z6a ha hp
  exact ih p0 hp0 (right_part h hp0) hb
theorem Z3C {t : Tm} (h : check t = 0) : check (strip t) = 0 := by
 obtain ⟨h1, h2, h3⟩ := check_ok h
 exact Z44 (by rw [Z2T]; exact h1) (by rw [Z45]; exact h2) (Za0 h3)
theorem Z3D {t : Tm} (h : check t = 0) {a : Int} (ha : 0 <= a) : check (moved a t) = 0 := by
 obtain ⟨h1, h2, h3⟩ := check_ok h
 exact Z44 (by rw [ZdP (Z1M t a)]; exact h1) (by rw [ZdQ (Z1M t a)]; exact h2) (Za1 h3 ha)
theorem Z38 {t : Tm} (h : check t = 0) : bare t = strip t := if_pos h
theorem Zfx (t : Tm) : same [t] = true ↔ check t = 0 := by rw [Z5T]; simp
theorem ZdR {t : Tm} (h : check t = 0) {a : Int} (ha : 0 <= a) : same [t, bare t, moved a t] = true := by
 rw [Z38 h]
 exact Z6b.2 ⟨h, ⟨Z3C h, Z2C t⟩, Z3D h ha, Z1M t a⟩
end Tms
namespace Go.Proofs.YtnkdedejfonbmaaGreatDoor
open Go.RowKit
theorem Z75 {P : Program} {ops : Array Oper} {o : Oper} {a : Act} {W : World} {K' : Act -> World -> Prop} {Q : Exit -> Act -> World -> Prop} {E : Prop} (hgd : Region.wanted o (yielded ops a.tmps) = true) (s x : Operand) (t : TypeId)
 (ho : o.op = .call { callee := .builtin .append, args := #[s, x], argTypes := #[t, t] })
 (base : Nat) (e : TypeId) (i : TypeInfo) (z : Value) (size bytes : Nat) (ht : P.underlying t = some (.slice e)) (hi : P.info? e = some i) (hz : i.zero = some z)
 (hsize : i.size = size) (hby : i.bytes = bytes) (hzs : z.cells.size = size) (hsz : 0 < size)
 (v : Value) (n : Nat) (xs : List Value) (hs : a.eval s = v) (hown : W.ownsRow base e size v n xs)
 (A : Option Addr) (m c : Nat) (news : List Value) (hx : a.eval x = .slice A m c) (hA : A = none -> m = 0 /\ c = 0) (hl : news.length = m * size)
 (hnews : ∀ ad, A = some ad -> ∀ j u, news[j]? = some u -> W.cell? (ad.add j) = some u) (h1 : ∀ u ∈ news, u.oneCell' = true)
 (h63 : n + m <= maxLen) (hbytes : (n + m) * bytes <= 140737488355328) (hbase : base <= W.heap.size)
 (h : ∀ v' w', w'.ownsRow base e size v' (n + m) (xs ++ news) -> W.grownBy w' v.ownBlock -> (v'.ownBlock = v.ownBlock \/ v'.ownBlock = some W.heap.size) -> K' (a.put o.dst v') w') :
 if Region.wanted o (yielded ops a.tmps) = true then Oper.wp P o a W K' Q else E := by
 rw [if_pos hgd]
 match A, hA, hnews, hx with
 | some ad, _, hnews, hx =>
  obtain ⟨v', w', hr, h2, h3, _, h5⟩ := run_append_own_at (P := P) W base t o.type e i z size bytes ht hi hz hsize hby hzs hsz v n xs hown ad m c news hl (hnews ad rfl) h1 h63 hbytes hbase
  unfold Oper.wp execOp
  simp only [ho, resolve, invoke, builtin, Sem.run_bind, Sem.run_pure, Result.andThen_ok, List.map_toArray, List.map_cons, List.map_nil, hs, hx, hr]
  exact h v' w' h2 h3 h5
 | none, hA, _, hx =>
  obtain ⟨rfl, rfl⟩ := hA rfl
  obtain rfl : news = [] := List.eq_nil_of_length_eq_zero (by rw [hl, Nat.zero_mul])
  have hr := run_append_owned_none (P := P) (w := W) base t o.type e i size ht hi v n xs hown
  unfold Oper.wp execOp
  simp only [ho, resolve, invoke, builtin, Sem.run_bind, Sem.run_pure, Result.andThen_ok, List.map_toArray, List.map_cons, List.map_nil, hs, hx, hr]
  exact h v W (by rw [List.append_nil]; exact hown) ⟨rfl, rfl, rfl, Nat.le_refl _, fun _ _ _ => rfl⟩ (Or.inl rfl)
end Go.Proofs.YtnkdedejfonbmaaGreatDoor
namespace Go.Proofs.YtnkdedejfonbmaaGreatDoor
open Go.RowKit Tms
open Shp (Sh)
theorem Z5h (t u : Tm) (q r : TP) (w : World) (hq : TmAt w w.heap.size q t) (hr : TmAt w w.heap.size r u) (hh : hd1 true t u = false) :
 Y9 18 #[.agg (Y7 t q), .agg (Y7 u r), .bool true] w (.bool (eqB true t u)) := by
 have HF := Y1 (ZbH hh)
 have hb0 := Z02 w (.cells (Y7 t q) 26)
 have hb1 := Z08 hb0 (.cells (Y7 u r) 26)
 have HB1 := Y1 hb1
 have hB := (Z07 w t q).next (Z02 _ (.cells (Y7 u r) 26))
 have hC := Z07 (w.alloc (.cells (Y7 t q) 26)) u r
 rw [World.size_alloc] at hC
 have HB := Y1 hB
 have HC := Y1 hC
 have HH := Y1 hh
 clear hh hb0 hb1 hq hr
 obtain ⟨_, ⟨c0, c1, c2, c3, c4, c5, c6, c7, c8⟩, _⟩ := hB
 obtain ⟨_, ⟨d0, d1, d2, d3, d4, d5, d6, d7, d8⟩, _⟩ := hC
 unfold hd1 at HH
 cases e1 : (t.kind == u.kind)
 {have n1 : (t.kind != u.kind) = true := by unfold bne; rw [e1]; rfl
  go_enter Tryz.func18, Tryz.ntmps18
  go_wp2
  go_ret
  exact ⟨by rw [HF.out]; rfl, HB1.out⟩}
 {have n1 : (t.kind != u.kind) = false := by unfold bne; rw [e1]; rfl
  cases e2 : (t.of_ == u.of_)
  {have n2 : (t.of_ != u.of_) = true := by unfold bne; rw [e2]; rfl
   go_enter Tryz.func18, Tryz.ntmps18
   go_wp2
   go_ret
   exact ⟨by rw [HF.out]; rfl, HB1.out⟩}
  {have n2 : (t.of_ != u.of_) = false := by unfold bne; rw [e2]; rfl
   cases e3 : (t.name == u.name)
   {have n3 : (t.name != u.name) = true := by unfold bne; rw [e3]; rfl
    go_enter Tryz.func18, Tryz.ntmps18
    go_wp2
    go_ret
    exact ⟨by rw [HF.out]; rfl, HB1.out⟩}
   {have n3 : (t.name != u.name) = false := by unfold bne; rw [e3]; rfl
    cases e4 : (t.n == u.n)
    {have n4 : (t.n != u.n) = true := by unfold bne; rw [e4]; rfl
     go_enter Tryz.func18, Tryz.ntmps18
     go_wp2
     go_ret
     exact ⟨by rw [HF.out]; rfl, HB1.out⟩}
    {have n4 : (t.n != u.n) = false := by unfold bne; rw [e4]; rfl
     cases e5 : (t.at_ == u.at_)
     {have n5 : (t.at_ != u.at_) = true := by unfold bne; rw [e5]; rfl
      go_enter Tryz.func18, Tryz.ntmps18
      go_wp2
      go_ret
      exact ⟨by rw [HF.out]; rfl, HB1.out⟩}
     {have n5 : (t.at_ != u.at_) = false := by unfold bne; rw [e5]; rfl
      exact absurd HH.out (by simp [e1, e2, e3, e4, e5])}}}}}
theorem Z5i (t u : Tm) (q r : TP) (w : World) (hq : TmAt w w.heap.size q t) (hr : TmAt w w.heap.size r u) (hh1 : hd1 true t u = true) (hh2 : hd2 t u = false) :
 Y9 18 #[.agg (Y7 t q), .agg (Y7 u r), .bool true] w (.bool (eqB true t u)) := by
 have HF := Y1 (ZbI (pl := true) hh2)
 have HH := Y1 hh2
 clear hh2
 have hb0 := Z02 w (.cells (Y7 t q) 26)
 have hb1 := Z08 hb0 (.cells (Y7 u r) 26)
 have HB1 := Y1 hb1
 have hB := (Z07 w t q).next (Z02 _ (.cells (Y7 u r) 26))
 have hC := Z07 (w.alloc (.cells (Y7 t q) 26)) u r
 rw [World.size_alloc] at hC
 have HB := Y1 hB
 have HC := Y1 hC
 have HQ := Y1 hq
 have HR := Y1 hr
 clear hb0 hb1 hq hr
 obtain ⟨_, ⟨c0, c1, c2, c3, c4, c5, c6, c7, c8⟩, _⟩ := hB
 obtain ⟨_, ⟨d0, d1, d2, d3, d4, d5, d6, d7, d8⟩, _⟩ := hC
 have hs := hh1
 simp only [hd1, Bool.and_eq_true, beq_iff_eq, Bool.or_eq_true, Bool.not_eq_true', Bool.not_true, Bool.not_false, Bool.false_or, Bool.true_or, Bool.true_eq_false, Bool.and_true, false_or, true_or, and_true] at hs
 obtain ⟨⟨⟨⟨g1, g2⟩, g3⟩, g4⟩, g5⟩ := hs
 have n1 : (t.kind != u.kind) = false := by rw [g1]; simp
 have e1 : (t.kind == u.kind) = true := by rw [g1]; simp
 have n2 : (t.of_ != u.of_) = false := by rw [g2]; simp
 have e2 : (t.of_ == u.of_) = true := by rw [g2]; simp
 have n3 : (t.name != u.name) = false := by rw [g3]; simp
 have e3 : (t.name == u.name) = true := by rw [g3]; simp
 have n4 : (t.n != u.n) = false := by rw [g4]; simp
 have e4 : (t.n == u.n) = true := by rw [g4]; simp
 have n5 : (t.at_ != u.at_) = false := by rw [g5]; simp
 have e5 : (t.at_ == u.at_) = true := by rw [g5]; simp
 clear g1 g2 g3 g4 g5
 go_enter Tryz.func18, Tryz.ntmps18
 go_wp2_with fail
 generalize hW0 : (w.alloc (.cells (Y7 t q) 26)).alloc (.cells (Y7 u r) 26) = W0 at HB HC HB1 ⊢
 clear hW0 c0 c1 c2 c3 c4 c5 c6 c7 c8 d0 d1 d2 d3 d4 d5 d6 d7 d8 n1 e1 n2 e2 n3 e3 n4 e4 n5 e5
 have HBW0 : Hid (Below w.heap.size w W0) := Y1 HB1.out
 have HB0 := HB
 have HC0 := HC
 clear HB HC
 obtain ⟨_, ⟨c0, c1, c2, c3, c4, c5, c6, c7, c8⟩, _⟩ := HB0.out
 obtain ⟨_, ⟨d0, d1, d2, d3, d4, d5, d6, d7, d8⟩, _⟩ := HC0.out
 have hs1 := Z0Y q.A r.A q.c r.c t.names u.names W0 (HQ.out.strs.next HBW0.out) (HR.out.strs.next HBW0.out) HQ.out.small.l HR.out.small.l
 go_wp2_with fail
 cases e6 : (t.names == u.names)
 {rw [e6] at hs1
  refine hs1.mono ?_
  rintro e w1 ⟨rfl, hb1⟩
  go_wp2
  go_ret
  exact ⟨by rw [HF.out]; rfl, Z00 HBW0.out hb1⟩}
 {rw [e6] at hs1
  refine hs1.mono ?_
  rintro e w1 ⟨rfl, hb1⟩
  have HBW1 := Y1 (Z00 HBW0.out hb1)
  have HB1' := Y1 (HB0.out.next hb1)
  have HC1' := Y1 (HC0.out.next hb1)
  clear hs1 hb1 HB0 HC0 HB1
  clear c0 c1 c2 c3 c4 c5 c6 c7 c8 d0 d1 d2 d3 d4 d5 d6 d7 d8
  obtain ⟨_, ⟨c0, c1, c2, c3, c4, c5, c6, c7, c8⟩, _⟩ := HB1'.out
  obtain ⟨_, ⟨d0, d1, d2, d3, d4, d5, d6, d7, d8⟩, _⟩ := HC1'.out
  have hs2 := Z0Y q.V r.V q.e r.e t.vars u.vars w1 (HQ.out.vars.next HBW1.out) (HR.out.vars.next HBW1.out) HQ.out.small.v HR.out.small.v
  go_wp2_with fail
  cases e7 : (t.vars == u.vars)
  {rw [e7] at hs2
   refine hs2.mono ?_
   rintro e w2 ⟨rfl, hb2⟩
   go_wp2
   go_ret
   exact ⟨by rw [HF.out]; rfl, Z00 HBW1.out hb2⟩}
  {rw [e7] at hs2
   refine hs2.mono ?_
   rintro e w2 ⟨rfl, hb2⟩
   have HBW2 := Y1 (Z00 HBW1.out hb2)
   have HB2 := Y1 (HB1'.out.next hb2)
   have HC2 := Y1 (HC1'.out.next hb2)
   clear hs2 hb2 HB1' HC1'
   clear c0 c1 c2 c3 c4 c5 c6 c7 c8 d0 d1 d2 d3 d4 d5 d6 d7 d8
   obtain ⟨_, ⟨c0, c1, c2, c3, c4, c5, c6, c7, c8⟩, _⟩ := HB2.out
   obtain ⟨_, ⟨d0, d1, d2, d3, d4, d5, d6, d7, d8⟩, _⟩ := HC2.out
   cases e8 : ((t.shapes.length : Int) == (u.shapes.length : Int))
   {have n8 : ((t.shapes.length : Int) != (u.shapes.length : Int)) = true := by unfold bne; rw [e8]; rfl
    go_wp2
    go_ret
    exact ⟨by rw [HF.out]; rfl, HBW2.out⟩}
   {have n8 : ((t.shapes.length : Int) != (u.shapes.length : Int)) = false := by unfold bne; rw [e8]; rfl
    cases e9 : ((t.parts.length : Int) == (u.parts.length : Int))
    {have n9 : ((t.parts.length : Int) != (u.parts.length : Int)) = true := by unfold bne; rw [e9]; rfl
     go_wp2
     go_ret
     exact ⟨by rw [HF.out]; rfl, HBW2.out⟩}
    {refine absurd HH.out ?_
     have g8 := eq_of_beq e8
     have g9 := eq_of_beq e9
     simp only [hd2, e6, e7, Bool.true_and, Bool.and_eq_false_iff, decide_eq_false_iff_not]
     omega}}}}
theorem Z3p (t : Tm) : ∀ (u : Tm) (q r : TP) (w : World), TmAt w w.heap.size q t -> TmAt w w.heap.size r u ->
 Y9 18 #[.agg (Y7 t q), .agg (Y7 u r), .bool true] w (.bool (eqB true t u)) := by
 induction t using Tm.ind with
 | h t ih =>
 intro u q r w hq hr
 cases hh1 : hd1 true t u with
 | false => exact Z5h t u q r w hq hr hh1
 | true =>
 cases hh2 : hd2 t u with
 | false => exact Z5i t u q r w hq hr hh1 hh2
 | true =>
 have HH1 := Y1 hh1
 have HH2 := Y1 hh2
 have hs2 := hh2
 simp only [hd2, Bool.and_eq_true, decide_eq_true_eq] at hs2
 obtain ⟨⟨⟨g6, g7⟩, g8⟩, g9⟩ := hs2
 have HG6 := Y1 g6
 have HG7 := Y1 g7
 have HG8 := Y1 g8
 have HG9 := Y1 g9
 have IHH := Y1 ih
 clear g6 g7 g8 g9 hh2 ih
 have hb0 := Z02 w (.cells (Y7 t q) 26)
 have hb1 := Z08 hb0 (.cells (Y7 u r) 26)
 have HB1 := Y1 hb1
 have hB := (Z07 w t q).next (Z02 _ (.cells (Y7 u r) 26))
 have hC := Z07 (w.alloc (.cells (Y7 t q) 26)) u r
 rw [World.size_alloc] at hC
 have HB := Y1 hB
 have HC := Y1 hC
 have HQ := Y1 hq
 have HR := Y1 hr
 clear hb0 hb1 hq hr
 obtain ⟨_, ⟨c0, c1, c2, c3, c4, c5, c6, c7, c8⟩, _⟩ := hB
 obtain ⟨_, ⟨d0, d1, d2, d3, d4, d5, d6, d7, d8⟩, _⟩ := hC
 have hs := hh1
 simp only [hd1, Bool.and_eq_true, beq_iff_eq, Bool.or_eq_true, Bool.not_eq_true', Bool.not_true, Bool.not_false, Bool.false_or, Bool.true_or, Bool.true_eq_false, Bool.and_true, false_or, true_or, and_true] at hs
 obtain ⟨⟨⟨⟨g1, g2⟩, g3⟩, g4⟩, g5⟩ := hs
 have n1 : (t.kind != u.kind) = false := by rw [g1]; simp
 have e1 : (t.kind == u.kind) = true := by rw [g1]; simp
 have n2 : (t.of_ != u.of_) = false := by rw [g2]; simp
 have e2 : (t.of_ == u.of_) = true := by rw [g2]; simp
 have n3 : (t.name != u.name) = false := by rw [g3]; simp
 have e3 : (t.name == u.name) = true := by rw [g3]; simp
 have n4 : (t.n != u.n) = false := by rw [g4]; simp
 have e4 : (t.n == u.n) = true := by rw [g4]; simp
 have n5 : (t.at_ != u.at_) = false := by rw [g5]; simp
 have e5 : (t.at_ == u.at_) = true := by rw [g5]; simp
 clear g1 g2 g3 g4 g5
 go_enter Tryz.func18, Tryz.ntmps18
 go_wp2_with fail
 generalize hW0 : (w.alloc (.cells (Y7 t q) 26)).alloc (.cells (Y7 u r) 26) = W0 at HB HC HB1 ⊢
 clear hW0 c0 c1 c2 c3 c4 c5 c6 c7 c8 d0 d1 d2 d3 d4 d5 d6 d7 d8 n1 e1 n2 e2 n3 e3 n4 e4 n5 e5
 have HBW0 : Hid (Below w.heap.size w W0) := Y1 HB1.out
 have HB0 := HB
 have HC0 := HC
 clear HB HC
 obtain ⟨_, ⟨c0, c1, c2, c3, c4, c5, c6, c7, c8⟩, _⟩ := HB0.out
 obtain ⟨_, ⟨d0, d1, d2, d3, d4, d5, d6, d7, d8⟩, _⟩ := HC0.out
 have hs1 := Z0Y q.A r.A q.c r.c t.names u.names W0 (HQ.out.strs.next HBW0.out) (HR.out.strs.next HBW0.out) HQ.out.small.l HR.out.small.l
 go_wp2_with fail
 rw [HG6.out] at hs1
 refine hs1.mono ?_
 rintro e w1 ⟨rfl, hb1⟩
 have HBW1 := Y1 (Z00 HBW0.out hb1)
 have HB1' := Y1 (HB0.out.next hb1)
 have HC1' := Y1 (HC0.out.next hb1)
 clear hs1 hb1 HB0 HC0 HB1 HBW0 hh1
 clear c0 c1 c2 c3 c4 c5 c6 c7 c8 d0 d1 d2 d3 d4 d5 d6 d7 d8
 obtain ⟨_, ⟨c0, c1, c2, c3, c4, c5, c6, c7, c8⟩, _⟩ := HB1'.out
 obtain ⟨_, ⟨d0, d1, d2, d3, d4, d5, d6, d7, d8⟩, _⟩ := HC1'.out
 have hs2 := Z0Y q.V r.V q.e r.e t.vars u.vars w1 (HQ.out.vars.next HBW1.out) (HR.out.vars.next HBW1.out) HQ.out.small.v HR.out.small.v
 go_wp2_with fail
 rw [HG7.out] at hs2
 refine hs2.mono ?_
 rintro e w2 ⟨rfl, hb2⟩
 have HBW2 := Y1 (Z00 HBW1.out hb2)
 have HB2 := Y1 (HB1'.out.next hb2)
 have HC2 := Y1 (HC1'.out.next hb2)
 clear hs2 hb2 HB1' HC1' HBW1
 clear c0 c1 c2 c3 c4 c5 c6 c7 c8 d0 d1 d2 d3 d4 d5 d6 d7 d8
 obtain ⟨_, ⟨c0, c1, c2, c3, c4, c5, c6, c7, c8⟩, _⟩ := HB2.out
 obtain ⟨_, ⟨d0, d1, d2, d3, d4, d5, d6, d7, d8⟩, _⟩ := HC2.out
 have e8 : ((t.shapes.length : Int) == (u.shapes.length : Int)) = true := by rw [HG8.out]; simp
 have n8 : ((t.shapes.length : Int) != (u.shapes.length : Int)) = false := by rw [HG8.out]; simp
 have e9 : ((t.parts.length : Int) == (u.parts.length : Int)) = true := by rw [HG9.out]; simp
 have n9 : ((t.parts.length : Int) != (u.parts.length : Int)) = false := by rw [HG9.out]; simp
 go_wp2_with fail
 clear e8 n8 e9 n9
 clear c0 c1 c2 c3 c4 c5 c6 c7 c8 d0 d1 d2 d3 d4 d5 d6 d7 d8
 go_loopw [7] (fun ii wr => ∃ i : Nat, ii = .int .i64 i /\ i <= t.shapes.length /\ Hid (∀ j (h : j < t.shapes.length) (h' : j < u.shapes.length), j < i -> Shp.eqB (t.shapes[j]'h) (u.shapes[j]'h') = true) /\ Hid (Below w2.heap.size w2 wr)) (fun i _ => t.shapes.length - (intOf i).toNat)
 case atStart => exact ⟨0, rfl, Nat.zero_le _, Y1 (fun j _ _ hj => absurd hj (by omega)), Y1 Y2⟩
 case round =>
  obtain ⟨i, rfl, hi, HN, HBX⟩ := hrel
  have hb := HBX.out
  have hbw : Below w.heap.size w wr := HBW2.out.trans (hb.mono HBW2.out.size)
  have hl := HQ.out.small.sh
  obtain ⟨_, ⟨c0, _, _, _, _, _, c6, _, _⟩, _⟩ := HB2.out.next hb
  obtain ⟨_, ⟨d0, _, _, _, _, _, d6, _, _⟩, _⟩ := HC2.out.next hb
  by_cases hlt : i < t.shapes.length
  {have hi1 : (i : Int) < (t.shapes.length : Int) := by omega
   have hi2 : (i : Int) < (u.shapes.length : Int) := by have := HG8.out; omega
   have hi3 : i < u.shapes.length := by omega
   rcases HQ.out.shapes with h0 | ⟨g, off, qs, hqP, hg, hc, hra⟩
   {omega}
   {rcases HR.out.shapes with h0 | ⟨g', off', qs', hrP, hg', hc', hra'⟩
    {omega}
    {obtain ⟨x, hx⟩ : ∃ x, x = t.shapes[i]'hlt := ⟨_, rfl⟩
     obtain ⟨y, hy⟩ : ∃ y, y = u.shapes[i]'hi3 := ⟨_, rfl⟩
     obtain ⟨p0, p1, p2, p3, p4⟩ := (hc i hlt).keep hg hbw
     obtain ⟨s0, s1, s2, s3, s4⟩ := (hc' i hi3).keep hg' hbw
     have hat : ShAt wr wr.heap.size (qs i) x := by rw [hx]; exact (hra i hlt).next hbw
     have hat' : ShAt wr wr.heap.size (qs' i) y := by rw [hy]; exact (hra' i hi3).next hbw
     rw [<- hx] at p0 p1 p2 p3 p4
     rw [<- hy] at s0 s1 s2 s3 s4
     have IH := Z5M x y (qs i) (qs' i) wr.drew (hat.next Y2.drew) (hat'.next Y2.drew)
     rw [hqP] at c6
     rw [hrP] at d6
     have HX := Y1 hx
     have HY := Y1 hy
     clear hx hy hc hc' hra hra' hat hat' hqP hrP
     go_wp2_with fail
     cases hxy : Shp.eqB x y
     {have HF : Hid (eqB true t u = false) := Y1 (Z6K hlt hi3 (by rw [<- HX.out, <- HY.out]; exact hxy))
      rw [hxy] at IH
      clear hxy
      go_still_tail 10, (by kernel_rfl)
      change wpList _ _ _ _ _ wr.drew
      go_wp2_with fail
      refine IH.mono ?_
      rintro e w3 ⟨rfl, hb2⟩
      go_wp2
      go_ret
      exact ⟨by rw [HF.out]; rfl, Z00 hbw.drew hb2⟩}
     {have HE : Hid (Shp.eqB (t.shapes[i]'hlt) (u.shapes[i]'hi3) = true) := Y1 (by rw [<- HX.out, <- HY.out]; exact hxy)
      rw [hxy] at IH
      clear hxy
      go_still_tail 10, (by kernel_rfl)
      change wpList _ _ _ _ _ wr.drew
      go_wp2_with fail
      refine IH.mono ?_
      rintro e w3 ⟨rfl, hb2⟩
      go_wp2
      go_roundw
      case rel => exact ⟨i + 1, by go_num, by omega, Y1 (fun j hj hj' hji => by
       rcases Nat.lt_succ_iff_lt_or_eq.1 hji with h | rfl
       {exact HN.out j hj hj' h}
       · exact HE.out), Y1 (Z00 hb.drew hb2)⟩
      case measure => simp [intOf]; omega}}}}
  {have HSS : Hid (∀ j (h : j < t.shapes.length) (h' : j < u.shapes.length), Shp.eqB (t.shapes[j]'h) (u.shapes[j]'h') = true) := Y1 (fun j h h' => HN.out j h h' (by omega))
   have HBW := Y1 hb
   clear hbw hb HN HBX
   go_wp2_with fail
   go_loopw [8] (fun ii wx => ∃ k : Nat, ii = .int .i64 k /\ k <= t.parts.length /\ Hid (∀ j (h : j < t.parts.length) (h' : j < u.parts.length), j < k -> eqB true (t.parts[j]'h) (u.parts[j]'h') = true) /\ Hid (Below w2.heap.size w2 wx)) (fun i _ => t.parts.length - (intOf i).toNat)
   case atStart => exact ⟨0, rfl, Nat.zero_le _, Y1 (fun j _ _ hj => absurd hj (by omega)), HBW⟩
   case round =>
    obtain ⟨k, rfl, hk, HN, HBX⟩ := hrel
    have hb := HBX.out
    have hbw : Below w.heap.size w wr := HBW2.out.trans (hb.mono HBW2.out.size)
    have hm := HQ.out.small.m
    clear c0 c6 d0 d6
    obtain ⟨_, ⟨c0, _, _, _, _, _, _, c7, _⟩, _⟩ := HB2.out.next hb
    obtain ⟨_, ⟨d0, _, _, _, _, _, _, d7, _⟩, _⟩ := HC2.out.next hb
    by_cases hlt2 : k < t.parts.length
    {have hi1 : (k : Int) < (t.parts.length : Int) := by omega
     have hi2 : (k : Int) < (u.parts.length : Int) := by have := HG9.out; omega
     have hi3 : k < u.parts.length := by omega
     rcases HQ.out.part with h0 | ⟨g, off, qs, hqP, hg, hc, hra⟩
     {omega}
     {rcases HR.out.part with h0 | ⟨g', off', qs', hrP, hg', hc', hra'⟩
      {omega}
      {obtain ⟨x, hx⟩ : ∃ x, x = t.parts[k]'hlt2 := ⟨_, rfl⟩
       obtain ⟨y, hy⟩ : ∃ y, y = u.parts[k]'hi3 := ⟨_, rfl⟩
       obtain ⟨p0, p1, p2, p3, p4, p5, p6, p7, p8⟩ := (hc k hlt2).keep hg hbw
       obtain ⟨s0, s1, s2, s3, s4, s5, s6, s7, s8⟩ := (hc' k hi3).keep hg' hbw
       have hat : TmAt wr wr.heap.size (qs k) x := by rw [hx]; exact (hra k hlt2).next hbw
       have hat' : TmAt wr wr.heap.size (qs' k) y := by rw [hy]; exact (hra' k hi3).next hbw
       have ihx := IHH.out t.parts[k] (List.getElem_mem _) y (qs k) (qs' k) wr.drew
       rw [<- hx] at p0 p1 p2 p3 p4 p5 p6 p7 p8 ihx
       rw [<- hy] at s0 s1 s2 s3 s4 s5 s6 s7 s8
       have IH := ihx (hat.next Y2.drew) (hat'.next Y2.drew)
       rw [hqP] at c7
       rw [hrP] at d7
       have HX := Y1 hx
       have HY := Y1 hy
       clear hx hy hc hc' hra hra' hat hat' ihx hqP hrP
       go_wp2_with fail
       cases hxy : eqB true x y
       {have HF : Hid (eqB true t u = false) := Y1 (Z6L hlt2 hi3 (by rw [<- HX.out, <- HY.out]; exact hxy))
        rw [hxy] at IH
        clear hxy
        go_still_tail 11, (by kernel_rfl)
        change wpList _ _ _ _ _ wr.drew
        go_wp2_with fail
        refine IH.mono ?_
        rintro e w3 ⟨rfl, hb2⟩
        go_wp2
        go_ret
        exact ⟨by rw [HF.out]; rfl, Z00 hbw.drew hb2⟩}
       {have HE : Hid (eqB true (t.parts[k]'hlt2) (u.parts[k]'hi3) = true) := Y1 (by rw [<- HX.out, <- HY.out]; exact hxy)
        rw [hxy] at IH
        clear hxy
        go_still_tail 11, (by kernel_rfl)
        change wpList _ _ _ _ _ wr.drew
        go_wp2_with fail
        refine IH.mono ?_
        rintro e w3 ⟨rfl, hb2⟩
        go_wp2
        go_roundw
        case rel => exact ⟨k + 1, by go_num, by omega, Y1 (fun j hj hj' hji => by
         rcases Nat.lt_succ_iff_lt_or_eq.1 hji with h | rfl
         {exact HN.out j hj hj' h}
         · exact HE.out), Y1 (Z00 hb.drew hb2)⟩
        case measure => simp [intOf]; omega}}}}
    {have HF : Hid (eqB true t u = true) := Y1 (Z9I HH1.out HH2.out HSS.out (fun j hj hj' => HN.out j hj hj' (by omega)))
     go_wp2
     go_ret
     exact ⟨by rw [HF.out]; rfl, hbw⟩}}
end Go.Proofs.YtnkdedejfonbmaaGreatDoor
namespace Tms
theorem Zbe {f : Tm -> Tm} {l : List Tm} (h : ∀ p ∈ l, weight (f p) = weight p) : weights (l.map f) = weights l := by
 induction l with
 | nil => rfl
 | cons a l ih => simp [weights, h a (by simp), ih (fun p hp => h p (by simp [hp]))]
theorem Z9J (t : Tm) : weight (strip t) = weight t := by
 induction t using Tm.ind with
 | h t ih => rw [Z0A, Z14, Z14 t, Zbe ih]
theorem Z7a {l : List Tm} (h : ∀ p ∈ l, ∀ a, weight (moved a p) = weight p) : ∀ a, weights (moveds a l) = weights l := by
 induction l with
 | nil => intro a; rfl
 | cons p l ih =>
  intro a
  simp only [moveds, weights]
  rw [h p (by simp), ih (fun q hq => h q (by simp [hq]))]
theorem Z9K (t : Tm) : ∀ a, weight (moved a t) = weight t := by
 induction t using Tm.ind with
 | h t ih => intro a; rw [Z4E, Z14, Z14 t]; simp only; rw [Z7a ih]
theorem Zdo {t : Tm} (h : tame t = true) : tame (strip t) = true := by unfold tame at *; rw [Z9J]; exact h
theorem Z6N {t : Tm} (h : tame t = true) (a : Int) : tame (moved a t) = true := by unfold tame at *; rw [Z9K]; exact h
theorem Z6O {t : Tm} (h : check t = 0) : same [t, strip t, moved 5 t] = true := by
 have := ZdR h (a := 5) (by omega)
 rwa [Z38 h] at this
theorem Z9L (t : Tm) : eqB true t t = true := (eqB_iff t t).2 rfl
end Tms
namespace Go.Proofs.YtnkdedejfonbmaaGreatDoor
open Go.RowKit Tms
def Z6P (t : Tm) : Want := ⟨fun v W => ∃ q' : TP, v = .agg (Y7 t q') /\ TmAt W W.heap.size q' t, fun v w w' hb ⟨q', h1, h2⟩ => ⟨q', h1, h2.next hb⟩⟩
theorem one8 (W : World) (x : Tm) (qx : TP) (hx : TmAt W W.heap.size qx x) : TmsIn (W.alloc (.cells (Y7 x qx) 26)) (W.alloc (.cells (Y7 x qx) 26)).heap.size (some ⟨W.heap.size, 0, none⟩) [x] := by
 refine Or.inr ⟨W.heap.size, 0, fun i => qx, rfl, by simp, fun i hi => ?_, fun i hi => ?_⟩
 {have h1 : i < 1 := hi
  match i, h1 with
  | 0, _ => refine ⟨?_, ?_, ?_, ?_, ?_, ?_, ?_, ?_, ?_⟩ <;> simp [go_sem]}
 {have h1 : i < 1 := hi
  match i, h1 with
  | 0, _ => exact hx.next (Z02 W _)}
theorem Zgm {x : Tm} (hx : few x = true) : ∀ t ∈ [x], few t = true := by
 intro t ht; simp only [List.mem_cons, List.not_mem_nil, or_false] at ht; rw [ht]; exact hx
end Go.Proofs.YtnkdedejfonbmaaGreatDoor
namespace Go.Proofs.YtnkdedejfonbmaaGreatDoor
open Go.RowKit Tms
open Shp (Sh)
def SameT (W W' : World) (b : Nat) : Prop := (∀ k, W'.cell? ⟨b, k, none⟩ = W.cell? ⟨b, k, none⟩) /\ ∀ k, W'.frozen? ⟨b, k, none⟩ = W.frozen? ⟨b, k, none⟩
theorem Z1k (W : World) (a : Addr) (u : Value) {b : Nat} (h : a.block ≠ b) : SameT W (W.setCell a u) b :=
 ⟨fun k => World.cell?_setCell_other _ _ _ _ (fun e => h (congrArg Addr.block e)), fun k => World.frozen?_setCell ..⟩
theorem SameT.trans {a b c : World} {x : Nat} (h : SameT a b x) (k : SameT b c x) : SameT a c x := ⟨fun j => (k.1 j).trans (h.1 j), fun j => (k.2 j).trans (h.2 j)⟩
theorem Zgn {W : World} {B : Nat} {e : TypeId} {size : Nat} {v : Value} {n : Nat} {xs : List Value} (h : W.ownsRow B e size v n xs) {a : Addr} (hne : v.ownBlock ≠ some a.block) (u : Value) : (W.setCell a u).ownsRow B e size v n xs :=
 h.kept (row := some a.block) ⟨rfl, rfl, rfl, by simp [World.setCell], fun k hk hn => Below.heap_setCell _ _ _ _ (fun e => hn (by rw [e]))⟩ (Or.inr hne)
structure UpT (F : List Nat) (w w' : World) : Prop where
 os : w'.os = w.os
 tape : w'.tape = w.tape
 output : w'.output = w.output
 size : w.heap.size <= w'.heap.size
 block : ∀ k, k < w.heap.size -> k ∉ F -> w'.heap[k]? = w.heap[k]?
theorem UpT.refl (F : List Nat) (w : World) : UpT F w w := ⟨rfl, rfl, rfl, Nat.le_refl _, fun _ _ _ => rfl⟩
theorem UpT.below {F : List Nat} {a b c : World} (h : UpT F a b) (k : Below b.heap.size b c) : UpT F a c :=
 ⟨k.os.trans h.os, k.tape.trans h.tape, k.output.trans h.output, Nat.le_trans h.size k.size, fun x h1 h2 => (k.block x (Nat.lt_of_lt_of_le h1 h.size)).trans (h.block x h1 h2)⟩
theorem UpT.same {F : List Nat} {w w' : World} (h : UpT F w w') {b : Nat} (h1 : b < w.heap.size) (h2 : b ∉ F) : SameT w w' b :=
 ⟨fun k => World.cell?_of_block (w := w) (h.block b h1 h2), fun k => World.frozen?_of_block (w := w) (h.block b h1 h2)⟩
theorem UpT.old {ob : Nat} {w W1 W : World} (h : UpT [ob] W1 W) (hb : Below w.heap.size w W1) (ho : w.heap.size <= ob) : Below w.heap.size w W :=
 ⟨h.os.trans hb.os, h.tape.trans hb.tape, h.output.trans hb.output, Nat.le_trans hb.size h.size, fun k hk => (h.block k (Nat.lt_of_lt_of_le hk hb.size) (by simp; omega)).trans (hb.block k hk)⟩
def rowT (A : Option Addr) : Option Nat := A.map (·.block)
theorem Z9M (A : Option Addr) (n c : Nat) : Value.ownBlock (.slice A n c) = rowT A := by cases A <;> rfl
theorem Z2y {W : World} {A : Option Addr} {m c B e s : Nat} {xs : List Value} (h : W.ownsRow B e s (.slice A m c) m xs) : ∀ b, rowT A = some b -> B <= b /\ b < W.heap.size := fun b hb => h.lt b (by rw [Z9M]; exact hb)
theorem Zbf {W : World} {A : Option Addr} {m c B e s : Nat} {xs : List Value} (h : W.ownsRow B e s (.slice A m c) m xs) : (A = none /\ m = 0 /\ c = 0) \/ ∃ g, A = some ⟨g, 0, none⟩ /\ m <= c := by
 rcases h.2 with ⟨h1, h2⟩ | ⟨g, cap, cur, h1, _, _, h2, _⟩
 {simp only [Value.slice.injEq] at h1; exact Or.inl ⟨h1.1, h2, h1.2.2⟩}
 {simp only [Value.slice.injEq] at h1
  obtain ⟨h3, _, rfl⟩ := h1
  exact Or.inr ⟨g, h3, h2⟩}
inductive TOwn (W : World) (B0 : Nat) (F : Nat -> Prop) : TP -> Tm -> Prop
 | mk (q : TP) (t : Tm) (g : Nat) (qs : Nat -> TP) (hs : TSmall t q) (hn : Strs W B0 q.A (strs t.names)) (hv : Strs W B0 q.V (strs t.vars)) (hS : ShsAt W B0 q.S t.shapes) (hp : t.parts.length = 0 \/ q.P = some ⟨g, 0, none⟩ /\ F g /\ g < W.heap.size)
  (hc : ∀ i (h : i < t.parts.length), Tm9 W g (i * 9) (t.parts[i]'h) (qs i)) (hr : ∀ i (h : i < t.parts.length), TOwn W B0 F (qs i) (t.parts[i]'h)) : TOwn W B0 F q t
theorem TOwn.of {W W' : World} {B0 : Nat} {F F' : Nat -> Prop} {q : TP} {t : Tm} (h : TOwn W B0 F q t) (h0 : ∀ b k, b < B0 -> W'.cell? ⟨b, k, none⟩ = W.cell? ⟨b, k, none⟩)
 (hF : ∀ b, F b -> b < W.heap.size -> F' b /\ ∀ k, W'.cell? ⟨b, k, none⟩ = W.cell? ⟨b, k, none⟩) (hz : W.heap.size <= W'.heap.size) : TOwn W' B0 F' q t := by
 induction h with
 | mk q t g qs hs hn hv hS hp hc hr ih =>
  refine .mk q t g qs hs (Z1m hn (Nat.le_refl _) h0) (Z1m hv (Nat.le_refl _) h0) (hS.of (Nat.le_refl _) h0) ?_ ?_ ih
  {rcases hp with h | ⟨h1, h2, h3⟩
   {exact Or.inl h}
   {exact Or.inr ⟨h1, (hF g h2 h3).1, Nat.lt_of_lt_of_le h3 hz⟩}}
  {intro i hi
   rcases hp with h | ⟨h1, h2, h3⟩
   {omega}
   {exact (hc i hi).of (hF g h2 h3).2}}
theorem TOwn.at_ {W : World} {B0 : Nat} {F : Nat -> Prop} {q : TP} {t : Tm} (h : TOwn W B0 F q t) (hB : B0 <= W.heap.size) : TmAt W W.heap.size q t := by
 induction h with
 | mk q t g qs hs hn hv hS hp hc hr ih =>
  refine .mk q t g 0 qs hs (Z1m hn hB (fun _ _ _ => rfl)) (Z1m hv hB (fun _ _ _ => rfl)) (hS.of hB (fun _ _ _ => rfl)) ?_ ?_ ih
  {rcases hp with h | ⟨h1, _, h3⟩
   {exact Or.inl h}
   {exact Or.inr ⟨h1, h3⟩}}
  {intro i hi; rw [Nat.zero_add]; exact hc i hi}
theorem TOwn.low {W W' : World} {B0 : Nat} {F F' : Nat -> Prop} {q : TP} {t : Tm} (h : TOwn W B0 F q t) (hb : Below W.heap.size W W') (hB : B0 <= W.heap.size) (hF : ∀ b, F b -> b < W.heap.size -> F' b) : TOwn W' B0 F' q t :=
 h.of (fun b k hk => hb.cell (p := ⟨b, k, none⟩) (Nat.lt_of_lt_of_le hk hB)) (fun b h1 h2 => ⟨hF b h1 h2, fun k => hb.cell (p := ⟨b, k, none⟩) h2⟩) hb.size
structure Et where
 t : Tm
 q : TP
def Z1q (x : Et) : List Value := [.int .i64 x.t.kind, .string ⟨x.t.of_.toArray⟩, .string ⟨x.t.name.toArray⟩, .int .i64 x.t.n, .slice x.q.A x.t.names.length x.q.c, .slice x.q.V x.t.vars.length x.q.e, .slice x.q.S x.t.shapes.length x.q.s, .slice x.q.P x.t.parts.length x.q.d, .int .i64 x.t.at_]
def cellsTm (l : List Et) : List Value := l.flatMap Z1q
theorem Z1Y (l m : List Et) : cellsTm (l ++ m) = cellsTm l ++ cellsTm m := by simp [cellsTm]
theorem Z3N (x : Et) : cellsTm [x] = Z1q x := by simp [cellsTm]
theorem Zbg (l : List Et) : (cellsTm l).length = l.length * 9 := by
 induction l with
 | nil => rfl
 | cons a l ih => rw [show a :: l = [a] ++ l from rfl, Z1Y, List.length_append, ih, Z3N]; simp [Z1q]; omega
theorem Z6R (x : Et) : ∀ u ∈ Z1q x, u.oneCell' = true := by
 intro u hu
 simp only [Z1q, List.mem_cons, List.not_mem_nil, or_false] at hu
 rcases hu with rfl | rfl | rfl | rfl | rfl | rfl | rfl | rfl | rfl <;> rfl
theorem Zdp {l : List Et} {i c : Nat} (hi : i < l.length) (hc : c < 9) : (cellsTm l)[i * 9 + c]? = (Z1q (l[i]'hi))[c]? := by
 have h1 : l = l.take i ++ ([l[i]'hi] ++ l.drop (i + 1)) := by rw [List.singleton_append, List.getElem_cons_drop, List.take_append_drop]
 have h2 : (cellsTm (l.take i)).length = i * 9 := by rw [Zbg, List.length_take]; omega
 have h3 : (Z1q (l[i]'hi)).length = 9 := rfl
 conv => lhs; rw [h1]
 rw [Z1Y, Z1Y, Z3N, List.getElem?_append_right (by omega), h2, Nat.add_sub_cancel_left, List.getElem?_append_left (by omega)]
structure OutT (W1 W : World) (ob B0 : Nat) (s : Tm) (q : TP) (a : Int) (l : List Et) (AP : Option Addr) (cP : Nat) : Prop where
 up : UpT [ob] W1 W
 lt : ob < W1.heap.size
 bo : B0 <= ob
 c0 : W.cell? ⟨ob, 0, none⟩ = some (.int .i64 s.kind)
 c1 : W.cell? ⟨ob, 1, none⟩ = some (.string ⟨s.of_.toArray⟩)
 c2 : W.cell? ⟨ob, 2, none⟩ = some (.string ⟨s.name.toArray⟩)
 c3 : W.cell? ⟨ob, 3, none⟩ = some (.int .i64 s.n)
 c4 : W.cell? ⟨ob, 4, none⟩ = some (.slice q.A s.names.length q.c)
 c5 : W.cell? ⟨ob, 5, none⟩ = some (.slice q.V s.vars.length q.e)
 c6 : W.cell? ⟨ob, 6, none⟩ = some (.slice q.S s.shapes.length q.s)
 c7 : W.cell? ⟨ob, 7, none⟩ = some (.slice AP l.length cP)
 c8 : W.cell? ⟨ob, 8, none⟩ = some (.int .i64 a)
 fz : ∀ j, W.frozen? ⟨ob, j, none⟩ = false
 rP : W.ownsRow W1.heap.size 26 9 (.slice AP l.length cP) l.length (cellsTm l)
 own : ∀ x ∈ l, TOwn W B0 (fun b => W1.heap.size <= b /\ rowT AP ≠ some b) x.q x.t
section
variable {W1 W : World} {ob B0 : Nat} {s : Tm} {q : TP} {a : Int} {l : List Et} {AP : Option Addr} {cP : Nat}
theorem OutT.below {W' : World} (h : OutT W1 W ob B0 s q a l AP cP) (hb : Below W.heap.size W W') : OutT W1 W' ob B0 s q a l AP cP := by
 have hob := Nat.lt_of_lt_of_le h.lt h.up.size
 have hbo := h.bo
 have e : ∀ j, W'.cell? ⟨ob, j, none⟩ = W.cell? ⟨ob, j, none⟩ := fun j => hb.cell (p := ⟨ob, j, none⟩) hob
 have g : W.grownBy W' none := ⟨hb.os, hb.tape, hb.output, hb.size, fun j hj _ => hb.block j hj⟩
 refine ⟨h.up.below hb, h.lt, h.bo, (e 0).trans h.c0, (e 1).trans h.c1, (e 2).trans h.c2, (e 3).trans h.c3, (e 4).trans h.c4, (e 5).trans h.c5, (e 6).trans h.c6, (e 7).trans h.c7, (e 8).trans h.c8, fun j => (hb.frozen (p := ⟨ob, j, none⟩) hob).trans (h.fz j), h.rP.kept g ?_, fun x hx => (h.own x hx).low hb (by omega) (fun b h1 _ => h1)⟩
 cases hq : Value.ownBlock (.slice AP l.length cP) with
 | none => exact Or.inl rfl
 | some b => exact Or.inr nofun
theorem OutT.putP {Wm : World} {l' : List Et} {g cap : Nat} (h : OutT W1 W ob B0 s q a l AP cP) (hg : W.grownBy Wm (rowT AP)) (hrow : Wm.ownsRow W1.heap.size 26 9 (.slice (some ⟨g, 0, none⟩) l'.length cap) l'.length (cellsTm l'))
 (hnew : rowT AP = some g \/ W.heap.size <= g) (hl : ∀ x ∈ l', TOwn W B0 (fun b => W1.heap.size <= b /\ rowT AP ≠ some b) x.q x.t) :
 OutT W1 (Wm.setCell ⟨ob, 7, none⟩ (.slice (some ⟨g, 0, none⟩) l'.length cap)) ob B0 s q a l' (some ⟨g, 0, none⟩) cap := by
 have hob := Nat.lt_of_lt_of_le h.lt h.up.size
 have hbo := h.bo
 have hlt := h.lt
 have hgo : g ≠ ob := by
  rcases hnew with h1 | h1
  {have := (Z2y h.rP g h1).1; omega}
  {omega}
 have hne : some ob ≠ rowT AP := fun e => by have := (Z2y h.rP ob e.symm).1; omega
 have hs : ∀ b, b < W.heap.size -> rowT AP ≠ some b -> SameT W Wm b := fun b hb hn => ⟨fun j => World.cell?_of_block (w := W) (hg.block b hb (fun e => hn e.symm)), fun j => World.frozen?_of_block (w := W) (hg.block b hb (fun e => hn e.symm))⟩
 have ho := hs ob hob (fun e => hne e.symm)
 have far : ∀ j, j ≠ 7 -> (Wm.setCell ⟨ob, 7, none⟩ (.slice (some ⟨g, 0, none⟩) l'.length cap)).cell? ⟨ob, j, none⟩ = W.cell? ⟨ob, j, none⟩ := fun j hj => (World.cell?_setCell_other _ _ _ _ (fun e => by have := congrArg Addr.off e; simp at this; omega)).trans (ho.1 j)
 have hsz : (Wm.setCell ⟨ob, 7, none⟩ (.slice (some ⟨g, 0, none⟩) l'.length cap)).heap.size = Wm.heap.size := by simp [World.setCell]
 have hW1 := h.up.size
 have hz := hg.size
 refine ⟨⟨hg.os.trans h.up.os, hg.tape.trans h.up.tape, hg.output.trans h.up.output, by omega, fun b hb hm => ?_⟩, h.lt, h.bo, (far 0 (by omega)).trans h.c0, (far 1 (by omega)).trans h.c1, (far 2 (by omega)).trans h.c2, (far 3 (by omega)).trans h.c3, (far 4 (by omega)).trans h.c4, (far 5 (by omega)).trans h.c5, (far 6 (by omega)).trans h.c6, World.cell?_setCell_same _ _ _ ((ho.1 7).trans h.c7), (far 8 (by omega)).trans h.c8, fun j => ?_, ?_, fun x hx => ?_⟩
 {have hbo : b ≠ ob := by simpa using hm
  rw [Below.heap_setCell _ _ _ _ hbo, hg.block b (by omega) (fun e => by have := (Z2y h.rP b e.symm).1; omega)]
  exact h.up.block b hb hm}
 {rw [World.frozen?_setCell]; exact (ho.2 j).trans (h.fz j)}
 {exact Zgn hrow (a := ⟨ob, 7, none⟩) (fun e => hgo (Option.some.inj e)) _}
 {have hfar : ∀ b k, b < W.heap.size -> rowT AP ≠ some b -> b ≠ ob -> (Wm.setCell ⟨ob, 7, none⟩ (.slice (some ⟨g, 0, none⟩) l'.length cap)).cell? ⟨b, k, none⟩ = W.cell? ⟨b, k, none⟩ := fun b k h1 h2 h3 => ((hs b h1 h2).trans (Z1k _ _ _ (fun e => h3 (by simpa using e.symm)))).1 k
  refine (hl x hx).of (fun b k hb => hfar b k (by omega) (fun e => by have := (Z2y h.rP b e).1; omega) (by omega)) (fun b hb hbl => ⟨⟨hb.1, fun e => ?_⟩, fun k => hfar b k hbl hb.2 (by have := hb.1; omega)⟩) (by omega)
  have e2 : g = b := Option.some.inj e
  rcases hnew with h1 | h1
  {exact hb.2 (e2 ▸ h1)}
  {omega}}
theorem OutT.result {w : World} {u : Tm} (h : OutT W1 W ob B0 s q a l AP cP) (hq : TmAt w B0 q s) (hb : Below B0 w W) (hu : u = ⟨s.kind, s.of_, s.name, s.n, s.names, s.vars, s.shapes, l.map Et.t, a⟩) (ha : -9223372036854775808 <= a /\ a <= 9223372036854775807) (hl : l.length <= 9223372036854775807) :
 TOwn W B0 (fun b => W1.heap.size <= b) ⟨q.A, q.c, q.V, q.e, q.S, q.s, AP, cP⟩ u := by
 subst hu
 have hc0 : ∀ g k, g < B0 -> W.cell? ⟨g, k, none⟩ = w.cell? ⟨g, k, none⟩ := fun g k hg => hb.cell (p := ⟨g, k, none⟩) hg
 have fP := Zbf h.rP
 have hs := hq.small
 have hget : ∀ i (hi : i < l.length), (l.map Et.q).getD i q = (l[i]'hi).q := fun i hi => by simp [hi]
 refine .mk _ _ ((rowT AP).getD 0) (fun i => (l.map Et.q).getD i q) ⟨hs.o, hs.n, hs.ns, hs.vs, hs.l, hs.v, hs.sh, by simpa using hl, hs.c, hs.e, hs.s, ?_, hs.A0, hs.V0, hs.S0, ?_, hs.i3, ha, hs.i0⟩ (Z1m hq.strs (Nat.le_refl _) hc0) (Z1m hq.vars (Nat.le_refl _) hc0) (hq.shapes.of (Nat.le_refl _) hc0) ?_ ?_ ?_
 {simp only [List.length_map]
  rcases fP with ⟨_, h1, h2⟩ | ⟨_, _, h1⟩
  {omega}
  {exact h1}}
 {intro e
  rcases fP with ⟨_, h1, h2⟩ | ⟨g, h1, _⟩
  {exact h2}
  {simp only at e; rw [h1] at e; cases e}}
 {simp only [List.length_map]
  rcases fP with ⟨_, h1, h2⟩ | ⟨g, h1, _⟩
  {exact Or.inl h1}
  {refine Or.inr ?_
   rw [h1]
   have := Z2y h.rP g (by rw [h1]; rfl)
   exact ⟨rfl, this.1, this.2⟩}}
 {intro i hi
  simp only [List.length_map] at hi
  simp only [List.getElem_map]
  rw [hget i hi]
  rcases fP with ⟨_, h1, h2⟩ | ⟨g, h1, _⟩
  {omega}
  {have hrp := h.rP
   rw [h1] at hrp
   have hcell : ∀ c, c < 9 -> W.cell? ⟨g, i * 9 + c, none⟩ = (Z1q (l[i]'hi))[c]? := fun c hc => by
    rw [hrp.cellAt (i * 9 + c) (by omega)]
    exact Zdp hi hc
   rw [h1]
   show Tm9 W g (i * 9) _ _
   exact ⟨hcell 0 (by omega), hcell 1 (by omega), hcell 2 (by omega), hcell 3 (by omega), hcell 4 (by omega), hcell 5 (by omega), hcell 6 (by omega), hcell 7 (by omega), hcell 8 (by omega)⟩}}
 {intro i hi
  simp only [List.length_map] at hi
  simp only [List.getElem_map]
  rw [hget i hi]
  exact (h.own _ (List.getElem_mem hi)).of (fun _ _ _ => rfl) (fun b h1 _ => ⟨h1.1, fun _ => rfl⟩) (Nat.le_refl _)}
end
end Go.Proofs.YtnkdedejfonbmaaGreatDoor
namespace Go.Proofs.YtnkdedejfonbmaaGreatDoor
open Go.RowKit Tms
open Shp (Sh)
theorem Z2l : ∀ (a : Int) (l : List Tm), (moveds a l).length = l.length
 | _, [] => rfl
 | a, p :: l => by simp [moveds, Z2l (a + 1) l]
theorem Z6S : ∀ (a : Int) (l : List Tm) (i : Nat) (h : i < l.length) (h' : i < (moveds a l).length), (moveds a l)[i]'h' = moved (a + i) (l[i]'h)
 | a, p :: l, 0, _, _ => by simp [moveds]
 | a, p :: l, i + 1, h, h' => by
  simp only [moveds, List.getElem_cons_succ]
  rw [Z6S (a + 1) l i (by simpa using h)]
  congr 1
  omega
 | _, [], i, h, _ => absurd h (by simp)
theorem Zgo (a : Int) (t : Tm) : moved a t = ⟨t.kind, t.of_, t.name, t.n, t.names, t.vars, t.shapes, moveds a t.parts, a⟩ := by cases t; rfl
theorem Zh7 {l : List Tm} {i : Nat} (h : i < l.length) : i + size (l[i]'h) <= sizes l := by
 have h1 := sizes_next h
 have h2 := sizes_take l (i + 1)
 have h3 := length_sizes (l.take i)
 rw [List.length_take] at h3
 omega
theorem Zdq : (Tryz.prog.info? 26).map (fun i => (i.zero, i.size, i.bytes)) = some (some (.agg #[.int .i64 0, .string ByteArray.empty, .string ByteArray.empty, .int .i64 0, .slice none 0 0, .slice none 0 0, .slice none 0 0, .slice none 0 0, .int .i64 0]), 9, 152) := by kernel_rfl
theorem Zbh {P : Program} {e : TypeId} {z : Value} {size bytes : Nat} (h : (P.info? e).map (fun i => (i.zero, i.size, i.bytes)) = some (some z, size, bytes)) : ∃ i, P.info? e = some i /\ i.zero = some z /\ i.size = size /\ i.bytes = bytes := by
 cases hi : P.info? e with
 | none => rw [hi] at h; cases h
 | some i =>
  rw [hi] at h
  simp only [Option.map_some, Option.some.injEq, Prod.mk.injEq] at h
  exact ⟨i, rfl, h.1, h.2.1, h.2.2⟩
def mvW (w : World) (t : Tm) (q : TP) (a : Int) : World := ((w.alloc (.cells (Y7 t q) 26)).alloc (.cells #[.int .i64 0, .string ⟨#[]⟩, .string ⟨#[]⟩, .int .i64 0, .slice none 0 0, .slice none 0 0, .slice none 0 0, .slice none 0 0, .int .i64 0] 26)).alloc (.cells #[.int .i64 t.kind, .string ⟨t.of_.toArray⟩, .string ⟨t.name.toArray⟩, .int .i64 t.n, .slice q.A t.names.length q.c, .slice q.V t.vars.length q.e, .slice q.S t.shapes.length q.s, .slice none 0 0, .int .i64 a] 26)
theorem Z9N (w : World) (t : Tm) (q : TP) (a : Int) : (mvW w t q a).heap.size = w.heap.size + 3 := by simp [mvW]
theorem Zfc (w : World) (t : Tm) (q : TP) (a : Int) : Below w.heap.size w (mvW w t q a) := Z08 (Z08 (Z02 _ _) _) _
theorem Zh8 (w : World) (t : Tm) (q : TP) (a : Int) : Box9 (mvW w t q a) w.heap.size t q := ((Z07 w t q).next (Z02 _ _)).next (Z02 _ _)
def none8 : Tm := ⟨0, [], [], 0, [], [], [], [], 0⟩
def noneTm : TP := ⟨none, 0, none, 0, none, 0, none, 0⟩
theorem Zh9 (w : World) (t : Tm) (q : TP) (a : Int) : Box9 (mvW w t q a) (w.heap.size + 1) none8 noneTm := by
 have h := (Z07 (w.alloc (.cells (Y7 t q) 26)) none8 noneTm).next (Z02 _ (.cells #[.int .i64 t.kind, .string ⟨t.of_.toArray⟩, .string ⟨t.name.toArray⟩, .int .i64 t.n, .slice q.A t.names.length q.c, .slice q.V t.vars.length q.e, .slice q.S t.shapes.length q.s, .slice none 0 0, .int .i64 a] 26))
 have e : (w.alloc (.cells (Y7 t q) 26)).heap.size = w.heap.size + 1 := by simp
 rw [e] at h
 exact h
theorem Zha (w : World) (t : Tm) (q : TP) (a : Int) {B0 : Nat} (hB : B0 <= w.heap.size) : OutT (mvW w t q a) (mvW w t q a) (w.heap.size + 2) B0 t q a [] none 0 := by
 have e : w.heap.size + 2 = ((w.alloc (.cells (Y7 t q) 26)).alloc (.cells #[.int .i64 0, .string ⟨#[]⟩, .string ⟨#[]⟩, .int .i64 0, .slice none 0 0, .slice none 0 0, .slice none 0 0, .slice none 0 0, .int .i64 0] 26)).heap.size := by simp
 refine ⟨UpT.refl _ _, by rw [Z9N]; omega, by omega, ?_, ?_, ?_, ?_, ?_, ?_, ?_, ?_, ?_, fun j => ?_, World.ownsRow_nil _ _ _ _, nofun⟩
 all_goals
  unfold mvW
  rw [e]
  simp [go_sem]
def Rp8 (W1 wr : World) (ob B0 : Nat) (t : Tm) (q : TP) (a : Int) (f : List Tm) (i : Nat) : Prop := ∃ l AP cP, OutT W1 wr ob B0 t q a l AP cP /\ l.map Et.t = f.take i
theorem Rp8.push {W1 Wa W3 : World} {ob B0 : Nat} {t : Tm} {q : TP} {a : Int} {f : List Tm} {i g cap : Nat} {l : List Et} {AP : Option Addr} {cP : Nat} {x : Et} (hO : OutT W1 Wa ob B0 t q a l AP cP) (hl : l.map Et.t = f.take i) (hi : i < f.length) (hx : x.t = f[i]'hi)
 (hxo : TOwn Wa B0 (fun b => W1.heap.size <= b /\ rowT AP ≠ some b) x.q x.t) (hg : Wa.grownBy W3 (rowT AP)) (hat : rowT AP = some g \/ g = Wa.heap.size)
 (hrow : W3.ownsRow W1.heap.size 26 9 (.slice (some ⟨g, 0, none⟩) (l.length + 1) cap) (l.length + 1) (cellsTm l ++ Z1q x)) :
 Rp8 W1 (W3.setCell ⟨ob, 7, none⟩ (.slice (some ⟨g, 0, none⟩) (l.length + 1) cap)) ob B0 t q a f (i + 1) := by
 have hBW : B0 <= Wa.heap.size := by have := hO.bo; have := hO.lt; have := hO.up.size; omega
 refine ⟨l ++ [x], some ⟨g, 0, none⟩, cap, ?_, ?_⟩
 {have e : l.length + 1 = (l ++ [x]).length := by simp
  rw [e] at hrow ⊢
  refine hO.putP hg (by rw [Z1Y, Z3N]; exact hrow) (hat.imp id (fun h => by omega)) (fun y hy => ?_)
  rcases List.mem_append.1 hy with hy | hy
  {exact hO.own y hy}
  {obtain rfl : y = x := by simpa using hy
   exact hxo}}
 {rw [List.map_append, hl, Shp.Z0C hi]
  simp [hx]}
theorem ZhN (W : World) (x : Et) (H : Nat) (hH : W.heap.size = H) : ∀ j u, (Z1q x)[j]? = some u -> (W.alloc (.cells #[.int .i64 x.t.kind, .string ⟨x.t.of_.toArray⟩, .string ⟨x.t.name.toArray⟩, .int .i64 x.t.n, .slice x.q.A x.t.names.length x.q.c, .slice x.q.V x.t.vars.length x.q.e, .slice x.q.S x.t.shapes.length x.q.s, .slice x.q.P x.t.parts.length x.q.d, .int .i64 x.t.at_] 26)).cell? ((⟨H, 0, none⟩ : Addr).add j) = some u := by
 subst hH
 intro j u hj
 rw [Z1c, Nat.zero_add, World.cell?_alloc_at _ _ _ _ rfl]
 simpa [Z1q] using hj
def Zgu (W : World) (b : Nat) (a0 a1 a2 a3 a4 a5 a6 a7 a8 : Value) : World := ((((((((W.setCell ⟨b, 0, none⟩ a0).setCell ⟨b, 1, none⟩ a1).setCell ⟨b, 2, none⟩ a2).setCell ⟨b, 3, none⟩ a3).setCell ⟨b, 4, none⟩ a4).setCell ⟨b, 5, none⟩ a5).setCell ⟨b, 6, none⟩ a6).setCell ⟨b, 7, none⟩ a7).setCell ⟨b, 8, none⟩ a8
theorem Z7O (W : World) {b x : Nat} (a0 a1 a2 a3 a4 a5 a6 a7 a8 : Value) (h : b ≠ x) : SameT W (Zgu W b a0 a1 a2 a3 a4 a5 a6 a7 a8) x :=
 ((((((((Z1k _ ⟨b, 0, none⟩ a0 h).trans (Z1k _ ⟨b, 1, none⟩ a1 h)).trans (Z1k _ ⟨b, 2, none⟩ a2 h)).trans (Z1k _ ⟨b, 3, none⟩ a3 h)).trans (Z1k _ ⟨b, 4, none⟩ a4 h)).trans (Z1k _ ⟨b, 5, none⟩ a5 h)).trans (Z1k _ ⟨b, 6, none⟩ a6 h)).trans (Z1k _ ⟨b, 7, none⟩ a7 h)).trans (Z1k _ ⟨b, 8, none⟩ a8 h)
theorem Zbi {B : Nat} {a W : World} (h : Below B a W) {b : Nat} (hb : B <= b) (a0 a1 a2 a3 a4 a5 a6 a7 a8 : Value) : Below B a (Zgu W b a0 a1 a2 a3 a4 a5 a6 a7 a8) :=
 ((((((((h.setCell (p := ⟨b, 0, none⟩) hb _).setCell (p := ⟨b, 1, none⟩) hb _).setCell (p := ⟨b, 2, none⟩) hb _).setCell (p := ⟨b, 3, none⟩) hb _).setCell (p := ⟨b, 4, none⟩) hb _).setCell (p := ⟨b, 5, none⟩) hb _).setCell (p := ⟨b, 6, none⟩) hb _).setCell (p := ⟨b, 7, none⟩) hb _).setCell (p := ⟨b, 8, none⟩) hb _
def depM (j k : Nat) : Bool := match j, k with
 | 6, 5 => true
 | 5, 3 => true
 | 10, 6 => true
 | 11, 10 => true
 | 12, 11 => true
 | 12, 1 => true
 | _, _ => false
theorem Z5g {d : Nat -> Bool} (h : ∀ j k, depM j k = true -> d j = true -> d k = true) {m : Nat} (hm : ∀ k, depM m k = true -> d k = true) : ∀ j k, depM j k = true -> also d m j = true -> also d m k = true := fun j k hjk hj => by
 by_cases hk : k = m
 {subst hk; exact Z0M d k}
 {rw [Z06 d hk]
  by_cases hjm : j = m
  {subst hjm; exact hm k hjk}
  {rw [Z06 d hjm] at hj; exact h j k hjk hj}}
theorem Z1w {m : Nat} (hm : m ≠ 5 /\ m ≠ 6 /\ m ≠ 10 /\ m ≠ 11 /\ m ≠ 12) {d : Nat -> Bool} : ∀ k, depM m k = true -> d k = true := fun k h => by
 obtain ⟨h1, h2, h3, h4, h5⟩ := hm
 unfold depM at h
 split at h <;> first | omega | cases h
theorem Z4o {m n : Nat} {d : Nat -> Bool} (hm : ∀ k, depM m k = true -> k = n) (h : d n = true) : ∀ k, depM m k = true -> d k = true := fun k hk => by rw [hm k hk]; exact h
theorem dep5 : ∀ k, depM 5 k = true -> k = 3 := fun k h => by unfold depM at h; split at h <;> first | rfl | omega | cases h
theorem dep6 : ∀ k, depM 6 k = true -> k = 5 := fun k h => by unfold depM at h; split at h <;> first | rfl | omega | cases h
theorem Zib : ∀ k, depM 10 k = true -> k = 6 := fun k h => by unfold depM at h; split at h <;> first | rfl | omega | cases h
theorem Zic : ∀ k, depM 11 k = true -> k = 10 := fun k h => by unfold depM at h; split at h <;> first | rfl | omega | cases h
theorem Zid : ∀ k, depM 12 k = true -> k = 11 \/ k = 1 := fun k h => by unfold depM at h; split at h <;> first | exact Or.inl rfl | exact Or.inr rfl | omega | cases h
structure MvC (W0 : World) (N B0 : Nat) (val : Nat -> Option Value) (AP : Option Addr) (l : List Et) (z : Tm) (d : Nat -> Bool) (u : Nat -> Value) (W : World) : Prop where
 vals : ∀ j, d j = true -> ∀ v, val j = some v -> u j = v
 ed : ∀ j k, depM j k = true -> d j = true -> d k = true
 bel : d 12 = false -> Below W0.heap.size W0 W
 c10 : d 10 = true -> d 12 = false -> ∃ q', u 10 = .agg (Y7 z q') /\ TOwn W B0 (fun b => W0.heap.size <= b) q' z /\ (d 11 = true -> ∃ g', u 11 = .slice (some ⟨g', 0, none⟩) 1 1 /\ ∀ j v, (Z1q ⟨z, q'⟩)[j]? = some v -> W.cell? ((⟨g', 0, none⟩ : Addr).add j) = some v)
 c12 : d 12 = true -> ∃ q' Wb g cap, Below W0.heap.size W0 Wb /\ TOwn Wb B0 (fun b => W0.heap.size <= b) q' z /\ Wb.grownBy W (rowT AP) /\ (rowT AP = some g \/ g = Wb.heap.size) /\ u 12 = .slice (some ⟨g, 0, none⟩) (l.length + 1) cap /\ W.ownsRow N 26 9 (.slice (some ⟨g, 0, none⟩) (l.length + 1) cap) (l.length + 1) (cellsTm l ++ Z1q ⟨z, q'⟩)
section
variable {W0 W : World} {N B0 : Nat} {val : Nat -> Option Value} {AP : Option Addr} {l : List Et} {z : Tm} {d : Nat -> Bool} {u : Nat -> Value}
theorem MvC.start (W0 : World) (N B0 : Nat) (val : Nat -> Option Value) (AP : Option Addr) (l : List Et) (z : Tm) (u : Nat -> Value) : MvC W0 N B0 val AP l z (fun _ => false) u W0 := ⟨nofun, nofun, fun _ => Below.refl _ _, nofun, nofun⟩
theorem MvC.vals' (h : MvC W0 N B0 val AP l z d u W) {j : Nat} {v : Value} (hv : ∀ v', val j = some v' -> v = v') : ∀ i, also d j i = true -> ∀ v', val i = some v' -> upd u j v i = v' := fun i hi v' hv' => by
 by_cases hij : i = j
 {subst hij; rw [Z0G]; exact hv v' hv'}
 {rw [Z06 d hij] at hi; rw [Z0a u v hij]; exact h.vals i hi v' hv'}
theorem MvC.pure (h : MvC W0 N B0 val AP l z d u W) {j : Nat} (hj : j ≠ 10 /\ j ≠ 11 /\ j ≠ 12) (hdep : ∀ k, depM j k = true -> d k = true) (v : Value) (hv : ∀ v', val j = some v' -> v = v') : MvC W0 N B0 val AP l z (also d j) (upd u j v) W := by
 obtain ⟨j0, j1, j2⟩ := hj
 have k10 := Z06 d (show 10 ≠ j by omega)
 have k11 := Z06 d (show 11 ≠ j by omega)
 have k12 := Z06 d (show 12 ≠ j by omega)
 have l10 := Z0a u v (show 10 ≠ j by omega)
 have l11 := Z0a u v (show 11 ≠ j by omega)
 have l12 := Z0a u v (show 12 ≠ j by omega)
 refine ⟨h.vals' hv, Z5g h.ed hdep, ?_, ?_, ?_⟩
 {rw [k12]; exact h.bel}
 {rw [k10, k11, k12, l10, l11]; exact h.c10}
 {rw [k12, l12]; exact h.c12}
theorem MvC.no12 (h : MvC W0 N B0 val AP l z d u W) (hd : d 11 = false) : d 12 = false := by
 cases e : d 12 with
 | false => rfl
 | true => have := h.ed 12 11 rfl e; rw [hd] at this; cases this
theorem MvC.no11 (h : MvC W0 N B0 val AP l z d u W) (hd : d 10 = false) : d 11 = false := by
 cases e : d 11 with
 | false => rfl
 | true => have := h.ed 11 10 rfl e; rw [hd] at this; cases this
theorem MvC.e12 (h : MvC W0 N B0 val AP l z d u W) (e : d 12 = true) : ∀ i, i = 1 \/ i = 3 \/ i = 6 -> d i = true := by
 have h6 := h.ed 10 6 rfl (h.ed 11 10 rfl (h.ed 12 11 rfl e))
 rintro i (rfl | rfl | rfl)
 {exact h.ed 12 1 rfl e}
 {exact h.ed 5 3 rfl (h.ed 6 5 rfl h6)}
 {exact h6}
theorem MvC.call10 (h : MvC W0 N B0 val AP l z d u W) (hd : d 10 = false) (h6 : d 6 = true) (hval : val 10 = none) {W' : World} {q' : TP} (hb : Below W.heap.size W W') (ho : TOwn W' B0 (fun b => W.heap.size <= b) q' z) : MvC W0 N B0 val AP l z (also d 10) (upd u 10 (.agg (Y7 z q'))) W' := by
 have n11 := h.no11 hd
 have n12 := h.no12 n11
 have k11 := Z06 d (show 11 ≠ 10 by decide)
 have k12 := Z06 d (show 12 ≠ 10 by decide)
 have hW := h.bel n12
 refine ⟨h.vals' (fun v' hv => by rw [hval] at hv; cases hv), Z5g h.ed (Z4o Zib h6), ?_, ?_, ?_⟩
 {intro _; exact hW.trans (hb.mono hW.size)}
 {intro _ _
  refine ⟨q', Z0G .., ho.of (fun _ _ _ => rfl) (fun b h1 _ => ⟨Nat.le_trans hW.size h1, fun _ => rfl⟩) (Nat.le_refl _), ?_⟩
  rw [k11, n11]; exact nofun}
 {rw [k12, n12]; exact nofun}
theorem MvC.mk11 (h : MvC W0 N B0 val AP l z d u W) (hd : d 11 = false) (hval : val 11 = none) (hp : d 10 = true) {q' : TP} (hu : u 10 = .agg (Y7 z q')) (ho : TOwn W B0 (fun b => W0.heap.size <= b) q' z) (hB : B0 <= W.heap.size) :
 MvC W0 N B0 val AP l z (also d 11) (upd u 11 (.slice (some ⟨W.heap.size, 0, none⟩) 1 1)) (W.alloc (.cells (Y7 z q') 26)) := by
 have n12 := h.no12 hd
 have k10 := Z06 d (show 10 ≠ 11 by decide)
 have k12 := Z06 d (show 12 ≠ 11 by decide)
 have hW := h.bel n12
 refine ⟨h.vals' (fun v' hv => by rw [hval] at hv; cases hv), Z5g h.ed (Z4o Zic hp), ?_, ?_, ?_⟩
 {intro _; exact hW.trans ((Z02 W _).mono hW.size)}
 {intro _ _
  refine ⟨q', (Z0a u _ (by decide)).trans hu, ho.low (Z02 W _) hB (fun b h1 _ => h1), fun _ => ⟨W.heap.size, Z0G .., ZhN W ⟨z, q'⟩ _ rfl⟩⟩}
 {rw [k12, n12]; exact nofun}
theorem MvC.ap12 (h : MvC W0 N B0 val AP l z d u W) (hd : d 12 = false) (hval : val 12 = none) (hp : d 11 = true) (hp1 : d 1 = true) {q' : TP} (ho : TOwn W B0 (fun b => W0.heap.size <= b) q' z) {v : Value} {W' : World} (hrow : W'.ownsRow N 26 9 v (l.length + 1) (cellsTm l ++ Z1q ⟨z, q'⟩)) (hg : W.grownBy W' (rowT AP)) (hat : v.ownBlock = rowT AP \/ v.ownBlock = some W.heap.size) :
 MvC W0 N B0 val AP l z (also d 12) (upd u 12 v) W' := by
 have k10 := Z06 d (show 10 ≠ 12 by decide)
 have k11 := Z06 d (show 11 ≠ 12 by decide)
 refine ⟨h.vals' (fun v' hv => by rw [hval] at hv; cases hv), Z5g h.ed (fun k hk => (Zid k hk).elim (fun e => by rw [e]; exact hp) (fun e => by rw [e]; exact hp1)), ?_, ?_, ?_⟩
 {rw [Z0M]; exact nofun}
 {intro _; rw [Z0M]; exact nofun}
 {intro _
  obtain ⟨g, cap, rfl, _, _⟩ := hrow.form (by omega)
  refine ⟨q', W, g, cap, h.bel hd, ho, hg, ?_, Z0G .., hrow⟩
  rcases hat with h1 | h1
  {exact Or.inl h1.symm}
  {exact Or.inr (Option.some.inj h1)}}
end
def valM (ob sb : Nat) (AP : Option Addr) (m cP : Nat) (g off len dd i : Nat) (a : Int) (ax : Value) : Nat -> Option Value
 | 0 => some (.pointer (some ⟨ob, 7, none⟩))
 | 1 => some (.slice AP m cP)
 | 2 => some (.pointer (some ⟨sb, 7, none⟩))
 | 3 => some (.slice (some ⟨g, off, none⟩) len dd)
 | 4 => some (.int .i64 (i : Int))
 | 5 => some (.pointer (some ⟨g, off + i * 9, none⟩))
 | 6 => some ax
 | 7 => some (.int .i64 a)
 | 8 => some (.int .i64 (i : Int))
 | 9 => some (.int .i64 (a + (i : Int)))
 | 13 => some (.pointer (some ⟨ob, 7, none⟩))
 | _ => none
theorem Zbj (t : Tm) : ∀ (q : TP) (a : Int) (B0 : Nat) (w : World), TmAt w B0 q t -> B0 <= w.heap.size -> 0 <= a -> a + size t <= 1000000 ->
 Calls Tryz.prog 17 #[.agg #[.int .i64 t.kind, .string ⟨t.of_.toArray⟩, .string ⟨t.name.toArray⟩, .int .i64 t.n, .slice q.A t.names.length q.c, .slice q.V t.vars.length q.e, .slice q.S t.shapes.length q.s, .slice q.P t.parts.length q.d, .int .i64 t.at_], .int .i64 a] w
  fun e w' => ∃ q', e = .returned (.agg #[.int .i64 (moved a t).kind, .string ⟨(moved a t).of_.toArray⟩, .string ⟨(moved a t).name.toArray⟩, .int .i64 (moved a t).n, .slice q'.A (moved a t).names.length q'.c, .slice q'.V (moved a t).vars.length q'.e, .slice q'.S (moved a t).shapes.length q'.s, .slice q'.P (moved a t).parts.length q'.d, .int .i64 (moved a t).at_]) /\ TOwn w' B0 (fun b => w.heap.size <= b) q' (moved a t) /\ Below w.heap.size w w' := by
 induction t using Tm.ind with
 | h t ih =>
 intro q a B0 w hq hB ha hz
 have HIH := Y1 ih
 have HS : Hid (moved a t = ⟨t.kind, t.of_, t.name, t.n, t.names, t.vars, t.shapes, moveds a t.parts, a⟩) := Y1 (Zgo a t)
 have hz0 := hz
 rw [size_eq] at hz0
 have hpl := length_sizes t.parts
 have HBW := Y1 (Zfc w t q a)
 have HBA := Y1 (Zh8 w t q a)
 have HBR := Y1 (Zh9 w t q a)
 have HBO := Y1 (Zha w t q a hB)
 have HSZ := Y1 (Z9N w t q a)
 have HQ := Y1 hq
 have HP := Y1 hq.part
 have HBB := Y1 hB
 have HB0 := Y1 (Z07 w t q)
 have HHA := Y1 ha
 obtain ⟨b1, ⟨c0, c1, c2, c3, c4, c5, c6, c7, c8⟩, b2⟩ := HB0.out
 simp only [Nat.zero_add] at c0 c1 c2 c3 c4 c5 c6 c7 c8
 clear hq hB b1 b2 ih hz
 go_enter Tryz.func17, Tryz.ntmps17
 go_wp2_with fail
 clear c0 c1 c2 c3 c4 c5 c6 c7 c8 HB0
 change Code.wp _ _ _ _ (mvW w t q a)
 obtain ⟨ob, hob⟩ : ∃ ob, ob = w.heap.size + 1 + 1 := ⟨_, rfl⟩
 have HOB := Y1 hob
 have HBO2 : Hid (OutT (mvW w t q a) (mvW w t q a) ob B0 t q a [] none 0) := Y1 (by rw [hob]; exact HBO.out)
 rw [<- hob]
 generalize mvW w t q a = W1 at HBW HBA HBR HBO2 HSZ ⊢
 have hsw : w.heap.size ≠ ob := by omega
 clear HBO hob
 go_loopw [6] (fun ii wr => ∃ i : Nat, ii = .int .i64 i /\ i <= t.parts.length /\ Hid (Rp8 W1 wr ob B0 t q a (moveds a t.parts) i)) (fun i _ => t.parts.length - (intOf i).toNat)
 case atStart => exact ⟨0, rfl, Nat.zero_le _, Y1 ⟨[], none, 0, HBO2.out, by simp⟩⟩
 case round =>
  obtain ⟨i, rfl, hi, HR⟩ := hrel
  obtain ⟨l, AP, cP, hO, hl⟩ := HR.out
  have hli : l.length = i := by
   have := congrArg List.length hl
   rw [List.length_map, List.length_take, Z2l] at this
   omega
  have hbw : Below w.heap.size w wr := hO.up.old HBW.out (by have := HOB.out; omega)
  have HBX : Hid (Box9 wr w.heap.size t q) := Y1 ⟨Nat.lt_of_lt_of_le HBA.out.1 hO.up.size, HBA.out.2.1.of (hO.up.same HBA.out.1 (by simpa using hsw)).1, fun k => ((hO.up.same HBA.out.1 (by simpa using hsw)).2 k).trans (HBA.out.2.2 k)⟩
  obtain ⟨b1, ⟨c0, c1, c2, c3, c4, c5, c6, c7, c8⟩, b2⟩ := HBX.out
  simp only [Nat.zero_add] at c0 c1 c2 c3 c4 c5 c6 c7 c8
  clear b1 b2
  by_cases hlt : i < t.parts.length
  {rcases HP.out with h0 | ⟨g, off, qs, hqP, hg, hc, hr⟩
   {omega}
   {obtain ⟨x, hx⟩ : ∃ x, x = t.parts[i]'hlt := ⟨_, rfl⟩
    obtain ⟨p0, p1, p2, p3, p4, p5, p6, p7, p8⟩ := (hc i hlt).keep (Nat.lt_of_lt_of_le hg HBB.out) hbw
    have hsi := Zh7 hlt
    have HPT := hr i hlt
    rw [<- hx] at HPT hsi p0 p1 p2 p3 p4 p5 p6 p7 p8
    have IH := Y1 (HIH.out t.parts[i] (List.getElem_mem _) (qs i) (a + i) B0)
    rw [<- hx] at IH
    generalize qs i = qx at HPT p0 p1 p2 p3 p4 p5 p6 p7 p8 IH
    have HPC : Hid (Tm9 wr g (off + i * 9) x qx) := Y1 ⟨p0, p1, p2, p3, p4, p5, p6, p7, p8⟩
    have IH2 : Hid (∀ W, Below wr.heap.size wr W -> Calls Tryz.prog 17 #[.agg #[.int .i64 x.kind, .string ⟨x.of_.toArray⟩, .string ⟨x.name.toArray⟩, .int .i64 x.n, .slice qx.A x.names.length qx.c, .slice qx.V x.vars.length qx.e, .slice qx.S x.shapes.length qx.s, .slice qx.P x.parts.length qx.d, .int .i64 x.at_], .int .i64 (a + (i : Int))] W fun e w' => ∃ q', e = .returned (.agg #[.int .i64 (moved (a + i) x).kind, .string ⟨(moved (a + i) x).of_.toArray⟩, .string ⟨(moved (a + i) x).name.toArray⟩, .int .i64 (moved (a + i) x).n, .slice q'.A (moved (a + i) x).names.length q'.c, .slice q'.V (moved (a + i) x).vars.length q'.e, .slice q'.S (moved (a + i) x).shapes.length q'.s, .slice q'.P (moved (a + i) x).parts.length q'.d, .int .i64 (moved (a + i) x).at_]) /\ TOwn w' B0 (fun b => W.heap.size <= b) q' (moved (a + i) x) /\ Below W.heap.size W w') := Y1 (fun W hW => IH.out W (HPT.keep (hbw.trans (hW.mono hbw.size)) HBB.out) (by have := HBB.out; have := hbw.size; have := hW.size; omega) (by omega) (by omega))
    have HX := Y1 hx
    have HL := Y1 hl
    have HO := Y1 hO
    have HLI := Y1 hli
    have HBWR := Y1 hbw
    have HGW : Hid (g < wr.heap.size) := Y1 (Nat.lt_of_lt_of_le (Nat.lt_of_lt_of_le hg HBB.out) hbw.size)
    have HQP := Y1 hqP
    have o7 := hO.c7
    have hi1 : (i : Int) < (t.parts.length : Int) := by omega
    have hai : -9223372036854775808 <= a + (i : Int) /\ a + (i : Int) <= 9223372036854775807 := by omega
    rw [hqP] at c7
    clear hx hl hO hli hbw hc hr hqP HR IH HPT hsi p0 p1 p2 p3 p4 p5 p6 p7 p8
    go_wp2_with fail
    obtain ⟨z, hz⟩ : ∃ z, z = moved (a + i) x := ⟨_, rfl⟩
    have HZ := Y1 hz
    rw [<- hz] at IH2
    clear hz
    obtain ⟨i0, hi2, hz0', hz1, hz2⟩ := Zbh (P := Tryz.prog) (e := 26) (z := (.agg #[.int .i64 0, .string ByteArray.empty, .string ByteArray.empty, .int .i64 0, .slice none 0 0, .slice none 0 0, .slice none 0 0, .slice none 0 0, .int .i64 0])) (size := 9) (bytes := 152) Zdq
    have hl4 : l.length <= 1000000 := by have := HLI.out; omega
    have HDW : Hid (Below wr.heap.size wr wr.drew) := Y1 Y2.drew
    have HOD : Hid (OutT W1 wr.drew ob B0 t q a l AP cP) := Y1 (HO.out.below HDW.out)
    have HOBD : Hid (ob < wr.drew.heap.size) := Y1 (Nat.lt_of_lt_of_le HOD.out.lt HOD.out.up.size)
    refine Z6A (rs := [0, 1, 2, 3, 4, 5, 6, 7, 8, 9, 10, 11, 12, 13, 14])
     (fun u' => { tmps := #[.agg #[.int .i64 t.kind, .string { data := t.of_.toArray }, .string { data := t.name.toArray }, .int .i64 t.n, .slice q.A t.names.length q.c, .slice q.V t.vars.length q.e, .slice q.S t.shapes.length q.s, .slice q.P t.parts.length q.d, .int .i64 t.at_], .int .i64 a, .pointer (some { block := w.heap.size, off := 0 }), undef, .pointer (some { block := w.heap.size + 1, off := 0 }), .pointer (some { block := ob, off := 0 }), .int .i64 ↑i, .agg #[.int .i64 t.kind, .string { data := t.of_.toArray }, .string { data := t.name.toArray }, .int .i64 t.n, .slice q.A t.names.length q.c, .slice q.V t.vars.length q.e, .slice q.S t.shapes.length q.s, .slice q.P t.parts.length q.d, .int .i64 t.at_], .int .i64 a, .pointer (some { block := ob, off := 8 }), .pointer (some { block := ob, off := 7 }), .int .i64 ↑i, .pointer (some { block := w.heap.size, off := 7 }), .slice (some { block := g, off := off }) t.parts.length q.d, .int .i64 ↑t.parts.length, .bool true, u16, u17, u' 0, u' 1, u' 2, u' 3, u' 4, u' 5, u' 6, u' 7, u' 8, u' 9, u' 10, u' 11, u' 12, u' 13, undef], defers := [] })
     (fun j => ([u18, u19, u20, u21, u22, u23, u24, u25, u26, u27, u28, u29, u30, u31, undef] : List Value).getD j undef) (InvC 14 (MvC wr.drew W1.heap.size B0 (valM ob w.heap.size AP l.length cP g off t.parts.length q.d i a (.agg #[.int .i64 x.kind, .string ⟨x.of_.toArray⟩, .string ⟨x.name.toArray⟩, .int .i64 x.n, .slice qx.A x.names.length qx.c, .slice qx.V x.vars.length qx.e, .slice qx.S x.shapes.length qx.s, .slice qx.P x.parts.length qx.d, .int .i64 x.at_])) AP l z) (fun W => Rp8 W1 W ob B0 t q a (moveds a t.parts) (i + 1))) (by kernel_rfl) (by kernel_rfl) (by kernel_rfl) (Or.inl ⟨rfl, MvC.start _ _ _ _ _ _ _ _⟩) ?_ ?_
    refine StepsInv.cons _ rfl (fun d u' W K' hI hd hw hK => ?_) ?_
    {obtain ⟨hS, hC⟩ := hI.open hd (by decide)
     refine Z01 (v := .pointer (some ⟨ob, 7, none⟩)) (W' := W) rfl ?_ (hK.out _ _ (InvC.next hS (by decide) (hC.pure (by decide) (Z1w (m := 0) (by decide)) _ (fun v' h => by cases h; rfl))))
     try dsimp only
     go_simp}
    refine StepsInv.cons _ rfl (fun d u' W K' hI hd hw hK => ?_) ?_
    {obtain ⟨hS, hC⟩ := hI.open hd (by decide)
     have hbl := hC.bel (by
      cases e : d 12 with
      | false => rfl
      | true => exact absurd (hC.e12 e 1 (by decide)) (by rw [hd]; decide))
     have y7 := (HOD.out.below hbl).c7
     have d0 : u' 0 = .pointer (some ⟨ob, 7, none⟩) := hC.vals 0 (hw 0 (by kernel_rfl)) _ rfl
     refine Z01 (v := .slice AP l.length cP) (W' := W) rfl ?_ (hK.out _ _ (InvC.next hS (by decide) (hC.pure (by decide) (Z1w (m := 1) (by decide)) _ (fun v' h => by cases h; rfl))))
     try dsimp only
     go_simp}
    refine StepsInv.cons _ rfl (fun d u' W K' hI hd hw hK => ?_) ?_
    {obtain ⟨hS, hC⟩ := hI.open hd (by decide)
     refine Z01 (v := .pointer (some ⟨w.heap.size, 7, none⟩)) (W' := W) rfl ?_ (hK.out _ _ (InvC.next hS (by decide) (hC.pure (by decide) (Z1w (m := 2) (by decide)) _ (fun v' h => by cases h; rfl))))
     try dsimp only
     go_simp}
    refine StepsInv.cons _ rfl (fun d u' W K' hI hd hw hK => ?_) ?_
    {obtain ⟨hS, hC⟩ := hI.open hd (by decide)
     have hbl := hC.bel (by
      cases e : d 12 with
      | false => rfl
      | true => exact absurd (hC.e12 e 3 (by decide)) (by rw [hd]; decide))
     obtain ⟨_, ⟨_, _, _, _, _, _, _, y7, _⟩, _⟩ := HBX.out.next (HDW.out.trans (hbl.mono HDW.out.size))
     simp only [Nat.zero_add] at y7
     rw [HQP.out] at y7
     have d2 : u' 2 = .pointer (some ⟨w.heap.size, 7, none⟩) := hC.vals 2 (hw 2 (by kernel_rfl)) _ rfl
     refine Z01 (v := .slice (some ⟨g, off, none⟩) t.parts.length q.d) (W' := W) rfl ?_ (hK.out _ _ (InvC.next hS (by decide) (hC.pure (by decide) (Z1w (m := 3) (by decide)) _ (fun v' h => by cases h; rfl))))
     try dsimp only
     go_simp}
    refine StepsInv.cons _ rfl (fun d u' W K' hI hd hw hK => ?_) ?_
    {obtain ⟨hS, hC⟩ := hI.open hd (by decide)
     refine Z01 (v := .int .i64 (i : Int)) (W' := W) rfl ?_ (hK.out _ _ (InvC.next hS (by decide) (hC.pure (by decide) (Z1w (m := 4) (by decide)) _ (fun v' h => by cases h; rfl))))
     try dsimp only
     go_simp}
    refine StepsInv.cons _ rfl (fun d u' W K' hI hd hw hK => ?_) ?_
    {obtain ⟨hS, hC⟩ := hI.open hd (by decide)
     have d3 : u' 3 = .slice (some ⟨g, off, none⟩) t.parts.length q.d := hC.vals 3 (hw 3 (by kernel_rfl)) _ rfl
     have d4 : u' 4 = .int .i64 (i : Int) := hC.vals 4 (hw 4 (by kernel_rfl)) _ rfl
     refine Z01 (v := .pointer (some ⟨g, off + i * 9, none⟩)) (W' := W) rfl ?_ (hK.out _ _ (InvC.next hS (by decide) (hC.pure (by decide) (Z4o dep5 (hw 3 (by kernel_rfl))) _ (fun v' h => by cases h; rfl))))
     try dsimp only
     go_simp
     try omega}
    refine StepsInv.cons _ rfl (fun d u' W K' hI hd hw hK => ?_) ?_
    {obtain ⟨hS, hC⟩ := hI.open hd (by decide)
     have hbl := hC.bel (by
      cases e : d 12 with
      | false => rfl
      | true => exact absurd (hC.e12 e 6 (by decide)) (by rw [hd]; decide))
     obtain ⟨y0, y1, y2, y3, y4, y5, y6, y7, y8⟩ := HPC.out.keep HGW.out (HDW.out.trans (hbl.mono HDW.out.size))
     have d5 : u' 5 = .pointer (some ⟨g, off + i * 9, none⟩) := hC.vals 5 (hw 5 (by kernel_rfl)) _ rfl
     refine Z01 (v := .agg #[.int .i64 x.kind, .string ⟨x.of_.toArray⟩, .string ⟨x.name.toArray⟩, .int .i64 x.n, .slice qx.A x.names.length qx.c, .slice qx.V x.vars.length qx.e, .slice qx.S x.shapes.length qx.s, .slice qx.P x.parts.length qx.d, .int .i64 x.at_]) (W' := W) rfl ?_ (hK.out _ _ (InvC.next hS (by decide) (hC.pure (by decide) (Z4o dep6 (hw 5 (by kernel_rfl))) _ (fun v' h => by cases h; rfl))))
     try dsimp only
     go_simp}
    refine StepsInv.cons _ rfl (fun d u' W K' hI hd hw hK => ?_) ?_
    {obtain ⟨hS, hC⟩ := hI.open hd (by decide)
     refine Z01 (v := .int .i64 a) (W' := W) rfl ?_ (hK.out _ _ (InvC.next hS (by decide) (hC.pure (by decide) (Z1w (m := 7) (by decide)) _ (fun v' h => by cases h; rfl))))
     try dsimp only
     go_simp}
    refine StepsInv.cons _ rfl (fun d u' W K' hI hd hw hK => ?_) ?_
    {obtain ⟨hS, hC⟩ := hI.open hd (by decide)
     refine Z01 (v := .int .i64 (i : Int)) (W' := W) rfl ?_ (hK.out _ _ (InvC.next hS (by decide) (hC.pure (by decide) (Z1w (m := 8) (by decide)) _ (fun v' h => by cases h; rfl))))
     try dsimp only
     go_simp}
    refine StepsInv.cons _ rfl (fun d u' W K' hI hd hw hK => ?_) ?_
    {obtain ⟨hS, hC⟩ := hI.open hd (by decide)
     have d7 : u' 7 = .int .i64 a := hC.vals 7 (hw 7 (by kernel_rfl)) _ rfl
     have d8 : u' 8 = .int .i64 (i : Int) := hC.vals 8 (hw 8 (by kernel_rfl)) _ rfl
     refine Z01 (v := .int .i64 (a + (i : Int))) (W' := W) rfl ?_ (hK.out _ _ (InvC.next hS (by decide) (hC.pure (by decide) (Z1w (m := 9) (by decide)) _ (fun v' h => by cases h; rfl))))
     try dsimp only
     go_simp
     exact IntWalk.i64_in _ (by omega)}
    refine StepsInv.cons _ rfl (fun d u' W K' hI hd hw hK => ?_) ?_
    {obtain ⟨hS, hC⟩ := hI.open hd (by decide)
     have d6 : u' 6 = .agg #[.int .i64 x.kind, .string ⟨x.of_.toArray⟩, .string ⟨x.name.toArray⟩, .int .i64 x.n, .slice qx.A x.names.length qx.c, .slice qx.V x.vars.length qx.e, .slice qx.S x.shapes.length qx.s, .slice qx.P x.parts.length qx.d, .int .i64 x.at_] := hC.vals 6 (hw 6 (by kernel_rfl)) _ rfl
     have d9 : u' 9 = .int .i64 (a + (i : Int)) := hC.vals 9 (hw 9 (by kernel_rfl)) _ rfl
     have n11 := hC.no11 hd
     have hbl := hC.bel (hC.no12 n11)
     refine Z05 (f := 17) (args := #[.agg #[.int .i64 x.kind, .string ⟨x.of_.toArray⟩, .string ⟨x.name.toArray⟩, .int .i64 x.n, .slice qx.A x.names.length qx.c, .slice qx.V x.vars.length qx.e, .slice qx.S x.shapes.length qx.s, .slice qx.P x.parts.length qx.d, .int .i64 x.at_], .int .i64 (a + (i : Int))]) (W' := W) rfl ?_ ((IH2.out W (HDW.out.trans (hbl.mono HDW.out.size))).mono fun e w' h => by
      obtain ⟨q', he, ho, hb⟩ := h
      exact ⟨_, he, (hK.out _ _ (InvC.next hS (by decide) (hC.call10 hd (hw 6 (by kernel_rfl)) rfl hb ho)))⟩)
     try dsimp only
     go_simp}
    refine StepsInv.cons _ rfl (fun d u' W K' hI hd hw hK => ?_) ?_
    {obtain ⟨hS, hC⟩ := hI.open hd (by decide)
     have n12 := hC.no12 hd
     obtain ⟨q', d10, ho, _⟩ := hC.c10 (hw 10 (by kernel_rfl)) n12
     have hbl := hC.bel n12
     refine Z01 (v := .slice (some ⟨W.heap.size, 0, none⟩) 1 1) (W' := W.alloc (.cells #[.int .i64 z.kind, .string ⟨z.of_.toArray⟩, .string ⟨z.name.toArray⟩, .int .i64 z.n, .slice q'.A z.names.length q'.c, .slice q'.V z.vars.length q'.e, .slice q'.S z.shapes.length q'.s, .slice q'.P z.parts.length q'.d, .int .i64 z.at_] 26)) rfl ?_ (hK.out _ _ (InvC.next hS (by decide) (hC.mk11 hd rfl (hw 10 (by kernel_rfl)) d10 ho (by have := HOD.out.bo; have := HOBD.out; have := hbl.size; omega))))
     try dsimp only
     go_simp}
    refine StepsInv.cons _ rfl (fun d u' W K' hI hd hw hK => ?_) ?_
    {obtain ⟨hS, hC⟩ := hI.open hd (by decide)
     have d1 : u' 1 = .slice AP l.length cP := hC.vals 1 (hw 1 (by kernel_rfl)) _ rfl
     have p11 := hw 11 (by kernel_rfl)
     obtain ⟨q', _, ho, h11⟩ := hC.c10 (hC.ed 11 10 rfl p11) hd
     obtain ⟨g', d11, hcl⟩ := h11 p11
     have hOW := HOD.out.below (hC.bel hd)
     refine Z75 rfl (.tmp 19) (.tmp 29) 24 rfl W1.heap.size 26 i0 (.agg #[.int .i64 0, .string ByteArray.empty, .string ByteArray.empty, .int .i64 0, .slice none 0 0, .slice none 0 0, .slice none 0 0, .slice none 0 0, .int .i64 0]) 9 152 Tryz.underlying24 hi2 hz0' hz1 hz2 rfl (by decide) (.slice AP l.length cP) l.length (cellsTm l) d1 hOW.rP (some ⟨g', 0, none⟩) 1 1 (Z1q ⟨z, q'⟩) d11 nofun rfl (fun ad h j u hj => by cases h; exact hcl j u hj) (Z6R _) (by unfold maxLen; omega) (by omega) hOW.up.size ?_
     intro v' w' hown hg hat
     rw [Z9M] at hg hat
     exact (hK.out _ _ (InvC.next hS (by decide) (hC.ap12 hd rfl p11 (hw 1 (by kernel_rfl)) ho hown hg hat)))}
    refine StepsInv.cons _ rfl (fun d u' W K' hI hd hw hK => ?_) ?_
    {obtain ⟨hS, hC⟩ := hI.open hd (by decide)
     refine Z01 (v := .pointer (some ⟨ob, 7, none⟩)) (W' := W) rfl ?_ (hK.out _ _ (InvC.next hS (by decide) (hC.pure (by decide) (Z1w (m := 13) (by decide)) _ (fun v' h => by cases h; rfl))))
     try dsimp only
     go_simp}
    refine StepsInv.cons _ rfl (fun d u' W K' hI hd hw hK => ?_) StepsInv.nil
    {obtain ⟨hS, hC⟩ := hI.open hd (by decide)
     have hall : ∀ j, j < 14 -> d j = true := fun j hj => by
      have : j ∈ [0, 1, 2, 3, 4, 5, 6, 7, 8, 9, 10, 11, 12, 13] := by simp; omega
      simp only [List.mem_cons, List.not_mem_nil, or_false] at this
      rcases this with rfl | rfl | rfl | rfl | rfl | rfl | rfl | rfl | rfl | rfl | rfl | rfl | rfl | rfl <;> exact hw _ (by kernel_rfl)
     obtain ⟨q', Wb, g3, cap, hWb, ho, hg3, hat, d12, hrow⟩ := hC.c12 (hall 12 (by decide))
     have d13 : u' 13 = .pointer (some ⟨ob, 7, none⟩) := hC.vals 13 (hall 13 (by decide)) _ rfl
     have hOb := HOD.out.below hWb
     have hobr : some ob ≠ rowT AP := fun e => by have := (Z2y hOb.rP ob e.symm).1; have := hOb.lt; omega
     have hobl : ob < Wb.heap.size := Nat.lt_of_lt_of_le hOb.lt hOb.up.size
     have x7 := (World.cell?_of_block (w := Wb) (a := ⟨ob, 7, none⟩) (hg3.block ob hobl hobr)).trans hOb.c7
     have xf := (World.frozen?_of_block (w := Wb) (a := ⟨ob, 7, none⟩) (hg3.block ob hobl hobr)).trans (hOb.fz 7)
     have hFB : TOwn Wb B0 (fun b => W1.heap.size <= b /\ rowT AP ≠ some b) q' z := ho.of (fun _ _ _ => rfl) (fun b hb _ => ⟨⟨by have := HOD.out.up.size; omega, fun e => by have := (Z2y HOD.out.rP b e).2; omega⟩, fun _ => rfl⟩) (Nat.le_refl _)
     refine Z2d (W' := W.setCell ⟨ob, 7, none⟩ (.slice (some ⟨g3, 0, none⟩) (l.length + 1) cap)) rfl ?_ (hK.out undef _ (InvC.last hall (Rp8.push (x := ⟨z, q'⟩) hOb HL.out (by rw [Z2l]; exact hlt) (by rw [Z6S a t.parts i hlt, <- HX.out, <- HZ.out]) hFB hg3 hat hrow)))
     try dsimp only
     go_simp}
    intro d' ua W4 hI hall
    rcases hI with ⟨h1, _⟩ | ⟨_, _, h1⟩
    {rw [hall 14 (by decide)] at h1; cases h1}
    have HN := Y1 h1
    clear h1
    go_wp2
    go_roundw
    case rel => exact ⟨i + 1, by go_num, by omega, HN⟩
    case measure => simp [intOf]; omega}}
  {have hie : i = t.parts.length := by omega
   have HLL := Y1 hli
   have HE : Hid (l.map Et.t = moveds a t.parts) := Y1 (by rw [hl, hie, List.take_of_length_le (by rw [Z2l]; exact Nat.le_refl _)])
   have hi1 : ¬ (i : Int) < (t.parts.length : Int) := by omega
   have HO := Y1 hO
   have HBWR := Y1 hbw
   have hrs := hO.up.same HBR.out.1 (by have := HOB.out; simp; omega)
   have HER : Hid (Box9 wr (w.heap.size + 1) none8 noneTm) := Y1 ⟨Nat.lt_of_lt_of_le HBR.out.1 hO.up.size, HBR.out.2.1.of hrs.1, fun k => (hrs.2 k).trans (HBR.out.2.2 k)⟩
   have HOO := Y1 (show w.heap.size + 1 ≠ ob by have := HOB.out; omega)
   obtain ⟨_, ⟨r0, r1, r2, r3, r4, r5, r6, r7, r8⟩, f⟩ := HER.out
   simp only [Nat.zero_add] at r0 r1 r2 r3 r4 r5 r6 r7 r8
   have f0 := f 0
   have f1 := f 1
   have f2 := f 2
   have f3 := f 3
   have f4 := f 4
   have f5 := f 5
   have f6 := f 6
   have f7 := f 7
   have f8 := f 8
   have o0 := hO.c0
   have o1 := hO.c1
   have o2 := hO.c2
   have o3 := hO.c3
   have o4 := hO.c4
   have o5 := hO.c5
   have o6 := hO.c6
   have o7 := hO.c7
   have o8 := hO.c8
   clear hO hl hbw hrs f
   have hne : ob ≠ w.heap.size + 1 := fun e => HOO.out e.symm
   go_wp2
   refine bodyPost_ret (v := .agg #[.int .i64 t.kind, .string ⟨t.of_.toArray⟩, .string ⟨t.name.toArray⟩, .int .i64 t.n, .slice q.A t.names.length q.c, .slice q.V t.vars.length q.e, .slice q.S t.shapes.length q.s, .slice AP t.parts.length cP, .int .i64 a]) (by simp [results, Tryz.results17, go_sem, r0, r1, r2, r3, r4, r5, r6, r7, r8]) rfl ?_
   have hT := HO.out.result HQ.out (HBWR.out.mono HBB.out) (u := moved a t) (by rw [HS.out, HE.out]) (by have := HHA.out; omega) (by have := HLL.out; omega)
   refine ⟨⟨q.A, q.c, q.V, q.e, q.S, q.s, AP, cP⟩, by rw [HS.out]; simp only [Z2l], ?_, Zbi HBWR.out (by omega) _ _ _ _ _ _ _ _ _⟩
   refine hT.of (fun b k hb => (Z7O wr _ _ _ _ _ _ _ _ _ (by have := HBB.out; omega)).1 k) (fun b hb _ => ⟨by have := HSZ.out; omega, fun k => (Z7O wr _ _ _ _ _ _ _ _ _ (by have := HSZ.out; omega)).1 k⟩) (by simp [World.setCell])}
end Go.Proofs.YtnkdedejfonbmaaGreatDoor
namespace Go.Proofs.YtnkdedejfonbmaaGreatDoor
open Go.RowKit Tms
theorem bareTo {t b : Tm} (h : strip t = b) (ht : tame t = true) (hc : Tms.check t = 0) (q : TP) (w : World) (hq : TmAt w w.heap.size q t) (hg : WGlobs w) (hu : Z0l w) :
 Calls Tryz.prog 15 #[.agg (Y7 t q)] w fun e w' => ∃ q', e = .returned (.agg (Y7 b q')) /\ TmAt w' w'.heap.size q' b /\ Below w.heap.size w w' := by
 subst h; exact Z6G t q w hq hg hu ht hc
theorem movedTo {t m : Tm} {a : Int} (h : moved a t = m) (ha : 0 <= a) (hz : a + size t <= 1000000) (q : TP) (w : World) (hq : TmAt w w.heap.size q t) :
 Calls Tryz.prog 17 #[.agg (Y7 t q), .int .i64 a] w fun e w' => ∃ q', e = .returned (.agg (Y7 m q')) /\ TmAt w' w'.heap.size q' m /\ Below w.heap.size w w' := by
 subst h
 refine (Zbj t q a w.heap.size w hq (Nat.le_refl _) ha hz).mono ?_
 rintro e w' ⟨q', h1, h2, h3⟩
 exact ⟨q', h1, h2.at_ h3.size, h3⟩
def ZhO (t b m n : Tm) (q qb : TP) (St : List UInt8) (z : Nat) : Nat -> Want
 | 0 => .val (.agg (Y7 t q))
 | 1 => .val (.agg (Y7 b qb))
 | 2 => .val (.agg (Y7 t q))
 | 3 => Z6P m
 | 4 => Z0D 3 [t, b, m]
 | 5 => .val (.bool true)
 | 6 => .val (.bool true)
 | 7 => .val (.agg (Y7 b qb))
 | 8 => Z6P b
 | 9 => .val (.agg (Y7 b qb))
 | 10 => .val (.bool true)
 | 11 => .val (.bool true)
 | 12 => .val (.bool true)
 | 13 => .val (.agg (Y7 t q))
 | 14 => Z6P n
 | 15 => Z6P b
 | 16 => .val (.agg (Y7 b qb))
 | 17 => .val (.bool true)
 | 18 => .val (.bool true)
 | 19 => .val (.bool true)
 | 20 => .val (.agg (Y7 b qb))
 | 21 => .val (.int .i64 (z : Int))
 | 22 => .val (.agg (Y7 t q))
 | 23 => .val (.int .i64 (z : Int))
 | 24 => .val (.bool true)
 | 25 => .val (.bool true)
 | 26 => .val (.bool true)
 | 27 => .val (.string { data := St.toArray })
 | 28 => .val (.string { data := St.toArray })
 | 29 => .val (.bool true)
 | 30 => .val (.bool true)
 | 31 => .val (.bool true)
 | 32 => .val (.int .i64 0)
 | 33 => .val (.bool true)
 | 34 => .val (.bool true)
 | 35 => .val (.bool true)
 | 36 => .val (.int .i64 0)
 | 37 => .val (.bool true)
 | 38 => .val (.bool true)
 | 39 => .val (.bool true)
 | 40 => .val (.bool true)
 | 41 => .val (.bool true)
 | 42 => .val (.bool true)
 | _ => .any
theorem Zgp (t : Tm) (q : TP) (w : World) (hq : TmAt w w.heap.size q t) (tt : tame t = true) (hG : Globs w) (hg : WGlobs w) (hu : Z0l w) (h1 : Tms.check t ≠ 0) :
 Y9 5 #[.agg (Y7 t q)] w (.bool true) := by
 have e1 : (Tms.check t != 0) = true := by simpa using h1
 have h0 : same [t] = false := by
  cases h2 : same [t] with
  | false => rfl
  | true => exact absurd ((Zfx t).1 h2) h1
 have HS0 := Y1 h0
 clear h1 h0
 have HB1 := Y1 (Z07 w t q)
 have hb0 := Z02 w (.cells (Y7 t q) 26)
 have HQ := Y1 (hq.next hb0)
 have HG := Y1 (hG.next hb0)
 have HW := Y1 (hg.next hb0)
 have HU := Y1 (hu.next hb0)
 have HTA := Y1 tt
 have HB0 := Y1 hb0
 obtain ⟨a1, ⟨c0, c1, c2, c3, c4, c5, c6, c7, c8⟩, a2⟩ := HB1.out
 simp only [Nat.zero_add] at c0 c1 c2 c3 c4 c5 c6 c7 c8
 clear hq hG hg hu tt hb0 a1 a2
 go_enter Tryz.func5, Tryz.ntmps5
 go_wp2_with fail
 generalize w.alloc (.cells (Y7 t q) 26) = W0 at HB1 HQ HG HW HU HB0 c0 c1 c2 c3 c4 c5 c6 c7 c8 ⊢
 refine (Z0j t q W0 HQ.out HW.out HU.out (Z09 HTA.out)).mono ?_
 rintro e W1 ⟨rfl, hb⟩
 have HBW1 := Y1 hb
 clear hb c0 c1 c2 c3 c4 c5 c6 c7 c8
 obtain ⟨a1, ⟨x0, x1, x2, x3, x4, x5, x6, x7, x8⟩, a2⟩ := HB1.out.next HBW1.out
 simp only [Nat.zero_add] at x0 x1 x2 x3 x4 x5 x6 x7 x8
 clear a1 a2
 have ht := one8 W1 t q (HQ.out.next HBW1.out)
 have HTW := Y1 (Z00 HBW1.out (Z02 W1 (.cells (Y7 t q) 26)))
 have hsm := Z0g (some ⟨W1.heap.size, 0, none⟩) 1 [t] (W1.alloc (.cells (Y7 t q) 26)) ht (by simp) (Zgm (Z09 HTA.out)) (HW.out.next HTW.out) (HU.out.next HTW.out)
 rw [HS0.out] at hsm
 have HSM := Y1 hsm
 clear ht hsm
 go_wp2_with fail
 refine HSM.out.mono ?_
 rintro e W7 ⟨rfl, hb7⟩
 have HBW7 := Y1 (Z00 HTW.out hb7)
 clear hb7 HSM HTW x0 x1 x2 x3 x4 x5 x6 x7 x8
 go_wp2_with fail
 refine (Z0J W7 (HG.out.next HBW7.out) (HW.out.next HBW7.out) (HU.out.next HBW7.out)).mono ?_
 rintro e W8 ⟨rfl, hb8⟩
 have HBW8 := Y1 (Z00 HBW7.out hb8)
 clear hb8
 go_wp2
 go_ret
 exact ⟨rfl, Z00 HB0.out HBW8.out⟩
theorem Zfd (t : Tm) (q : TP) (w : World) (hq : TmAt w w.heap.size q t) (tt : tame t = true) (hG : Globs w) (hg : WGlobs w) (hu : Z0l w) (h1 : Tms.check t = 0) :
 Y9 5 #[.agg (Y7 t q)] w (.bool true) := by
 have e1 : (Tms.check t != 0) = false := by simpa using h1
 have HC := Y1 h1
 obtain ⟨b, hb⟩ : ∃ b, b = strip t := ⟨_, rfl⟩
 obtain ⟨m, hm⟩ : ∃ m, m = moved 5 t := ⟨_, rfl⟩
 obtain ⟨n, hn⟩ : ∃ n, n = moved 9 t := ⟨_, rfl⟩
 obtain ⟨St, hSt⟩ : ∃ St, St = text t := ⟨_, rfl⟩
 obtain ⟨z, hz⟩ : ∃ z, z = sizeTo 4096 t := ⟨_, rfl⟩
 have hts : (5 : Int) + size t <= 1000000 /\ (9 : Int) + size t <= 1000000 := by
  have := (Tms.check_ok h1).1
  omega
 have HEB : Hid (strip t = b) := Y1 hb.symm
 have HBB : Hid (strip b = b) := Y1 (by rw [hb]; exact Z2C t)
 have HNB : Hid (strip n = b) := Y1 (by rw [hb, hn]; exact Z1M t 9)
 have HM5 : Hid (moved 5 t = m /\ (5 : Int) + size t <= 1000000) := Y1 ⟨hm.symm, hts.1⟩
 have HM9 : Hid (moved 9 t = n /\ (9 : Int) + size t <= 1000000) := Y1 ⟨hn.symm, hts.2⟩
 have HTB : Hid (tame b = true /\ Tms.check b = 0) := Y1 (by rw [hb]; exact ⟨Zdo tt, Z3C h1⟩)
 have HTM : Hid (tame m = true) := Y1 (by rw [hm]; exact Z6N tt 5)
 have HTN : Hid (tame n = true /\ Tms.check n = 0) := Y1 (by rw [hn]; exact ⟨Z6N tt 9, Z3D h1 (by omega)⟩)
 have HS3 : Hid (same [t, b, m] = true) := Y1 (by rw [hb, hm]; exact Z6O h1)
 have HXT : Hid (St = text t) := Y1 hSt
 have HXB : Hid (text b = St) := Y1 (by rw [hb, hSt]; exact Z4b t)
 have HZT : Hid (sizeTo 4096 t = z) := Y1 hz.symm
 have HZB : Hid (sizeTo 4096 b = z) := Y1 (by rw [hb, hz]; unfold sizeTo; rw [Z2T])
 clear h1 hb hm hn hSt hz hts
 have HB1 := Y1 (Z07 w t q)
 have hb0 := Z02 w (.cells (Y7 t q) 26)
 have HQ := Y1 (hq.next hb0)
 have HG := Y1 (hG.next hb0)
 have HW := Y1 (hg.next hb0)
 have HU := Y1 (hu.next hb0)
 have HTA := Y1 tt
 have HB0 := Y1 hb0
 obtain ⟨a1, ⟨c0, c1, c2, c3, c4, c5, c6, c7, c8⟩, a2⟩ := HB1.out
 simp only [Nat.zero_add] at c0 c1 c2 c3 c4 c5 c6 c7 c8
 clear hq hG hg hu tt hb0 a1 a2
 go_enter Tryz.func5, Tryz.ntmps5
 go_wp2_with fail
 generalize w.alloc (.cells (Y7 t q) 26) = W0 at HB1 HQ HG HW HU HB0 c0 c1 c2 c3 c4 c5 c6 c7 c8 ⊢
 refine (Z0j t q W0 HQ.out HW.out HU.out (Z09 HTA.out)).mono ?_
 rintro e W1 ⟨rfl, hb⟩
 have HBW1 := Y1 hb
 clear hb c0 c1 c2 c3 c4 c5 c6 c7 c8
 obtain ⟨a1, ⟨x0, x1, x2, x3, x4, x5, x6, x7, x8⟩, a2⟩ := HB1.out.next HBW1.out
 simp only [Nat.zero_add] at x0 x1 x2 x3 x4 x5 x6 x7 x8
 clear a1 a2
 go_wp2_with fail
 refine (bareTo HEB.out HTA.out HC.out q W1 (HQ.out.next HBW1.out) (HW.out.next HBW1.out) (HU.out.next HBW1.out)).mono ?_
 rintro e W2 ⟨qb, rfl, hat, hb2⟩
 have HBA0 := Y1 hat
 have HBW2 := Y1 (Z00 HBW1.out hb2)
 clear hat hb2 x0 x1 x2 x3 x4 x5 x6 x7 x8
 have HBX := Y1 (Z07 W2 b qb)
 have HBA := Y1 (HBA0.out.next (Z02 W2 (.cells (Y7 b qb) 26)))
 have HBW3 := Y1 (Z00 HBW2.out (Z02 W2 (.cells (Y7 b qb) 26)))
 clear HBA0 HBW2
 go_upto_region 4 with fail
 obtain ⟨H, hH⟩ : ∃ H, H = W2.heap.size := ⟨_, rfl⟩
 rw [<- hH] at HBX ⊢
 clear hH
 generalize W2.alloc (.cells (Y7 b qb) 26) = W3 at HBX HBA HBW3 ⊢
 obtain ⟨a1, ⟨x0, x1, x2, x3, x4, x5, x6, x7, x8⟩, a2⟩ := HB1.out.next HBW3.out
 simp only [Nat.zero_add] at x0 x1 x2 x3 x4 x5 x6 x7 x8
 clear a1 a2
 go_wp2_with fail
 refine (Z12 t q W3 (HQ.out.next HBW3.out) (HG.out.next HBW3.out) (HW.out.next HBW3.out) (HU.out.next HBW3.out) HTA.out HC.out).mono ?_
 rintro e W4 ⟨rfl, hb4⟩
 rw [<- HXT.out]
 have HJ4 := Y1 hb4
 have HBW4 := Y1 (Z00 HBW3.out hb4)
 clear hb4 x0 x1 x2 x3 x4 x5 x6 x7 x8
 obtain ⟨a1, ⟨x0, x1, x2, x3, x4, x5, x6, x7, x8⟩, a2⟩ := HBX.out.next HJ4.out
 simp only [Nat.zero_add] at x0 x1 x2 x3 x4 x5 x6 x7 x8
 clear a1 a2
 go_wp2_with fail
 have hsh := Z12 b qb W4 (HBA.out.next HJ4.out) (HG.out.next HBW4.out) (HW.out.next HBW4.out) (HU.out.next HBW4.out) HTB.out.1 HTB.out.2
 rw [HXB.out] at hsh
 refine hsh.mono ?_
 rintro e W5 ⟨rfl, hb5⟩
 have HJ5 := Y1 (Z00 HJ4.out hb5)
 have HBW5 := Y1 (Z00 HBW4.out hb5)
 clear hb5 hsh x0 x1 x2 x3 x4 x5 x6 x7 x8
 go_wp2_with fail
 refine Z0p (rs := [0, 1, 2, 3, 4, 5, 6, 7, 8, 9, 10, 11, 12, 13, 14, 15, 16, 17, 18, 19, 20, 21, 22, 23, 24, 25, 26, 27, 28, 29, 30, 31, 32, 33, 34, 35, 36, 37, 38, 39, 40, 41, 42])
  (fun u' => { tmps := #[.agg (Y7 t q), .pointer (some { block := w.heap.size, off := 0 }), u' 42, .pointer (some { block := H, off := 0 }), .string { data := St.toArray }, .int .i64 0, .string { data := St.toArray }, .int .i64 0, .agg (Y7 t q), .int .i64 (check t), .bool false, undef, undef, undef, undef, undef, undef, undef, .agg (Y7 t q), .agg (Y7 b qb), .tuple #[.string { data := St.toArray }, .int .i64 0], .agg (Y7 t q), .tuple #[.string { data := St.toArray }, .int .i64 0], .string { data := St.toArray }, .int .i64 0, .tuple #[.string { data := St.toArray }, .int .i64 0], .agg (Y7 b qb), .tuple #[.string { data := St.toArray }, .int .i64 0], .string { data := St.toArray }, .int .i64 0, u' 0, u' 1, u' 2, u' 3, u' 4, u' 5, u' 6, u' 7, u' 8, u' 9, u' 10, u' 11, u' 12, u' 13, u' 14, u' 15, u' 16, u' 17, u' 18, u' 19, u' 20, u' 21, u' 22, u' 23, u' 24, u' 25, u' 26, u' 27, u' 28, u' 29, u' 30, u' 31, u' 32, u' 33, u' 34, u' 35, u' 36, u' 37, u' 38, u' 39, u' 40, u' 41], defers := [] })
  (fun j => ([undef, undef, undef, undef, undef, undef, undef, undef, undef, undef, undef, undef, undef, undef, undef, undef, undef, undef, undef, undef, undef, undef, undef, undef, undef, undef, undef, undef, undef, undef, undef, undef, undef, undef, undef, undef, undef, undef, undef, undef, undef, undef, .bool false] : List Value).getD j undef) (ZhO t b m n q qb St z) (fun W => Below W5.heap.size W5 W) (by kernel_rfl) (by kernel_rfl) (by kernel_rfl) Y2.drew ?_ ?_
 refine StepsAt.cons _ rfl (fun u' W K' hJ hd hK => ?_) ?_
 {obtain ⟨_, ⟨y0, y1, y2, y3, y4, y5, y6, y7, y8⟩, _⟩ := HB1.out.next (Z00 HBW5.out hJ)
  simp only [Nat.zero_add] at y0 y1 y2 y3 y4 y5 y6 y7 y8
  refine Y0 hK hJ rfl rfl rfl ?_
  try dsimp only
  go_simp}
 refine StepsAt.cons _ rfl (fun u' W K' hJ hd hK => ?_) ?_
 {obtain ⟨_, ⟨y0, y1, y2, y3, y4, y5, y6, y7, y8⟩, _⟩ := HBX.out.next (Z00 HJ5.out hJ)
  simp only [Nat.zero_add] at y0 y1 y2 y3 y4 y5 y6 y7 y8
  refine Y0 hK hJ rfl rfl rfl ?_
  try dsimp only
  go_simp}
 refine StepsAt.cons _ rfl (fun u' W K' hJ hd hK => ?_) ?_
 {obtain ⟨_, ⟨y0, y1, y2, y3, y4, y5, y6, y7, y8⟩, _⟩ := HB1.out.next (Z00 HBW5.out hJ)
  simp only [Nat.zero_add] at y0 y1 y2 y3 y4 y5 y6 y7 y8
  refine Y0 hK hJ rfl rfl rfl ?_
  try dsimp only
  go_simp}
 refine StepsAt.cons _ rfl (fun u' W K' hJ hd hK => ?_) ?_
 {have d2 : _ = _ := hd 2 (by kernel_rfl)
  have hw := movedTo HM5.out.1 (by decide) HM5.out.2 q W (HQ.out.next (Z00 HBW5.out hJ))
  refine Z05 (f := 17) (args := #[.agg (Y7 t q), .int .i64 5]) (W' := W) rfl ?_ (hw.mono fun e w' h => by
   obtain ⟨q', h1, h2, h3⟩ := h
   exact ⟨_, h1, hK.out _ _ ⟨q', rfl, h2⟩ (Z00 hJ h3) h3⟩)
  try dsimp only
  go_simp}
 refine StepsAt.cons _ rfl (fun u' W K' hJ hd hK => ?_) ?_
 {have d0 : _ = _ := hd 0 (by kernel_rfl)
  have d1 : _ = _ := hd 1 (by kernel_rfl)
  obtain ⟨qm, d3, h3⟩ := hd 3 (by kernel_rfl)
  have hb := Z02 W (.cells #[.int .i64 t.kind, .string ⟨t.of_.toArray⟩, .string ⟨t.name.toArray⟩, .int .i64 t.n, .slice q.A t.names.length q.c, .slice q.V t.vars.length q.e, .slice q.S t.shapes.length q.s, .slice q.P t.parts.length q.d, .int .i64 t.at_, .int .i64 b.kind, .string ⟨b.of_.toArray⟩, .string ⟨b.name.toArray⟩, .int .i64 b.n, .slice qb.A b.names.length qb.c, .slice qb.V b.vars.length qb.e, .slice qb.S b.shapes.length qb.s, .slice qb.P b.parts.length qb.d, .int .i64 b.at_, .int .i64 m.kind, .string ⟨m.of_.toArray⟩, .string ⟨m.name.toArray⟩, .int .i64 m.n, .slice qm.A m.names.length qm.c, .slice qm.V m.vars.length qm.e, .slice qm.S m.shapes.length qm.s, .slice qm.P m.parts.length qm.d, .int .i64 m.at_] 26)
  have ht := Z6Q W t b m q qb qm (HQ.out.next (Z00 HBW5.out hJ)) (HBA.out.next (Z00 HJ5.out hJ)) h3
  refine Z01 (v := .slice (some ⟨W.heap.size, 0, none⟩) 3 3) (W' := Z18 W t b m q qb qm) rfl ?_ (hK.out _ _ ⟨_, rfl, ht⟩ (Z00 hJ hb) hb)
  unfold Z18
  try dsimp only
  go_simp}
 refine StepsAt.cons _ rfl (fun u' W K' hJ hd hK => ?_) ?_
 {obtain ⟨g, d4, h4⟩ := hd 4 (by kernel_rfl)
  have hw := Z0g (some ⟨g, 0, none⟩) 3 [t, b, m] W h4 (by simp) (Z33 (Z09 HTA.out) (Z09 HTB.out.1) (Z09 HTM.out)) (HW.out.next (Z00 HBW5.out hJ)) (HU.out.next (Z00 HBW5.out hJ))
  rw [HS3.out] at hw
  refine Z05 (f := 13) (args := #[.slice (some ⟨g, 0, none⟩) 3 3]) (W' := W) rfl ?_ (hw.mono fun e w' h => ⟨_, h.1, hK.out _ _ rfl (Z00 hJ h.2) h.2⟩)
  try dsimp only
  go_simp}
 refine StepsAt.cons _ rfl (fun u' W K' hJ hd hK => ?_) ?_
 {have d5 : _ = _ := hd 5 (by kernel_rfl)
  refine Y0 hK hJ rfl rfl rfl ?_
  try dsimp only
  go_simp}
 refine StepsAt.cons _ rfl (fun u' W K' hJ hd hK => ?_) ?_
 {have dg : _ = _ := hd 6 (by kernel_rfl)
  obtain ⟨_, ⟨y0, y1, y2, y3, y4, y5, y6, y7, y8⟩, _⟩ := HBX.out.next (Z00 HJ5.out hJ)
  simp only [Nat.zero_add] at y0 y1 y2 y3 y4 y5 y6 y7 y8
  refine Y0 hK hJ rfl rfl ?_ ?_
  {simp [Region.wanted, yielded, dg]}
  {try dsimp only
   go_simp}}
 refine StepsAt.cons _ rfl (fun u' W K' hJ hd hK => ?_) ?_
 {have dg : _ = _ := hd 6 (by kernel_rfl)
  have d7 : _ = _ := hd 7 (by kernel_rfl)
  have hw := bareTo HBB.out HTB.out.1 HTB.out.2 qb W (HBA.out.next (Z00 HJ5.out hJ)) (HW.out.next (Z00 HBW5.out hJ)) (HU.out.next (Z00 HBW5.out hJ))
  refine Z05 (f := 15) (args := #[.agg (Y7 b qb)]) (W' := W) ?_ ?_ (hw.mono fun e w' h => by
   obtain ⟨q', h1, h2, h3⟩ := h
   exact ⟨_, h1, hK.out _ _ ⟨q', rfl, h2⟩ (Z00 hJ h3) h3⟩)
  {simp [Region.wanted, yielded, dg]}
  {try dsimp only
   go_simp}}
 refine StepsAt.cons _ rfl (fun u' W K' hJ hd hK => ?_) ?_
 {have dg : _ = _ := hd 6 (by kernel_rfl)
  obtain ⟨_, ⟨y0, y1, y2, y3, y4, y5, y6, y7, y8⟩, _⟩ := HBX.out.next (Z00 HJ5.out hJ)
  simp only [Nat.zero_add] at y0 y1 y2 y3 y4 y5 y6 y7 y8
  refine Y0 hK hJ rfl rfl ?_ ?_
  {simp [Region.wanted, yielded, dg]}
  {try dsimp only
   go_simp}}
 refine StepsAt.cons _ rfl (fun u' W K' hJ hd hK => ?_) ?_
 {have dg : _ = _ := hd 6 (by kernel_rfl)
  obtain ⟨qd, d8, h8⟩ := hd 8 (by kernel_rfl)
  have d9 : _ = _ := hd 9 (by kernel_rfl)
  have hw := Z3p b b qd qb W h8 (HBA.out.next (Z00 HJ5.out hJ))
  rw [Z9L] at hw
  refine Z05 (f := 18) (args := #[.agg (Y7 b qd), .agg (Y7 b qb), .bool true]) (W' := W) ?_ ?_ (hw.mono fun e w' h => ⟨_, h.1, hK.out _ _ rfl (Z00 hJ h.2) h.2⟩)
  {simp [Region.wanted, yielded, dg]}
  {try dsimp only
   go_simp}}
 refine StepsAt.cons _ rfl (fun u' W K' hJ hd hK => ?_) ?_
 {have d6 : _ = _ := hd 6 (by kernel_rfl)
  have d10 : _ = _ := hd 10 (by kernel_rfl)
  refine Y0 hK hJ rfl rfl rfl ?_
  try dsimp only
  go_simp}
 refine StepsAt.cons _ rfl (fun u' W K' hJ hd hK => ?_) ?_
 {have d11 : _ = _ := hd 11 (by kernel_rfl)
  refine Y0 hK hJ rfl rfl rfl ?_
  try dsimp only
  go_simp}
 refine StepsAt.cons _ rfl (fun u' W K' hJ hd hK => ?_) ?_
 {have dg : _ = _ := hd 12 (by kernel_rfl)
  obtain ⟨_, ⟨y0, y1, y2, y3, y4, y5, y6, y7, y8⟩, _⟩ := HB1.out.next (Z00 HBW5.out hJ)
  simp only [Nat.zero_add] at y0 y1 y2 y3 y4 y5 y6 y7 y8
  refine Y0 hK hJ rfl rfl ?_ ?_
  {simp [Region.wanted, yielded, dg]}
  {try dsimp only
   go_simp}}
 refine StepsAt.cons _ rfl (fun u' W K' hJ hd hK => ?_) ?_
 {have dg : _ = _ := hd 12 (by kernel_rfl)
  have d13 : _ = _ := hd 13 (by kernel_rfl)
  have hw := movedTo HM9.out.1 (by decide) HM9.out.2 q W (HQ.out.next (Z00 HBW5.out hJ))
  refine Z05 (f := 17) (args := #[.agg (Y7 t q), .int .i64 9]) (W' := W) ?_ ?_ (hw.mono fun e w' h => by
   obtain ⟨q', h1, h2, h3⟩ := h
   exact ⟨_, h1, hK.out _ _ ⟨q', rfl, h2⟩ (Z00 hJ h3) h3⟩)
  {simp [Region.wanted, yielded, dg]}
  {try dsimp only
   go_simp}}
 refine StepsAt.cons _ rfl (fun u' W K' hJ hd hK => ?_) ?_
 {have dg : _ = _ := hd 12 (by kernel_rfl)
  obtain ⟨qn, d14, h14⟩ := hd 14 (by kernel_rfl)
  have hw := bareTo HNB.out HTN.out.1 HTN.out.2 qn W h14 (HW.out.next (Z00 HBW5.out hJ)) (HU.out.next (Z00 HBW5.out hJ))
  refine Z05 (f := 15) (args := #[.agg (Y7 n qn)]) (W' := W) ?_ ?_ (hw.mono fun e w' h => by
   obtain ⟨q', h1, h2, h3⟩ := h
   exact ⟨_, h1, hK.out _ _ ⟨q', rfl, h2⟩ (Z00 hJ h3) h3⟩)
  {simp [Region.wanted, yielded, dg]}
  {try dsimp only
   go_simp}}
 refine StepsAt.cons _ rfl (fun u' W K' hJ hd hK => ?_) ?_
 {have dg : _ = _ := hd 12 (by kernel_rfl)
  obtain ⟨_, ⟨y0, y1, y2, y3, y4, y5, y6, y7, y8⟩, _⟩ := HBX.out.next (Z00 HJ5.out hJ)
  simp only [Nat.zero_add] at y0 y1 y2 y3 y4 y5 y6 y7 y8
  refine Y0 hK hJ rfl rfl ?_ ?_
  {simp [Region.wanted, yielded, dg]}
  {try dsimp only
   go_simp}}
 refine StepsAt.cons _ rfl (fun u' W K' hJ hd hK => ?_) ?_
 {have dg : _ = _ := hd 12 (by kernel_rfl)
  obtain ⟨qe, d15, h15⟩ := hd 15 (by kernel_rfl)
  have d16 : _ = _ := hd 16 (by kernel_rfl)
  have hw := Z3p b b qe qb W h15 (HBA.out.next (Z00 HJ5.out hJ))
  rw [Z9L] at hw
  refine Z05 (f := 18) (args := #[.agg (Y7 b qe), .agg (Y7 b qb), .bool true]) (W' := W) ?_ ?_ (hw.mono fun e w' h => ⟨_, h.1, hK.out _ _ rfl (Z00 hJ h.2) h.2⟩)
  {simp [Region.wanted, yielded, dg]}
  {try dsimp only
   go_simp}}
 refine StepsAt.cons _ rfl (fun u' W K' hJ hd hK => ?_) ?_
 {have d12 : _ = _ := hd 12 (by kernel_rfl)
  have d17 : _ = _ := hd 17 (by kernel_rfl)
  refine Y0 hK hJ rfl rfl rfl ?_
  try dsimp only
  go_simp}
 refine StepsAt.cons _ rfl (fun u' W K' hJ hd hK => ?_) ?_
 {have d18 : _ = _ := hd 18 (by kernel_rfl)
  refine Y0 hK hJ rfl rfl rfl ?_
  try dsimp only
  go_simp}
 refine StepsAt.cons _ rfl (fun u' W K' hJ hd hK => ?_) ?_
 {have dg : _ = _ := hd 19 (by kernel_rfl)
  obtain ⟨_, ⟨y0, y1, y2, y3, y4, y5, y6, y7, y8⟩, _⟩ := HBX.out.next (Z00 HJ5.out hJ)
  simp only [Nat.zero_add] at y0 y1 y2 y3 y4 y5 y6 y7 y8
  refine Y0 hK hJ rfl rfl ?_ ?_
  {simp [Region.wanted, yielded, dg]}
  {try dsimp only
   go_simp}}
 refine StepsAt.cons _ rfl (fun u' W K' hJ hd hK => ?_) ?_
 {have dg : _ = _ := hd 19 (by kernel_rfl)
  have d20 : _ = _ := hd 20 (by kernel_rfl)
  have hw := Z1y b qb W (HBA.out.next (Z00 HJ5.out hJ))
  rw [HZB.out] at hw
  refine Z05 (f := 10) (args := #[.agg (Y7 b qb)]) (W' := W) ?_ ?_ (hw.mono fun e w' h => ⟨_, h.1, hK.out _ _ rfl (Z00 hJ h.2) h.2⟩)
  {simp [Region.wanted, yielded, dg]}
  {try dsimp only
   go_simp}}
 refine StepsAt.cons _ rfl (fun u' W K' hJ hd hK => ?_) ?_
 {have dg : _ = _ := hd 19 (by kernel_rfl)
  obtain ⟨_, ⟨y0, y1, y2, y3, y4, y5, y6, y7, y8⟩, _⟩ := HB1.out.next (Z00 HBW5.out hJ)
  simp only [Nat.zero_add] at y0 y1 y2 y3 y4 y5 y6 y7 y8
  refine Y0 hK hJ rfl rfl ?_ ?_
  {simp [Region.wanted, yielded, dg]}
  {try dsimp only
   go_simp}}
 refine StepsAt.cons _ rfl (fun u' W K' hJ hd hK => ?_) ?_
 {have dg : _ = _ := hd 19 (by kernel_rfl)
  have d22 : _ = _ := hd 22 (by kernel_rfl)
  have hw := Z1y t q W (HQ.out.next (Z00 HBW5.out hJ))
  rw [HZT.out] at hw
  refine Z05 (f := 10) (args := #[.agg (Y7 t q)]) (W' := W) ?_ ?_ (hw.mono fun e w' h => ⟨_, h.1, hK.out _ _ rfl (Z00 hJ h.2) h.2⟩)
  {simp [Region.wanted, yielded, dg]}
  {try dsimp only
   go_simp}}
 refine StepsAt.cons _ rfl (fun u' W K' hJ hd hK => ?_) ?_
 {have dg : _ = _ := hd 19 (by kernel_rfl)
  have d21 : _ = _ := hd 21 (by kernel_rfl)
  have d23 : _ = _ := hd 23 (by kernel_rfl)
  refine Y0 hK hJ rfl rfl ?_ ?_
  {simp [Region.wanted, yielded, dg]}
  {try dsimp only
   go_simp}}
 refine StepsAt.cons _ rfl (fun u' W K' hJ hd hK => ?_) ?_
 {have d19 : _ = _ := hd 19 (by kernel_rfl)
  have d24 : _ = _ := hd 24 (by kernel_rfl)
  refine Y0 hK hJ rfl rfl rfl ?_
  try dsimp only
  go_simp}
 refine StepsAt.cons _ rfl (fun u' W K' hJ hd hK => ?_) ?_
 {have d25 : _ = _ := hd 25 (by kernel_rfl)
  refine Y0 hK hJ rfl rfl rfl ?_
  try dsimp only
  go_simp}
 refine StepsAt.cons _ rfl (fun u' W K' hJ hd hK => ?_) ?_
 {have dg : _ = _ := hd 26 (by kernel_rfl)
  refine Y0 hK hJ rfl rfl ?_ ?_
  {simp [Region.wanted, yielded, dg]}
  {try dsimp only
   go_simp}}
 refine StepsAt.cons _ rfl (fun u' W K' hJ hd hK => ?_) ?_
 {have dg : _ = _ := hd 26 (by kernel_rfl)
  refine Y0 hK hJ rfl rfl ?_ ?_
  {simp [Region.wanted, yielded, dg]}
  {try dsimp only
   go_simp}}
 refine StepsAt.cons _ rfl (fun u' W K' hJ hd hK => ?_) ?_
 {have dg : _ = _ := hd 26 (by kernel_rfl)
  have d27 : _ = _ := hd 27 (by kernel_rfl)
  have d28 : _ = _ := hd 28 (by kernel_rfl)
  refine Y0 hK hJ rfl rfl ?_ ?_
  {simp [Region.wanted, yielded, dg]}
  {try dsimp only
   go_simp}}
 refine StepsAt.cons _ rfl (fun u' W K' hJ hd hK => ?_) ?_
 {have d26 : _ = _ := hd 26 (by kernel_rfl)
  have d29 : _ = _ := hd 29 (by kernel_rfl)
  refine Y0 hK hJ rfl rfl rfl ?_
  try dsimp only
  go_simp}
 refine StepsAt.cons _ rfl (fun u' W K' hJ hd hK => ?_) ?_
 {have d30 : _ = _ := hd 30 (by kernel_rfl)
  refine Y0 hK hJ rfl rfl rfl ?_
  try dsimp only
  go_simp}
 refine StepsAt.cons _ rfl (fun u' W K' hJ hd hK => ?_) ?_
 {have dg : _ = _ := hd 31 (by kernel_rfl)
  refine Y0 hK hJ rfl rfl ?_ ?_
  {simp [Region.wanted, yielded, dg]}
  {try dsimp only
   go_simp}}
 refine StepsAt.cons _ rfl (fun u' W K' hJ hd hK => ?_) ?_
 {have dg : _ = _ := hd 31 (by kernel_rfl)
  have d32 : _ = _ := hd 32 (by kernel_rfl)
  refine Y0 hK hJ rfl rfl ?_ ?_
  {simp [Region.wanted, yielded, dg]}
  {try dsimp only
   go_simp}}
 refine StepsAt.cons _ rfl (fun u' W K' hJ hd hK => ?_) ?_
 {have d31 : _ = _ := hd 31 (by kernel_rfl)
  have d33 : _ = _ := hd 33 (by kernel_rfl)
  refine Y0 hK hJ rfl rfl rfl ?_
  try dsimp only
  go_simp}
 refine StepsAt.cons _ rfl (fun u' W K' hJ hd hK => ?_) ?_
 {have d34 : _ = _ := hd 34 (by kernel_rfl)
  refine Y0 hK hJ rfl rfl rfl ?_
  try dsimp only
  go_simp}
 refine StepsAt.cons _ rfl (fun u' W K' hJ hd hK => ?_) ?_
 {have dg : _ = _ := hd 35 (by kernel_rfl)
  refine Y0 hK hJ rfl rfl ?_ ?_
  {simp [Region.wanted, yielded, dg]}
  {try dsimp only
   go_simp}}
 refine StepsAt.cons _ rfl (fun u' W K' hJ hd hK => ?_) ?_
 {have dg : _ = _ := hd 35 (by kernel_rfl)
  have d36 : _ = _ := hd 36 (by kernel_rfl)
  refine Y0 hK hJ rfl rfl ?_ ?_
  {simp [Region.wanted, yielded, dg]}
  {try dsimp only
   go_simp}}
 refine StepsAt.cons _ rfl (fun u' W K' hJ hd hK => ?_) ?_
 {have d35 : _ = _ := hd 35 (by kernel_rfl)
  have d37 : _ = _ := hd 37 (by kernel_rfl)
  refine Y0 hK hJ rfl rfl rfl ?_
  try dsimp only
  go_simp}
 refine StepsAt.cons _ rfl (fun u' W K' hJ hd hK => ?_) ?_
 {have d38 : _ = _ := hd 38 (by kernel_rfl)
  refine Y0 hK hJ rfl rfl rfl ?_
  try dsimp only
  go_simp}
 refine StepsAt.cons _ rfl (fun u' W K' hJ hd hK => ?_) ?_
 {have dg : _ = _ := hd 39 (by kernel_rfl)
  have hw := Z0J W (HG.out.next (Z00 HBW5.out hJ)) (HW.out.next (Z00 HBW5.out hJ)) (HU.out.next (Z00 HBW5.out hJ))
  refine Z05 (f := 12) (args := #[]) (W' := W) ?_ ?_ (hw.mono fun e w' h => ⟨_, h.1, hK.out _ _ rfl (Z00 hJ h.2) h.2⟩)
  {simp [Region.wanted, yielded, dg]}
  {try dsimp only
   go_simp}}
 refine StepsAt.cons _ rfl (fun u' W K' hJ hd hK => ?_) ?_
 {have d39 : _ = _ := hd 39 (by kernel_rfl)
  have d40 : _ = _ := hd 40 (by kernel_rfl)
  refine Y0 hK hJ rfl rfl rfl ?_
  try dsimp only
  go_simp}
 refine StepsAt.cons _ rfl (fun u' W K' hJ hd hK => ?_) StepsAt.nil
 {have d41 : _ = _ := hd 41 (by kernel_rfl)
  refine Y0 hK hJ rfl rfl rfl ?_
  try dsimp only
  go_simp}
 intro u' W6 hJ6 hok
 have eL : u' 42 = .bool true := hok 42 (by decide)
 try dsimp only
 rw [eL]
 have HBW6 := Y1 (Z00 HBW5.out hJ6)
 clear hok eL hJ6
 go_wp2
 go_ret
 exact ⟨rfl, Z00 HB0.out HBW6.out⟩
theorem Z7b (t : Tm) (q : TP) (w : World) (hq : TmAt w w.heap.size q t) (tt : tame t = true) (hG : Globs w) (hg : WGlobs w) (hu : Z0l w)  :
 Y9 5 #[.agg (Y7 t q)] w (.bool true) := by
 by_cases h1 : Tms.check t = 0
 {exact Zfd t q w hq tt hG hg hu h1}
 {exact Zgp t q w hq tt hG hg hu h1}
end Go.Proofs.YtnkdedejfonbmaaGreatDoor
namespace Go.Proofs.YtnkdedejfonbmaaGreatDoor.termsBare
open Go.ChangeShapes Go.WideShapes Go.ChangeAt Go.RowKit
open Go.ChangeMaps (open_string shut_string)
theorem own : ownKnob Tryz.prog.godebug = none := by kernel_rfl
theorem laidOut : laidOutB Tryz.prog = true := by kernel_rfl
theorem contract (H : Type) (enc : TypeId × Value -> H) (W : World) (base : Nat) (args : Array Value) (ds gs : List (DataW H)) (before : List MemPlace)
 (hval : ∀ (j : Nat) t v, Tryz.f5.params[j]? = some t -> args[j]? = some v -> Value.okWide Tryz.prog W .any base t v)
 (hW : DataW.Whole enc Tryz.prog Tryz.f5.params.toList Rows.termsBareSpec.vars false W args.toList ds gs before) (hL : laidMetH Tryz.prog Rows.termsBareUptoRow.laid W) (hk : Rows.uptoSmall H (ds ++ gs) = true)
 (hsz : (DataW.weightsEach Tryz.prog (Tryz.f5.params.toList ++ Rows.termsBareSpec.plain.varTypes Tryz.prog) (ds ++ gs)).all (· <= reachBytes) = true) :
 Calls Tryz.prog 5 args W fun e W' => ∃ v, e = .returned v /\ Rows.termsBareSpec.post enc Tryz.prog Tryz.f5 false true false false W args v W' := by
 have hW' := hW
 obtain ⟨p, q, hA0, hV, rfl, hfz, hnd⟩ := hW
 have hA : DataW.TrodAll enc Tryz.prog W 0 (fun _ => true) true Tryz.f5.params.toList args.toList ds p := hA0
 rw [Tryz.params5] at hA hval hsz
 obtain ⟨v0, vs0, d0, ds0, p0, q0, hargs, rfl, rfl, h0, t0⟩ := trodAll_cons hA
 obtain ⟨rfl, rfl, rfl⟩ := trodAll_nil t0
 obtain rfl : args = #[v0] := by cases args; simp_all
 obtain ⟨rfl, rfl⟩ := trodVars_none hV
 simp only [List.append_nil] at hk
 have hbulk : Rows.uptoBulkAll (H := H) _ <= 1048576 := of_decide_eq_true hk
 simp only [Rows.uptoBulkAll] at hbulk
 have k0 := h0
 have lt0 : ∀ x ∈ p0, x.block < W.heap.size := by obtain ⟨m, hm⟩ := k0; exact DataW.trod_lt m _ _ _ hm
 obtain ⟨u0, y0, rfl, S0, b0⟩ := Z2J (hval 0 26 v0 rfl rfl) h0
 have t0 : Tms.tame u0 = true := Z37 b0 (by omega)
 clear hA0
 rw [MakeChecks.laidMetH_plain _ _ _ (by kernel_rfl)] at hL
 have g0 : Globs W := Z3j hL (List.Mem.tail _ (List.Mem.tail _ (List.Mem.tail _ (List.Mem.tail _ (List.Mem.tail _ (List.Mem.head _)))))) (List.Mem.tail _ (List.Mem.tail _ (List.Mem.tail _ (List.Mem.tail _ (List.Mem.head _))))) (List.Mem.tail _ (List.Mem.tail _ (List.Mem.head _)))
 have g1 : WGlobs W := Z2M hL (List.Mem.tail _ (List.Mem.tail _ (List.Mem.tail _ (List.Mem.tail _ (List.Mem.tail _ (List.Mem.tail _ (List.Mem.head _)))))))
 have g2 : Z0l W := Z2k hL (List.Mem.tail _ (List.Mem.tail _ (List.Mem.tail _ (List.Mem.tail _ (List.Mem.tail _ (List.Mem.tail _ (List.Mem.tail _ (List.Mem.head _)))))))) (List.Mem.tail _ (List.Mem.tail _ (List.Mem.tail _ (List.Mem.head _))))
 refine (Z7b u0 y0 W S0 t0 g0 g1 g2).mono fun e W' ⟨he, bel⟩ => ?_
 subst he
 exact ⟨_, rfl, _, _, _, [], _, [], hW', trodAll_mk1 (shut_bool Tryz.underlying4 _), (trodAll_cons_mk (Below.trod laidOut (by kernel_rfl) (of_decide_eq_true (by kernel_rfl)) k0 bel lt0) trodAll_mk0), rfl, bel.frame _, fun h => by cases h⟩
theorem reads (os : Os) {H : Type} (enc : TypeId × Value -> H) : ∃ places, DataW.whole enc Tryz.prog ((World.laidAll Tryz.prog os Rows.termsBareUptoRow.laid).forCall (fun _ _ => 0) ⟨#[], #[(.agg #[.int .i64 0, .string ByteArray.empty, .string ByteArray.empty, .int .i64 0, .slice none 0 0, .slice none 0 0, .slice none 0 0, .slice none 0 0, .int .i64 0])], []⟩).memory Tryz.f5.params.toList Rows.termsBareSpec.vars false #[(.agg #[.int .i64 0, .string ByteArray.empty, .string ByteArray.empty, .int .i64 0, .slice none 0 0, .slice none 0 0, .slice none 0 0, .slice none 0 0, .int .i64 0])].toList 8 = some ([.agg [.lit (.int .i64 0), .lit (.string []), .lit (.string []), .lit (.int .i64 0), .nil, .nil, .nil, .nil, .lit (.int .i64 0)]], [], places) :=
 ⟨[], by kernel_rfl⟩
theorem lifted (os : Os) (started : os.Started) (H : Type) (enc : TypeId × Value -> H) (F : Stop.Interp) :
 ReturnsInHanded {} Tryz.checked os 5 .any ((Rows.OpenSpec.upto Rows.termsBareSpec).preRow enc Tryz.prog Tryz.f5 Rows.termsBareUptoRow.domain false Rows.termsBareUptoRow.laid) (((Rows.OpenSpec.upto Rows.termsBareSpec).at F).post enc Tryz.prog Tryz.f5 false true false false) := by
 obtain ⟨places, hx⟩ := reads os enc
 refine returnsInHanded_of_row (C := Tryz.checked) (s := Rows.OpenSpec.upto Rows.termsBareSpec) own started (by kernel_rfl) Tryz.func5
  (Z15 (enc := enc) (C := Tryz.checked) (s := Rows.OpenSpec.upto Rows.termsBareSpec) false (World.laidAll Tryz.prog os Rows.termsBareUptoRow.laid) #[(.agg #[.int .i64 0, .string ByteArray.empty, .string ByteArray.empty, .int .i64 0, .slice none 0 0, .slice none 0 0, .slice none 0 0, .slice none 0 0, .int .i64 0])] (World.laidAll_os _ _ _)
   (World.shaped_of_ZipB (by kernel_rfl) (by kernel_rfl)) (by kernel_rfl)
   (OpenSpec.preRow_of_cond 8 hx (by kernel_rfl) (fun k hk => by cases hk; kernel_rfl) (by kernel_rfl)
    (by rw [MakeChecks.laidMetH_plain _ _ _ (by kernel_rfl)]; exact laidMet_laidAll _ (by kernel_rfl) (by kernel_rfl)))) ?_
 intro W base args ds gs before hval hW _ hcond hsz hL _ _
 exact contract H enc W base args ds gs before hval hW hL (hcond _ rfl) hsz
theorem proved : Rows.TermsBareUptoSaid :=
 OpenClaim.holds_of_cond 5 Tryz.f5 rfl rfl rfl rfl rfl rfl rfl ⟨rfl, rfl, rfl, rfl, rfl⟩ rfl rfl rfl rfl rfl (by kernel_rfl) Tryz.func5 (by kernel_rfl)
  (of_decide_eq_true (by kernel_rfl)) (by unfold Func.isWrapper; first | (rw [if_pos (by decide +kernel)]; kernel_rfl) | (rw [if_neg (by decide +kernel)]; exact ⟨rfl, rfl⟩))
  (fun os started H enc _ F => by rw [OpenClaim.pre_eq_preRow]; exact lifted os started H enc F)
theorem card : Rows.TermsBareUptoCardSaid :=
 Claim7.holds_tied_plain_at .later [] _ _ _ _ proved (fun _ h => by cases h) (by kernel_rfl) (fun _ h => by cases h) termsBareUpto_row_tie rfl ⟨rfl, rfl⟩ (by kernel_rfl) rfl
  (fun f fn hf hfn => by
   obtain rfl : f = 5 := Option.some.inj ((show Tryz.prog.funcNamed "pandect/pandectlaw08.TermsBare" = some 5 by kernel_rfl).symm.trans hf) |>.symm
   obtain rfl : fn = Tryz.f5 := (Option.some.inj (Tryz.func5.symm.trans hfn)).symm
   exact ⟨by kernel_rfl, fun j t ht => by
    rw [Tryz.params5] at ht
    have hm : t ∈ [26] := by simpa using Array.mem_of_getElem? ht
    have hall : ([26].all fun u => !Tryz.prog.wantsStandIn u) = true := by kernel_rfl
    exact (show Tryz.prog.wantsStandIn t = false by simpa using List.all_eq_true.1 hall t hm)⟩)
  (by kernel_rfl)
end Go.Proofs.YtnkdedejfonbmaaGreatDoor.termsBare
