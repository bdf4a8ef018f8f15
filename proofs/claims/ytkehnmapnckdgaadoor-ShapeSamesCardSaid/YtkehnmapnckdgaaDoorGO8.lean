/- ShpO8, ShelfShp, ShpO9, ShpOwn, together. -/
import Derived.Test.YtkehnmapnckdgaaDoorGMath
import Derived.Test.YtkehnmapnckdgaaDoorGR5
import Derived.Shelf.Strings.OnBuilder
import Derived.Test.YtkehnmapnckdgaaDoorGBase
import Derived.Test.YtkehnmapnckdgaaDoorGO1
import Derived.Laws.MakeOwn
import Derived.Deep.OwnRows
/- The program's equal of layer 7, through slices.Equal and slices.EqualFunc. -/
namespace Go.Proofs.YtkehnmapnckdgaaDoor
open Go.RowKit Shp
set_option linter.unusedVariables false

set_option maxRecDepth 100000 in
set_option maxHeartbeats 1000000 in
theorem slEqual_walk (A B : Option Addr) (c d : Nat) (l m : List (List UInt8)) (w : World) (hA : Strs w w.heap.size A (strs l)) (hB : Strs w w.heap.size B (strs m)) (hl : l.length ≤ 9223372036854775807) (hm : m.length ≤ 9223372036854775807) :
    Calls Tryd.prog 48 #[.slice A l.length c, .slice B m.length d] w fun e w' => e = .returned (.bool (l == m)) ∧ Below w.heap.size w w' := by
  have HA := Lib.hid hA
  have HB := Lib.hid hB
  clear hA hB
  by_cases hlm : l.length = m.length
  · have n0 : ((l.length : Int) != (m.length : Int)) = false := by rw [hlm]; simp
    have e0 : ((l.length : Int) == (m.length : Int)) = true := by rw [hlm]; simp
    have HLM := Lib.hid hlm
    clear hlm
    go_enter Tryd.func48, Tryd.ntmps48
    go_wp2_with fail
    go_loopw [13] (fun ii wr => ∃ i : Nat, ii = .int .i64 i ∧ i ≤ l.length ∧ Hid (∀ j (h : j < l.length) (h' : j < m.length), j < i → l[j]'h = m[j]'h') ∧ Below w.heap.size w wr) (fun i _ => l.length - (intOf i).toNat)
    case atStart => exact ⟨0, rfl, Nat.zero_le _, Lib.hid (fun j _ _ hj => absurd hj (by omega)), Below.refl _ _⟩
    case round =>
      obtain ⟨i, rfl, hi, HN, hb⟩ := hrel
      by_cases hlt : i < l.length
      · have hi1 : (i : Int) < (l.length : Int) := by omega
        have hi3 : i < m.length := by have := HLM.out; omega
        have hi2 : (i : Int) < (m.length : Int) := by omega
        rcases (HA.out.next hb).cell7 with h0 | ⟨g, off, rfl, hg, hc⟩
        · omega
        · rcases (HB.out.next hb).cell7 with h0 | ⟨g', off', rfl, hg', hc'⟩
          · omega
          · have p := hc i hlt
            have p' := hc' i hi3
            obtain ⟨x, hx⟩ : ∃ x, x = l[i]'hlt := ⟨_, rfl⟩
            obtain ⟨y, hy⟩ : ∃ y, y = m[i]'hi3 := ⟨_, rfl⟩
            rw [← hx] at p
            rw [← hy] at p'
            have HX := Lib.hid hx
            have HY := Lib.hid hy
            clear hx hy hc hc'
            cases hxy : (x == y)
            · have HF : Hid ((l == m) = false) := Lib.hid (by
                rw [beq_eq_false_iff_ne]
                rintro rfl
                rw [HX.out, HY.out] at hxy
                simp at hxy)
              have n1 : (x != y) = true := by unfold bne; rw [hxy]; rfl
              go_wp2_with fail
              go_quiet (fail)
              go_wp2
              go_ret
              exact ⟨by rw [HF.out]; rfl, below_drewN hb _⟩
            · have n1 : (x != y) = false := by unfold bne; rw [hxy]; rfl
              have HE : Hid (l[i]'hlt = m[i]'hi3) := Lib.hid (by rw [← HX.out, ← HY.out]; simpa using hxy)
              go_wp2_with fail
              go_quiet (fail)
              go_wp2
              go_roundw
              case rel => exact ⟨i + 1, by go_num, by omega, Lib.hid (fun j hj hj' hji => by
                rcases Nat.lt_succ_iff_lt_or_eq.1 hji with h | rfl
                · exact HN.out j hj hj' h
                · exact HE.out), below_drewN hb _⟩
              case measure => simp [intOf]; omega
      · have hi1 : ¬ (i : Int) < (l.length : Int) := by omega
        have HF : Hid ((l == m) = true) := Lib.hid (by
          rw [beq_iff_eq]
          exact List.ext_getElem HLM.out (fun j a b => HN.out j a b (by omega)))
        go_wp2
        go_ret
        exact ⟨by rw [HF.out]; rfl, hb⟩
  · have n0 : ((l.length : Int) != (m.length : Int)) = true := by
      have : ((l.length : Int) == (m.length : Int)) = false := by rw [beq_eq_false_iff_ne]; omega
      unfold bne; rw [this]; rfl
    have e0 : ((l.length : Int) == (m.length : Int)) = false := by rw [beq_eq_false_iff_ne]; omega
    have HF : Hid ((l == m) = false) := Lib.hid (by rw [beq_eq_false_iff_ne]; intro h; rw [h] at hlm; exact hlm rfl)
    clear hlm
    go_enter Tryd.func48, Tryd.ntmps48
    go_wp2
    go_ret
    exact ⟨by rw [HF.out]; rfl, Below.refl _ _⟩

/-- The parts of a type, as they lie. -/
def Lies7 (w : World) (P : Option Addr) (l : List Sh) : Prop :=
  ∃ (g off : Nat) (qs : Nat → Ptr), l.length = 0 ∨ P = some ⟨g, off, none⟩ ∧ g < w.heap.size ∧ (∀ i (h : i < l.length), Sh5 w g (off + i * 5) (l[i]'h) (qs i)) ∧ ∀ i (h : i < l.length), ShAt w w.heap.size (qs i) (l[i]'h)
theorem Lies7.next {w w' : World} {P : Option Addr} {l : List Sh} (h : Lies7 w P l) (hb : Below w.heap.size w w') : Lies7 w' P l := by
  obtain ⟨g, off, qs, h⟩ := h
  rcases h with h | ⟨h1, h2, h3, h4⟩
  · exact ⟨g, off, qs, Or.inl h⟩
  · exact ⟨g, off, qs, Or.inr ⟨h1, Nat.lt_of_lt_of_le h2 hb.size, fun i hi => (h3 i hi).keep h2 hb, fun i hi => (h4 i hi).next hb⟩⟩
theorem ShAt.lies {w : World} {q : Ptr} {t : Sh} (h : ShAt w w.heap.size q t) : Lies7 w q.P t.parts := by
  rcases h.part with h0 | ⟨g, off, qs, h1, h2, h3, h4⟩
  · exact ⟨0, 0, fun _ => q, Or.inl h0⟩
  · exact ⟨g, off, qs, Or.inr ⟨h1, h2, h3, h4⟩⟩

set_option maxRecDepth 100000 in
set_option maxHeartbeats 2000000 in
theorem slEqualF_walk (P Q : Option Addr) (c d : Nat) (l m : List Sh) (w : World) (hP : Lies7 w P l) (hQ : Lies7 w Q m) (hl : l.length ≤ 9223372036854775807) (hm : m.length ≤ 9223372036854775807)
    (hf : ∀ x ∈ l, ∀ (y : Sh) (q r : Ptr) (w : World), ShAt w w.heap.size q x → ShAt w w.heap.size r y → Calls Tryd.prog 35 #[.agg #[.int .i64 x.kind, .string ⟨x.of_.toArray⟩, .string ⟨x.name.toArray⟩, .slice q.A x.names.length q.c, .slice q.P x.parts.length q.d], .agg #[.int .i64 y.kind, .string ⟨y.of_.toArray⟩, .string ⟨y.name.toArray⟩, .slice r.A y.names.length r.c, .slice r.P y.parts.length r.d]] w fun e w' => e = .returned (.bool (eqB x y)) ∧ Below w.heap.size w w') :
    Calls Tryd.prog 49 #[.slice P l.length c, .slice Q m.length d, .func (.func 35) #[] #[]] w fun e w' => e = .returned (.bool (eqs l m)) ∧ Below w.heap.size w w' := by
  have HP := Lib.hid hP
  have HQ := Lib.hid hQ
  have HF0 := Lib.hid hf
  clear hP hQ hf
  by_cases hlm : l.length = m.length
  · have n0 : ((l.length : Int) != (m.length : Int)) = false := by rw [hlm]; simp
    have e0 : ((l.length : Int) == (m.length : Int)) = true := by rw [hlm]; simp
    have HLM := Lib.hid hlm
    clear hlm
    go_enter Tryd.func49, Tryd.ntmps49
    go_wp2_with fail
    go_loopw [17] (fun ii wr => ∃ i : Nat, ii = .int .i64 i ∧ i ≤ l.length ∧ Hid (∀ j (h : j < l.length) (h' : j < m.length), j < i → eqB (l[j]'h) (m[j]'h') = true) ∧ Below w.heap.size w wr) (fun i _ => l.length - (intOf i).toNat)
    case atStart => exact ⟨0, rfl, Nat.zero_le _, Lib.hid (fun j _ _ hj => absurd hj (by omega)), Below.refl _ _⟩
    case round =>
      obtain ⟨i, rfl, hi, HN, hb⟩ := hrel
      by_cases hlt : i < l.length
      · have hi1 : (i : Int) < (l.length : Int) := by omega
        have hi3 : i < m.length := by have := HLM.out; omega
        have hi2 : (i : Int) < (m.length : Int) := by omega
        obtain ⟨g, off, qs, hPP⟩ := HP.out.next hb
        obtain ⟨g', off', rs, hQQ⟩ := HQ.out.next hb
        rcases hPP with h0 | ⟨rfl, hg, hc, hr⟩
        · omega
        · rcases hQQ with h0 | ⟨rfl, hg', hc', hr'⟩
          · omega
          · obtain ⟨x, hx⟩ : ∃ x, x = l[i]'hlt := ⟨_, rfl⟩
            obtain ⟨y, hy⟩ : ∃ y, y = m[i]'hi3 := ⟨_, rfl⟩
            obtain ⟨p0, p1, p2, p3, p4⟩ := hc i hlt
            have hs5 := (hc' i hi3)
            have hat := hr i hlt
            have hat' := hr' i hi3
            have ihx := HF0.out l[i] (List.getElem_mem _)
            rw [← hx] at p0 p1 p2 p3 p4 hat ihx
            rw [← hy] at hs5 hat'
            have HS := Lib.hid hs5
            have HX := Lib.hid hx
            have HY := Lib.hid hy
            have hb1 := below_one wr (.cells #[.int .i64 x.kind, .string ⟨x.of_.toArray⟩, .string ⟨x.name.toArray⟩, .slice (qs i).A x.names.length (qs i).c, .slice (qs i).P x.parts.length (qs i).d] 25)
            have hb2 := below_new hb1 (.cells #[.int .i64 y.kind, .string ⟨y.of_.toArray⟩, .string ⟨y.name.toArray⟩, .slice (rs i).A y.names.length (rs i).c, .slice (rs i).P y.parts.length (rs i).d] 25)
            have IH := ihx y (qs i) (rs i) _ (hat.next hb2) (hat'.next hb2)
            obtain ⟨s0, s1, s2, s3, s4⟩ := hs5.keep hg' hb1
            have HBW := Lib.hid (below_next hb hb2)
            have HBB := Lib.hid hb2
            clear hx hy hc hc' hr hr' hat hat' ihx hs5 hb1 hb2
            cases hxy : eqB x y
            · have HF : Hid (eqs l m = false) := Lib.hid (eqs_part hlt hi3 (by rw [← HX.out, ← HY.out]; exact hxy))
              rw [hxy] at IH
              clear hxy
              go_wp2_with fail
              refine IH.mono ?_
              rintro e w' ⟨rfl, hb'⟩
              go_wp2
              go_ret
              exact ⟨by rw [HF.out]; rfl, below_next HBW.out hb'⟩
            · have HE : Hid (eqB (l[i]'hlt) (m[i]'hi3) = true) := Lib.hid (by rw [← HX.out, ← HY.out]; exact hxy)
              rw [hxy] at IH
              clear hxy
              go_wp2_with fail
              refine IH.mono ?_
              rintro e w' ⟨rfl, hb'⟩
              go_wp2
              go_roundw
              case rel => exact ⟨i + 1, by go_num, by omega, Lib.hid (fun j hj hj' hji => by
                rcases Nat.lt_succ_iff_lt_or_eq.1 hji with h | rfl
                · exact HN.out j hj hj' h
                · exact HE.out), below_next HBW.out hb'⟩
              case measure => simp [intOf]; omega
      · have hi1 : ¬ (i : Int) < (l.length : Int) := by omega
        have HF : Hid (eqs l m = true) := Lib.hid (eqs_all HLM.out (fun j hj => HN.out j hj (by have := HLM.out; omega) (by omega)))
        go_wp2
        go_ret
        exact ⟨by rw [HF.out]; rfl, hb⟩
  · have n0 : ((l.length : Int) != (m.length : Int)) = true := by
      have : ((l.length : Int) == (m.length : Int)) = false := by rw [beq_eq_false_iff_ne]; omega
      unfold bne; rw [this]; rfl
    have e0 : ((l.length : Int) == (m.length : Int)) = false := by rw [beq_eq_false_iff_ne]; omega
    have HF : Hid (eqs l m = false) := Lib.hid (by
      cases e : eqs l m with
      | false => rfl
      | true => exact absurd (congrArg List.length ((eqs_iff l m).1 e)) hlm)
    clear hlm
    go_enter Tryd.func49, Tryd.ntmps49
    go_wp2
    go_ret
    exact ⟨by rw [HF.out]; rfl, Below.refl _ _⟩

set_option maxRecDepth 100000 in
set_option maxHeartbeats 2000000 in
theorem oequal_walk (t : Sh) : ∀ (u : Sh) (q r : Ptr) (w : World), ShAt w w.heap.size q t → ShAt w w.heap.size r u →
    Calls Tryd.prog 35 #[.agg #[.int .i64 t.kind, .string ⟨t.of_.toArray⟩, .string ⟨t.name.toArray⟩, .slice q.A t.names.length q.c, .slice q.P t.parts.length q.d], .agg #[.int .i64 u.kind, .string ⟨u.of_.toArray⟩, .string ⟨u.name.toArray⟩, .slice r.A u.names.length r.c, .slice r.P u.parts.length r.d]] w fun e w' => e = .returned (.bool (eqB t u)) ∧ Below w.heap.size w w' := by
  induction t using Sh.ind with
  | h t ih =>
  intro u q r w hq hr
  have hb0 := below_one w (.cells #[.int .i64 t.kind, .string ⟨t.of_.toArray⟩, .string ⟨t.name.toArray⟩, .slice q.A t.names.length q.c, .slice q.P t.parts.length q.d] 25)
  have hb1 := below_new hb0 (.cells #[.int .i64 u.kind, .string ⟨u.of_.toArray⟩, .string ⟨u.name.toArray⟩, .slice r.A u.names.length r.c, .slice r.P u.parts.length r.d] 25)
  have HB1 := Lib.hid hb1
  have HB := Lib.hid ((box5_new w t q).next (below_one _ (.cells #[.int .i64 u.kind, .string ⟨u.of_.toArray⟩, .string ⟨u.name.toArray⟩, .slice r.A u.names.length r.c, .slice r.P u.parts.length r.d] 25)))
  have hC := box5_new (w.alloc (.cells #[.int .i64 t.kind, .string ⟨t.of_.toArray⟩, .string ⟨t.name.toArray⟩, .slice q.A t.names.length q.c, .slice q.P t.parts.length q.d] 25)) u r
  rw [World.size_alloc] at hC
  have HC := Lib.hid hC
  obtain ⟨_, ⟨c0, c1, c2, c3, c4⟩, _⟩ := HB.out
  obtain ⟨_, ⟨d0, d1, d2, d3, d4⟩, _⟩ := hC
  have HS := Lib.hid hq.small
  have HT := Lib.hid hr.small
  have hns := slEqual_walk q.A r.A q.c r.c t.names u.names _ (hq.strs.next hb1) (hr.strs.next hb1) HS.out.l HT.out.l
  have HPS := Lib.hid (fun W (h : Below w.heap.size w W) => slEqualF_walk q.P r.P q.d r.d t.parts u.parts W ((hq.next h).lies) ((hr.next h).lies) HS.out.m HT.out.m ih)
  have HH : Hid (eqB t u = (t.kind == u.kind && t.of_ == u.of_ && t.name == u.name && t.names == u.names && eqs t.parts u.parts)) := Lib.hid (eqB_eq t u)
  clear hb0 hb1 hq hr ih
  cases e1 : (t.kind == u.kind)
  · have HF : Hid (eqB t u = false) := Lib.hid (by rw [HH.out, e1]; rfl)
    go_enter Tryd.func35, Tryd.ntmps35
    go_wp2
    go_ret
    exact ⟨by rw [HF.out]; rfl, HB1.out⟩
  · cases e2 : (t.of_ == u.of_)
    · have HF : Hid (eqB t u = false) := Lib.hid (by rw [HH.out, e2]; simp)
      go_enter Tryd.func35, Tryd.ntmps35
      go_wp2
      go_ret
      exact ⟨by rw [HF.out]; rfl, HB1.out⟩
    · cases e3 : (t.name == u.name)
      · have HF : Hid (eqB t u = false) := Lib.hid (by rw [HH.out, e3]; simp)
        go_enter Tryd.func35, Tryd.ntmps35
        go_wp2
        go_ret
        exact ⟨by rw [HF.out]; rfl, HB1.out⟩
      · cases e4 : (t.names == u.names)
        · have HF : Hid (eqB t u = false) := Lib.hid (by rw [HH.out, e4]; simp)
          rw [e4] at hns
          clear e4
          go_enter Tryd.func35, Tryd.ntmps35
          go_wp2_with fail
          refine hns.mono ?_
          rintro e w' ⟨rfl, hb'⟩
          go_wp2
          go_ret
          exact ⟨by rw [HF.out]; rfl, below_next HB1.out hb'⟩
        · have HF : Hid (eqB t u = eqs t.parts u.parts) := Lib.hid (by rw [HH.out, e1, e2, e3, e4]; rfl)
          rw [e4] at hns
          clear e4
          go_enter Tryd.func35, Tryd.ntmps35
          go_wp2_with fail
          refine hns.mono ?_
          rintro e w1 ⟨rfl, hb'⟩
          have hbw := below_next HB1.out hb'
          have hp := HPS.out w1 hbw
          have hX := HB.out.next hb'
          have hY := HC.out.next hb'
          clear c0 c1 c2 c3 c4 d0 d1 d2 d3 d4 hns hb' e1 e2 e3
          obtain ⟨_, ⟨c0, c1, c2, c3, c4⟩, _⟩ := hX
          obtain ⟨_, ⟨d0, d1, d2, d3, d4⟩, _⟩ := hY
          go_wp2_with fail
          refine hp.mono ?_
          rintro e w' ⟨rfl, hb2⟩
          go_wp2
          go_ret
          exact ⟨by rw [HF.out]; rfl, below_next hbw hb2⟩
end Go.Proofs.YtkehnmapnckdgaaDoor

/- The library contract that layer 7 uses (strings.Join), stated at this translation's numbers. -/
namespace Go.Proofs
open Go.Shelf
def Tryd.lays156_ren : Go.Shelf.Ren := ⟨fun | 156 => 50 | 165 => 68 | 166 => 69 | 169 => 70 | 240 => 91 | 241 => 92 | 276 => 101 | 277 => 102 | n => n, fun | 31 => 22 | 9 => 9 | 3 => 3 | 4 => 4 | 0 => 0 | 20 => 20 | 72 => 81 | 76 => 85 | 70 => 78 | 37 => 79 | 75 => 84 | 127 => 111 | 164 => 120 | 5 => 5 | 80 => 87 | n => n, fun | n => n⟩
theorem Tryd.lays156 : Go.Proofs.Lays.n156 Tryd.prog Tryd.lays156_ren := {
  mixed := by kernel_rfl
  f156 := Tryd.func50.trans (congrArg some (by kernel_rfl))
  f165 := Tryd.func68.trans (congrArg some (by kernel_rfl))
  f166 := Tryd.func69.trans (congrArg some (by kernel_rfl))
  f169 := Tryd.func70.trans (congrArg some (by kernel_rfl))
  f240 := Tryd.func91.trans (congrArg some (by kernel_rfl))
  f241 := Tryd.func92.trans (congrArg some (by kernel_rfl))
  f276 := Tryd.func101.trans (congrArg some (by kernel_rfl))
  f277 := Tryd.func102.trans (congrArg some (by kernel_rfl))
  t0 := Tryd.underlying0
  a0 := Tryd.isAgg0
  z0 := Tryd.sizeOf0
  v0 := Tryd.zeroValue0
  t3 := Tryd.underlying3
  a3 := Tryd.isAgg3
  z3 := Tryd.sizeOf3
  v3 := Tryd.zeroValue3
  t4 := Tryd.underlying4
  a4 := Tryd.isAgg4
  z4 := Tryd.sizeOf4
  v4 := Tryd.zeroValue4
  t9 := Tryd.underlying9
  a9 := Tryd.isAgg9
  z9 := Tryd.sizeOf9
  v9 := Tryd.zeroValue9
  t20 := Tryd.underlying20
  a20 := Tryd.isAgg20
  z20 := Tryd.sizeOf20
  v20 := Tryd.zeroValue20
  t31 := Tryd.underlying22
  a31 := Tryd.isAgg22
  z31 := Tryd.sizeOf22
  v31 := Tryd.zeroValue22
  t37 := Tryd.underlying79
  a37 := Tryd.isAgg79
  z37 := Tryd.sizeOf79
  v37 := Tryd.zeroValue79
  t70 := Tryd.underlying78
  a70 := Tryd.isAgg78
  z70 := Tryd.sizeOf78
  v70 := Tryd.zeroValue78
  t72 := Tryd.underlying81
  a72 := Tryd.isAgg81
  z72 := Tryd.sizeOf81
  v72 := Tryd.zeroValue81
  t75 := Tryd.underlying84
  a75 := Tryd.isAgg84
  z75 := Tryd.sizeOf84
  v75 := Tryd.zeroValue84
  t76 := Tryd.underlying85
  a76 := Tryd.isAgg85
  z76 := Tryd.sizeOf85
  v76 := Tryd.zeroValue85
  t127 := Tryd.underlying111
  a127 := Tryd.isAgg111
  z127 := Tryd.sizeOf111
  v127 := Tryd.zeroValue111
  t164 := Tryd.underlying120
  a164 := Tryd.isAgg120
  z164 := Tryd.sizeOf120
  v164 := Tryd.zeroValue120 }
theorem Tryd.extra156 : Builder.Extra Tryd.prog Tryd.lays156_ren := {
  sizeBuilder := by kernel_rfl
  liesBuilder := by kernel_rfl
  t5 := Tryd.underlying5
  a5 := Tryd.isAgg5
  z5 := Tryd.sizeOf5
  v5 := Tryd.zeroValue5
  infoByte := by kernel_rfl
  cellsByte := by kernel_rfl
  sizeByte := by kernel_rfl
  neB5 := by decide }
end Go.Proofs
namespace Go.Proofs.YtkehnmapnckdgaaDoor
open Go.RowKit
theorem join_walk (bk o c : Nat) (xs : List ByteArray) (sep : ByteArray) (w : World)
    (hcells : ∀ (j : Nat) x, xs[j]? = some x → w.cell? ⟨bk, o + j, none⟩ = some (.string x))
    (hbk : bk < w.heap.size) (hN : xs.length ≤ 140737488355328) (hcap : xs.length ≤ c)
    (hlen : (Lib.join (xs.map (·.data.toList)) sep.data.toList).length ≤ 140737488355328) :
    Calls Tryd.prog 50 #[.slice (some ⟨bk, o, none⟩) xs.length c, .string sep] w fun e w' => e = .returned (.string ⟨(Lib.join (xs.map (·.data.toList)) sep.data.toList).toArray⟩) ∧ Below w.heap.size w w' :=
  Any.strings_Join Tryd.lays156 Tryd.extra156 bk o c xs sep w hcells hbk hN hcap hlen
end Go.Proofs.YtkehnmapnckdgaaDoor

/- The program's writtenName, writtenEach, writtenFields of layer 7. -/
namespace Go.Proofs.YtkehnmapnckdgaaDoor
open Go.RowKit Shp
set_option linter.unusedVariables false

theorem cat7 (a b : List UInt8) : (⟨a.toArray⟩ : ByteArray) ++ ⟨b.toArray⟩ = ⟨(a ++ b).toArray⟩ := by apply ByteArray.ext; simp [ByteArray.data_append]
theorem ret_text7 {a : ByteArray} {l : List UInt8} (h : a = ⟨l.toArray⟩) : Ending.returned (.string a) = .returned (.string ⟨l.toArray⟩) := by rw [h]
theorem string_info7 : (Tryd.prog.info? 9).map (fun i => (i.zero, i.size, i.bytes)) = some (some (.string ByteArray.empty), 1, 16) := by kernel_rfl
theorem run_make_texts7 (n : Nat) (hn : n ≤ 1000000) (W : World) :
    (Instr.makeSlice 22 (.int .i64 (n : Int)) (.int .i64 (n : Int))).run Tryd.prog W = .ok (.slice (some ⟨W.heap.size, 0, none⟩) n n) (W.alloc (.cells (madeCells #[.string ⟨#[]⟩] n) 9)) :=
  run_make_row' (P := Tryd.prog) 22 9 (.string ByteArray.empty) 16 Tryd.underlying22 string_info7 rfl .i64 .i64 n (by omega) (by omega) W

/-- A row of texts that the call made. -/
structure TxR (W : World) (g : Nat) (ts : List (List UInt8)) : Prop where
  lt : g < W.heap.size
  at_ : ∀ j (h : j < ts.length), W.cell? ⟨g, j, none⟩ = some (.string ⟨(ts[j]'h).toArray⟩)
  fz : ∀ o, W.frozen? ⟨g, o, none⟩ = false
theorem TxR.keep {W W' : World} {g B : Nat} {ts : List (List UInt8)} (h : TxR W g ts) (hg : g < B) (hb : Below B W W') : TxR W' g ts :=
  ⟨Nat.lt_of_lt_of_le h.lt hb.size, fun j hj => (hb.cell (p := ⟨g, j, none⟩) hg).trans (h.at_ j hj), fun o => (hb.frozen (p := ⟨g, o, none⟩) hg).trans (h.fz o)⟩
theorem TxR.next {W W' : World} {g : Nat} {ts : List (List UInt8)} (h : TxR W g ts) (hb : Below W.heap.size W W') : TxR W' g ts := h.keep h.lt hb
theorem txR_new (W : World) (n : Nat) : TxR (W.alloc (.cells (madeCells #[.string ⟨#[]⟩] n) 9)) W.heap.size (List.replicate n []) := by
  refine ⟨by simp, fun j hj => ?_, fun o => by simp [go_sem]⟩
  have hj' : j < n := by simpa using hj
  have : (madeCells #[.string ⟨#[]⟩] n)[j]? = some (.string ⟨#[]⟩) := by simp [madeCells, hj', Nat.mod_one]
  simp [go_sem, this]
theorem TxR.set {W : World} {g i : Nat} {ts : List (List UInt8)} (h : TxR W g ts) (hi : i < ts.length) (u : List UInt8) : TxR (W.setCell ⟨g, i, none⟩ (.string ⟨u.toArray⟩)) g (ts.set i u) := by
  refine ⟨by simpa [World.setCell] using h.lt, fun j hj => ?_, fun o => by simp [go_sem, h.fz]⟩
  have hj' : j < ts.length := by rwa [List.length_set] at hj
  by_cases hji : j = i
  · subst hji
    rw [World.cell?_setCell_same _ _ _ (h.at_ _ hj')]
    simp
  · rw [World.cell?_setCell_other _ _ _ _ (fun e => hji (congrArg Addr.off e).symm), h.at_ j hj']
    rw [List.getElem_set_ne (Ne.symm hji)]

theorem set_made {A : List (List UInt8)} {n i : Nat} (hA : A.length = i) (h : i < n) (u : List UInt8) : (A ++ List.replicate (n - i) []).set i u = (A ++ [u]) ++ List.replicate (n - (i + 1)) [] := by
  obtain ⟨k, hk⟩ : ∃ k, n - i = k + 1 := ⟨n - i - 1, by omega⟩
  rw [hk, show n - (i + 1) = k from by omega, List.replicate_succ, List.set_append_right _ _ (by omega), hA, Nat.sub_self]
  simp
/-- The names written ahead of the first texts. -/
def mix7 (ns ts : List (List UInt8)) (i : Nat) : List (List UInt8) := (List.zipWith field ns ts).take i ++ ts.drop i
theorem mix7_set {ns ts : List (List UInt8)} {i : Nat} (hl : ns.length = ts.length) (hi : i < ts.length) : (mix7 ns ts i).set i (field (ns[i]'(by omega)) (ts[i]'hi)) = mix7 ns ts (i + 1) := by
  have hz : (List.zipWith field ns ts).length = ts.length := by simp [hl]
  unfold mix7
  rw [List.set_append_right _ _ (by rw [List.length_take]; omega), List.length_take, Nat.min_eq_left (by omega), Nat.sub_self, List.drop_eq_getElem_cons hi, List.set_cons_zero, take_next (by omega), List.append_assoc]
  simp
theorem mix7_at {ns ts : List (List UInt8)} {i : Nat} (hl : ns.length = ts.length) (hi : i < ts.length) (h : i < (mix7 ns ts i).length) : (mix7 ns ts i)[i]'h = ts[i]'hi := by
  have hz : (List.zipWith field ns ts).length = ts.length := by simp [hl]
  have e : (mix7 ns ts i)[i]? = some (ts[i]'hi) := by
    unfold mix7
    rw [List.getElem?_append_right (by rw [List.length_take]; omega), List.length_take, Nat.min_eq_left (by omega), Nat.sub_self]
    simp [hi]
  exact (List.getElem?_eq_some_iff.1 e).2
theorem mix7_len {ns ts : List (List UInt8)} {i : Nat} (hl : ns.length = ts.length) (hi : i ≤ ts.length) : (mix7 ns ts i).length = ts.length := by
  have hz : (List.zipWith field ns ts).length = ts.length := by simp [hl]
  unfold mix7
  rw [List.length_append, List.length_take, List.length_drop]; omega

set_option maxRecDepth 100000 in
theorem wname_walk (t : Sh) (q : Ptr) (w : World) (hn : t.name.length ≤ 1000000) (ho : t.of_.length ≤ 1000000) :
    Calls Tryd.prog 53 #[.agg #[.int .i64 t.kind, .string ⟨t.of_.toArray⟩, .string ⟨t.name.toArray⟩, .slice q.A t.names.length q.c, .slice q.P t.parts.length q.d]] w fun e w' => e = .returned (.string ⟨(named t).toArray⟩) ∧ Below w.heap.size w w' := by
  have HF : Hid (named t = if t.of_ = [] then t.name else t.of_ ++ [47] ++ t.name) := Lib.hid rfl
  have hb0 := below_one w (.cells #[.int .i64 t.kind, .string ⟨t.of_.toArray⟩, .string ⟨t.name.toArray⟩, .slice q.A t.names.length q.c, .slice q.P t.parts.length q.d] 25)
  have HB0 := Lib.hid hb0
  clear hb0
  obtain ⟨_, ⟨c0, c1, c2, c3, c4⟩, _⟩ := box5_new w t q
  have z1 : (⟨t.of_.toArray⟩ : ByteArray).size = t.of_.length := size_list _
  have z2 : (⟨t.name.toArray⟩ : ByteArray).size = t.name.length := size_list _
  cases h1 : (t.of_ == [])
  · have hoe := isEmpty_of h1
    have HG : Hid (named t = t.of_ ++ [47] ++ t.name) := Lib.hid (by rw [HF.out, if_neg (by simpa using h1)])
    clear h1
    go_enter Tryd.func53, Tryd.ntmps53
    go_wp2
    go_ret
    exact ⟨ret_text7 (by rw [HG.out, ← cat7, ← cat7]), HB0.out⟩
  · have hoe := isEmpty_of h1
    have HG : Hid (named t = t.name) := Lib.hid (by rw [HF.out, if_pos (by simpa using h1)])
    clear h1
    go_enter Tryd.func53, Tryd.ntmps53
    go_wp2
    go_ret
    exact ⟨ret_text7 (by rw [HG.out]), HB0.out⟩

set_option maxRecDepth 100000 in
set_option maxHeartbeats 2000000 in
theorem weach_walk (P : Option Addr) (d : Nat) (l : List Sh) (w : World) (hP : Lies7 w P l) (hl : l.length ≤ 1000000) (hg : WGlobs w)
    (hf : ∀ x ∈ l, ∀ (q : Ptr) (w : World), ShAt w w.heap.size q x → WGlobs w → Calls Tryd.prog 36 #[.agg #[.int .i64 x.kind, .string ⟨x.of_.toArray⟩, .string ⟨x.name.toArray⟩, .slice q.A x.names.length q.c, .slice q.P x.parts.length q.d]] w fun e w' => e = .returned (.string ⟨(text x).toArray⟩) ∧ Below w.heap.size w w') :
    Calls Tryd.prog 52 #[.slice P l.length d] w fun e w' => e = .returned (.slice (some ⟨w.heap.size, 0, none⟩) l.length l.length) ∧ TxR w' w.heap.size (l.map text) ∧ Below w.heap.size w w' := by
  have HP := Lib.hid hP
  have HF0 := Lib.hid hf
  have HG := Lib.hid hg
  have hmk := run_make_texts7 l.length hl w
  have hT0 := txR_new w l.length
  have hb0 := below_one w (.cells (madeCells #[.string ⟨#[]⟩] l.length) 9)
  have HT0 := Lib.hid hT0
  have HB0 := Lib.hid hb0
  clear hP hf hg hT0 hb0
  go_enter Tryd.func52, Tryd.ntmps52
  go_wp2_with fail
  clear hmk
  generalize w.alloc (.cells (madeCells #[.string ⟨#[]⟩] l.length) 9) = W0 at HT0 HB0 ⊢
  go_loopw [11] (fun ii wr => ∃ i : Nat, ii = .int .i64 i ∧ i ≤ l.length ∧ Hid (TxR wr w.heap.size ((l.take i).map text ++ List.replicate (l.length - i) [])) ∧ Hid (Below w.heap.size w wr)) (fun i _ => l.length - (intOf i).toNat)
  case atStart => exact ⟨0, rfl, Nat.zero_le _, HT0, HB0⟩
  case round =>
    obtain ⟨i, rfl, hi, HT, HB⟩ := hrel
    by_cases hlt : i < l.length
    · have hi1 : (i : Int) < (l.length : Int) := by omega
      obtain ⟨g, off, qs, hPP⟩ := HP.out.next HB.out
      rcases hPP with h0 | ⟨rfl, hg, hc, hr⟩
      · omega
      · obtain ⟨x, hx⟩ : ∃ x, x = l[i]'hlt := ⟨_, rfl⟩
        obtain ⟨p0, p1, p2, p3, p4⟩ := hc i hlt
        have hat := hr i hlt
        have ihx := HF0.out l[i] (List.getElem_mem _)
        rw [← hx] at p0 p1 p2 p3 p4 hat ihx
        have hb1 := below_one wr (.cells #[.int .i64 x.kind, .string ⟨x.of_.toArray⟩, .string ⟨x.name.toArray⟩, .slice (qs i).A x.names.length (qs i).c, .slice (qs i).P x.parts.length (qs i).d] 25)
        have IH := ihx (qs i) _ (hat.next hb1) ((HG.out.next HB.out).next hb1)
        have HB1 := Lib.hid hb1
        have HS : Hid (((l.take i).map text ++ List.replicate (l.length - i) []).set i (text x) = (l.take (i + 1)).map text ++ List.replicate (l.length - (i + 1)) []) := Lib.hid (by
          rw [set_made (by simp; omega) hlt, take_next hlt, ← hx]; simp)
        have hlen : i < ((l.take i).map text ++ List.replicate (l.length - i) []).length := by simp; omega
        generalize text x = tx at IH HS
        clear hx hc hr hat ihx hb1
        go_wp2_with fail
        refine IH.mono ?_
        rintro e w' ⟨rfl, hb'⟩
        have hT' := (HT.out.next HB1.out).next hb'
        have r0 := hT'.at_ i hlen
        have f0 := hT'.fz i
        have HT2 := Lib.hid (hT'.set hlen tx)
        have HBW : Hid (Below w.heap.size w w') := Lib.hid (below_next (below_next HB.out HB1.out) hb')
        clear hT' hb' IH
        go_wp2
        go_roundw
        case rel => exact ⟨i + 1, by go_num, by omega, by rw [← HS.out]; exact HT2, Lib.hid (HBW.out.setCell (p := ⟨w.heap.size, i, none⟩) (Nat.le_refl _) _)⟩
        case measure => simp [intOf]; omega
    · have hi1 : ¬ (i : Int) < (l.length : Int) := by omega
      have HE : Hid ((l.take i).map text ++ List.replicate (l.length - i) [] = l.map text) := Lib.hid (by rw [show i = l.length from by omega, List.take_length]; simp)
      go_wp2
      go_ret
      exact ⟨rfl, by rw [← HE.out]; exact HT.out, HB.out⟩

set_option maxRecDepth 100000 in
set_option maxHeartbeats 2000000 in
theorem wfields_walk (t : Sh) (q : Ptr) (w : World) (hq : ShAt w w.heap.size q t) (hl : t.parts.length ≤ 1000000) (hg : WGlobs w) (hn : t.names.length = t.parts.length) (hns : ∀ x ∈ t.names, x.length ≤ 1000000) (hts : ∀ x ∈ t.parts.map text, x.length ≤ 1000000)
    (hf : ∀ x ∈ t.parts, ∀ (q : Ptr) (w : World), ShAt w w.heap.size q x → WGlobs w → Calls Tryd.prog 36 #[.agg #[.int .i64 x.kind, .string ⟨x.of_.toArray⟩, .string ⟨x.name.toArray⟩, .slice q.A x.names.length q.c, .slice q.P x.parts.length q.d]] w fun e w' => e = .returned (.string ⟨(text x).toArray⟩) ∧ Below w.heap.size w w') :
    Calls Tryd.prog 51 #[.agg #[.int .i64 t.kind, .string ⟨t.of_.toArray⟩, .string ⟨t.name.toArray⟩, .slice q.A t.names.length q.c, .slice q.P t.parts.length q.d]] w fun e w' => ∃ g, e = .returned (.slice (some ⟨g, 0, none⟩) t.parts.length t.parts.length) ∧ TxR w' g (fields t.names (t.parts.map text)) ∧ Below w.heap.size w w' := by
  have hb0 := below_one w (.cells #[.int .i64 t.kind, .string ⟨t.of_.toArray⟩, .string ⟨t.name.toArray⟩, .slice q.A t.names.length q.c, .slice q.P t.parts.length q.d] 25)
  have HB := Lib.hid (box5_new w t q)
  have HB0 := Lib.hid hb0
  have HQ := Lib.hid (hq.next hb0)
  have hw := weach_walk q.P q.d t.parts _ ((hq.next hb0).lies) hl (hg.next hb0) hf
  have HW := Lib.hid hw
  have HNS := Lib.hid hns
  have HTS := Lib.hid hts
  have HN := Lib.hid hn
  have HMF : Hid (fields t.names (t.parts.map text) = mix7 t.names (t.parts.map text) t.parts.length) := Lib.hid (by
    unfold fields mix7
    by_cases hz : t.names = []
    · have h0 : t.parts = [] := List.eq_nil_of_length_eq_zero (by rw [← hn, hz]; rfl)
      rw [if_pos hz, h0]; simp
    · rw [if_neg hz, List.take_of_length_le (by simp [hn]), List.drop_of_length_le (by simp)]; simp)
  have hTL : (t.parts.map text).length = t.parts.length := List.length_map ..
  generalize t.parts.map text = ts at HMF HTS hTL HW ⊢
  have HTL := Lib.hid hTL
  obtain ⟨_, ⟨c0, c1, c2, c3, c4⟩, _⟩ := HB.out
  clear hb0 hq hg hf hw hns hts hn hTL
  go_enter Tryd.func51, Tryd.ntmps51
  go_wp2_with fail
  refine HW.out.mono ?_
  rintro e w1 ⟨rfl, hT, hb1⟩
  have HT1 := Lib.hid hT
  have HB1 := Lib.hid hb1
  have HQ1 := Lib.hid (HQ.out.next hb1)
  obtain ⟨_, ⟨d0, d1, d2, d3, d4⟩, _⟩ := HB.out.next hb1
  clear c0 c1 c2 c3 c4 HW hT hb1
  obtain ⟨G, hG⟩ : ∃ G, G = (w.alloc (.cells #[.int .i64 t.kind, .string ⟨t.of_.toArray⟩, .string ⟨t.name.toArray⟩, .slice q.A t.names.length q.c, .slice q.P t.parts.length q.d] 25)).heap.size := ⟨_, rfl⟩
  have hGw : w.heap.size + 1 = G := by rw [hG, World.size_alloc]
  rw [World.size_alloc] at HT1 ⊢
  rw [hGw] at HT1 ⊢
  have HGW := Lib.hid hGw
  clear hG hGw
  go_wp2_with fail
  go_loopw [12] (fun ii wr => ∃ i : Nat, ii = .int .i64 i ∧ i ≤ t.names.length ∧ Hid (TxR wr G (mix7 t.names ts i)) ∧ Hid (Below G w1 wr)) (fun i _ => t.names.length - (intOf i).toNat)
  case atStart => exact ⟨0, rfl, Nat.zero_le _, by unfold mix7; rw [List.take_zero, List.drop_zero, List.nil_append]; exact HT1, Lib.hid (Below.refl _ _)⟩
  case round =>
    obtain ⟨i, rfl, hi, HT, HBB⟩ := hrel
    have HBW : Hid (Below w.heap.size w wr) := Lib.hid ((below_next HB0.out HB1.out).trans (HBB.out.mono (by have := HGW.out; omega)))
    have hln := HQ.out.small.l
    by_cases hlt : i < t.names.length
    · have hi1 : (i : Int) < (t.names.length : Int) := by omega
      have hip : i < t.parts.length := by have := HN.out; omega
      have hi2 : (i : Int) < (t.parts.length : Int) := by omega
      have hit : i < ts.length := by have := HTL.out; omega
      rcases HQ.out.strs.cell7 with h0 | ⟨g, off, hqA, hgl, hc⟩
      · omega
      · have hgG : g < G := by have := HGW.out; rw [World.size_alloc] at hgl; omega
        have hcell := (HBB.out.cell (p := ⟨g, off + i, none⟩) hgG).trans ((HB1.out.cell (p := ⟨g, off + i, none⟩) hgl).trans (hc i hlt))
        obtain ⟨x, hx⟩ : ∃ x, x = t.names[i]'hlt := ⟨_, rfl⟩
        rw [← hx] at hcell
        have hxl : x.length ≤ 1000000 := by rw [hx]; exact HNS.out _ (List.getElem_mem _)
        obtain ⟨y, hy⟩ : ∃ y, y = ts[i]'hit := ⟨_, rfl⟩
        have hyl : y.length ≤ 1000000 := by rw [hy]; exact HTS.out _ (List.getElem_mem _)
        have hll : ts.length = t.names.length := by have := HTL.out; have := HN.out; omega
        have hmi : i < (mix7 t.names ts i).length := by rw [mix7_len hll.symm (by omega)]; omega
        have r0 := HT.out.at_ i hmi
        rw [mix7_at hll.symm hit, ← hy] at r0
        have f0 := HT.out.fz i
        have HT2 := Lib.hid (HT.out.set hmi (field x y))
        have HM : Hid ((mix7 t.names ts i).set i (field x y) = mix7 t.names ts (i + 1)) := Lib.hid (by rw [hx, hy]; exact mix7_set hll.symm hit)
        have z1 : (⟨x.toArray⟩ : ByteArray).size = x.length := size_list _
        have z2 : (⟨y.toArray⟩ : ByteArray).size = y.length := size_list _
        have HCAT : Hid ((⟨x.toArray⟩ : ByteArray) ++ ⟨#[58, 32]⟩ ++ ⟨y.toArray⟩ = ⟨(field x y).toArray⟩) := Lib.hid (by unfold field; rw [← cat7, ← cat7])
        clear hx hy hc hll hmi hip hit
        rw [hqA]
        clear hqA
        go_wp2
        go_roundw
        case rel => exact ⟨i + 1, by go_num, by omega, by rw [HCAT.out, ← HM.out]; exact HT2, Lib.hid (HBB.out.setCell (p := ⟨G, i, none⟩) (Nat.le_refl _) _)⟩
        case measure => simp [intOf]; omega
    · have hi1 : ¬ (i : Int) < (t.names.length : Int) := by omega
      have HE : Hid (mix7 t.names ts i = fields t.names ts) := Lib.hid (by rw [HMF.out, show i = t.parts.length from by have := HN.out; omega])
      go_wp2
      go_ret
      exact ⟨G, rfl, by rw [← HE.out]; exact HT.out, HBW.out⟩
end Go.Proofs.YtkehnmapnckdgaaDoor

/- Types in memory of their own: each list in a block that nothing else uses; how a copy comes to be one. -/
namespace Go.Proofs.YtkehnmapnckdgaaDoor
open Go.RowKit Shp
set_option linter.unusedVariables false

/-- The cells of a list of parts, in a block that the call made. -/
structure PaR (W : World) (b : Nat) (ps : List Sh) (qs : Nat → Ptr) : Prop where
  lt : b < W.heap.size
  at_ : ∀ i (h : i < ps.length), Sh5 W b (i * 5) (ps[i]'h) (qs i)
  fz : ∀ k, W.frozen? ⟨b, k, none⟩ = false

/-- Blocks that read as they did. -/
def Same7 (W W' : World) (b : Nat) : Prop := (∀ k, W'.cell? ⟨b, k, none⟩ = W.cell? ⟨b, k, none⟩) ∧ ∀ k, W'.frozen? ⟨b, k, none⟩ = W.frozen? ⟨b, k, none⟩
theorem PaR.of {W W' : World} {b : Nat} {ps : List Sh} {qs : Nat → Ptr} (h : PaR W b ps qs) (hs : Same7 W W' b) (hz : W.heap.size ≤ W'.heap.size) : PaR W' b ps qs :=
  ⟨Nat.lt_of_lt_of_le h.lt hz, fun i hi => (h.at_ i hi).of hs.1, fun k => (hs.2 k).trans (h.fz k)⟩
theorem TxR.of {W W' : World} {b : Nat} {ts : List (List UInt8)} (h : TxR W b ts) (hs : Same7 W W' b) (hz : W.heap.size ≤ W'.heap.size) : TxR W' b ts :=
  ⟨Nat.lt_of_lt_of_le h.lt hz, fun i hi => (hs.1 i).trans (h.at_ i hi), fun k => (hs.2 k).trans (h.fz k)⟩

/-- A type whose lists lie each in a block of its own: F, the blocks. -/
inductive Own (W : World) : Ptr → Sh → List Nat → Prop
  | mk (q : Ptr) (t : Sh) (F FN FP : List Nat) (qs : Nat → Ptr) (Fs : Nat → List Nat) (hs : Small t q)
    (hn : t.names.length = 0 ∧ FN = [] ∨ ∃ b, q.A = some ⟨b, 0, none⟩ ∧ FN = [b] ∧ TxR W b t.names)
    (hp : t.parts.length = 0 ∧ FP = [] ∨ ∃ b, q.P = some ⟨b, 0, none⟩ ∧ FP = [b] ∧ PaR W b t.parts qs)
    (hr : ∀ i (h : i < t.parts.length), Own W (qs i) (t.parts[i]'h) (Fs i)) (hF : F = FN ++ FP ++ (List.range t.parts.length).flatMap Fs) : Own W q t F

theorem Own.small {W : World} {q : Ptr} {t : Sh} {F : List Nat} (h : Own W q t F) : Small t q := by cases h; assumption
theorem Own.inv {W : World} {q : Ptr} {t : Sh} {F : List Nat} (h : Own W q t F) : ∃ (FN FP : List Nat) (qs : Nat → Ptr) (Fs : Nat → List Nat),
    (t.names.length = 0 ∧ FN = [] ∨ ∃ b, q.A = some ⟨b, 0, none⟩ ∧ FN = [b] ∧ TxR W b t.names) ∧
    (t.parts.length = 0 ∧ FP = [] ∨ ∃ b, q.P = some ⟨b, 0, none⟩ ∧ FP = [b] ∧ PaR W b t.parts qs) ∧
    (∀ i (h : i < t.parts.length), Own W (qs i) (t.parts[i]'h) (Fs i)) ∧ F = FN ++ FP ++ (List.range t.parts.length).flatMap Fs := by
  cases h with
  | mk _ _ _ FN FP qs Fs hs hn hp hr hF => exact ⟨FN, FP, qs, Fs, hn, hp, hr, hF⟩

theorem Own.of {W W' : World} {q : Ptr} {t : Sh} {F : List Nat} (h : Own W q t F) (hc : ∀ b ∈ F, Same7 W W' b) (hz : W.heap.size ≤ W'.heap.size) : Own W' q t F := by
  induction h with
  | mk q t F FN FP qs Fs hs hn hp hr hF ih =>
    subst hF
    refine .mk q t _ FN FP qs Fs hs ?_ ?_ ?_ rfl
    · rcases hn with h | ⟨b, h1, rfl, h3⟩
      · exact Or.inl h
      · exact Or.inr ⟨b, h1, rfl, h3.of (hc b (by simp)) hz⟩
    · rcases hp with h | ⟨b, h1, rfl, h3⟩
      · exact Or.inl h
      · exact Or.inr ⟨b, h1, rfl, h3.of (hc b (by simp)) hz⟩
    · intro i hi
      refine ih i hi (fun b hb => hc b ?_)
      refine List.mem_append_right _ (List.mem_flatMap.2 ⟨i, List.mem_range.2 hi, hb⟩)

theorem Own.at_ {W : World} {q : Ptr} {t : Sh} {F : List Nat} {B : Nat} (h : Own W q t F) (hB : ∀ b ∈ F, b < B) : ShAt W B q t := by
  induction h with
  | mk q t F FN FP qs Fs hs hn hp hr hF ih =>
    subst hF
    have hS : Strs W B q.A (strs t.names) := by
      rcases hn with ⟨h, _⟩ | ⟨b, h1, rfl, h3⟩
      · exact Or.inl (by rw [strs_len]; exact h)
      · refine Or.inr ⟨b, 0, h1, hB b (by simp), fun i hi => ?_⟩
        rw [strs_len] at hi
        rw [Nat.zero_add, h3.at_ i hi]
        simp [strs]
    have hrr : ∀ i (h : i < t.parts.length), ShAt W B (qs i) (t.parts[i]'h) := fun i hi => ih i hi (fun b hb => hB b (List.mem_append_right _ (List.mem_flatMap.2 ⟨i, List.mem_range.2 hi, hb⟩)))
    rcases hp with ⟨h, _⟩ | ⟨b, h1, rfl, h3⟩
    · exact .mk q t 0 0 qs hs hS (Or.inl h) (fun i hi => absurd hi (by omega)) hrr
    · exact .mk q t b 0 qs hs hS (Or.inr ⟨h1, hB b (by simp)⟩) (fun i hi => by rw [Nat.zero_add]; exact h3.at_ i hi) hrr
theorem Own.lt {W : World} {q : Ptr} {t : Sh} {F : List Nat} (h : Own W q t F) : ∀ b ∈ F, b < W.heap.size := by
  induction h with
  | mk q t F FN FP qs Fs hs hn hp hr hF ih =>
    subst hF
    intro b hb
    rcases List.mem_append.1 hb with hb | hb
    · rcases List.mem_append.1 hb with hb | hb
      · rcases hn with ⟨_, rfl⟩ | ⟨c, _, rfl, h3⟩
        · cases hb
        · rw [List.mem_singleton] at hb; subst hb; exact h3.lt
      · rcases hp with ⟨_, rfl⟩ | ⟨c, _, rfl, h3⟩
        · cases hb
        · rw [List.mem_singleton] at hb; subst hb; exact h3.lt
    · obtain ⟨i, hi, hb⟩ := List.mem_flatMap.1 hb
      exact ih i (List.mem_range.1 hi) b hb

/-- A type's cells at a place, and its lists in blocks of their own. -/
def Node (W : World) (g i : Nat) (t : Sh) (F : List Nat) : Prop := ∃ q, Sh5 W g (i * 5) t q ∧ Own W q t F

/-- A place whose lists are still to be copied. -/
structure Nd where
  g : Nat
  i : Nat
  t : Sh
  q : Ptr

/-- Where all that is open comes to be of its own, the whole is. -/
def Ready (r : Nat) (T : Sh) (L : List Nd) (D : List Nat) (W : World) : Prop :=
  ∀ (W' : World) (Fs : Nat → List Nat), W.heap.size ≤ W'.heap.size →
    (∀ b ∈ D, ∀ k, (∀ n ∈ L, ¬ (n.g = b ∧ (k = n.i * 5 + 3 ∨ k = n.i * 5 + 4))) → W'.cell? ⟨b, k, none⟩ = W.cell? ⟨b, k, none⟩) →
    (∀ b ∈ D, ∀ k, W'.frozen? ⟨b, k, none⟩ = W.frozen? ⟨b, k, none⟩) →
    (∀ j (h : j < L.length), Node W' (L[j]'h).g (L[j]'h).i (L[j]'h).t (Fs j)) →
    (∀ j, j < L.length → ∀ b ∈ Fs j, b ∉ D) → ((List.range L.length).flatMap Fs).Nodup →
    ∃ F, Node W' r 0 T F ∧ F.Nodup ∧ ∀ b ∈ F, b ∈ D ∨ ∃ j, j < L.length ∧ b ∈ Fs j

theorem ready_start (r : Nat) (T : Sh) (q : Ptr) (D : List Nat) (W : World) : Ready r T [⟨r, 0, T, q⟩] D W := by
  intro W' Fs _ _ _ hN _ hnd
  refine ⟨Fs 0, hN 0 (by simp), by simpa using hnd, fun b hb => Or.inr ⟨0, by simp, hb⟩⟩

theorem ready_done {r : Nat} {T : Sh} {D : List Nat} {W : World} (h : Ready r T [] D W) : ∃ F, Node W r 0 T F ∧ F.Nodup ∧ ∀ b ∈ F, b ∈ D := by
  obtain ⟨F, h1, h2, h3⟩ := h W (fun _ => []) (Nat.le_refl _) (fun _ _ _ _ => rfl) (fun _ _ _ => rfl) (fun j hj => absurd hj (by simp)) (fun j hj => absurd hj (by simp)) (by simp)
  refine ⟨F, h1, h2, fun b hb => ?_⟩
  rcases h3 b hb with h | ⟨j, hj, _⟩
  · exact h
  · exact absurd hj (by simp)

theorem Ready.of {r : Nat} {T : Sh} {L : List Nd} {D : List Nat} {W W1 : World} (h : Ready r T L D W) (hs : ∀ b ∈ D, Same7 W W1 b) (hz : W.heap.size ≤ W1.heap.size) : Ready r T L D W1 :=
  fun W' Fs hz' hc hf hN hd hn => h W' Fs (Nat.le_trans hz hz') (fun b hb k hx => (hc b hb k hx).trans ((hs b hb).1 k)) (fun b hb k => (hf b hb k).trans ((hs b hb).2 k)) hN hd hn

/-- The parts of a list that was copied. -/
def kids (pb : Nat) (ps : List Sh) (qs : Nat → Ptr) : List Nd := ps.mapIdx fun i p => ⟨pb, i, p, qs i⟩
theorem kids_len (pb : Nat) (ps : List Sh) (qs : Nat → Ptr) : (kids pb ps qs).length = ps.length := by simp [kids]
theorem kids_at (pb : Nat) (ps : List Sh) (qs : Nat → Ptr) (i : Nat) (h : i < (kids pb ps qs).length) : (kids pb ps qs)[i]'h = ⟨pb, i, ps[i]'(by rwa [kids_len] at h), qs i⟩ := by simp [kids]
theorem kids_mem {pb : Nat} {ps : List Sh} {qs : Nat → Ptr} {n : Nd} (h : n ∈ kids pb ps qs) : n.g = pb := by
  obtain ⟨i, hi, rfl⟩ := List.getElem_of_mem h
  rw [kids_at]

theorem flatMap_split {n m : Nat} (Fs : Nat → List Nat) : (List.range (n + m)).flatMap Fs = (List.range n).flatMap Fs ++ (List.range m).flatMap (fun i => Fs (n + i)) := by
  rw [List.range_add, List.flatMap_append, List.flatMap_map]

theorem Ready.step {r : Nat} {T : Sh} {L : List Nd} {a : Nd} {D DN DP : List Nat} {W W1 : World} {q1 : Ptr} {pb : Nat} {qs : Nat → Ptr} (hR : Ready r T (L ++ [a]) D W) (hD : ∀ b ∈ D, b < W.heap.size)
    (hag : a.g ∈ D) (hLg : ∀ n ∈ L, n.g ∈ D) (hne : ∀ n ∈ L, n.g = a.g → n.i ≠ a.i) (hsz : W.heap.size ≤ W1.heap.size) (ha : Sh5 W1 a.g (a.i * 5) a.t q1) (hs : Small a.t q1)
    (hk : ∀ b ∈ D, ∀ k, ¬ (a.g = b ∧ (k = a.i * 5 + 3 ∨ k = a.i * 5 + 4)) → W1.cell? ⟨b, k, none⟩ = W.cell? ⟨b, k, none⟩) (hf : ∀ b ∈ D, ∀ k, W1.frozen? ⟨b, k, none⟩ = W.frozen? ⟨b, k, none⟩)
    (hn : a.t.names.length = 0 ∧ DN = [] ∨ ∃ b, q1.A = some ⟨b, 0, none⟩ ∧ DN = [b] ∧ W.heap.size ≤ b ∧ TxR W1 b a.t.names)
    (hp : a.t.parts.length = 0 ∧ DP = [] ∨ q1.P = some ⟨pb, 0, none⟩ ∧ DP = [pb] ∧ W.heap.size ≤ pb ∧ pb ∉ DN ∧ PaR W1 pb a.t.parts qs) :
    Ready r T (L ++ kids pb a.t.parts qs) (D ++ DN ++ DP) W1 := by
  intro W' Fs hsz' hcell hfr hN hdis hnd
  have hlen : (L ++ kids pb a.t.parts qs).length = L.length + a.t.parts.length := by rw [List.length_append, kids_len]
  have hpg : ∀ n ∈ kids pb a.t.parts qs, a.t.parts.length ≠ 0 := fun n hn h0 => by
    have : kids pb a.t.parts qs = [] := List.eq_nil_of_length_eq_zero (by rw [kids_len]; exact h0)
    rw [this] at hn; cases hn
  have hkid : ∀ n ∈ kids pb a.t.parts qs, n.g = pb ∧ W.heap.size ≤ pb ∧ pb ∉ DN := fun n hnm => by
    rcases hp with ⟨h0, _⟩ | ⟨_, _, h3, h4, _⟩
    · exact absurd h0 (hpg n hnm)
    · exact ⟨kids_mem hnm, h3, h4⟩
  have hDNb : ∀ b ∈ DN, W.heap.size ≤ b := fun b hb => by
    rcases hn with ⟨_, rfl⟩ | ⟨c, _, rfl, h3, _⟩
    · cases hb
    · rw [List.mem_singleton] at hb; subst hb; exact h3
  have hDPb : ∀ b ∈ DP, W.heap.size ≤ b ∧ b ∉ DN := fun b hb => by
    rcases hp with ⟨_, rfl⟩ | ⟨_, rfl, h3, h4, _⟩
    · cases hb
    · rw [List.mem_singleton] at hb; subst hb; exact ⟨h3, h4⟩
  have hDNn : DN.Nodup := by
    rcases hn with ⟨_, rfl⟩ | ⟨c, _, rfl, _⟩ <;> simp
  have hDPn : DP.Nodup := by
    rcases hp with ⟨_, rfl⟩ | ⟨_, rfl, _⟩ <;> simp
  let Fk : Nat → List Nat := fun i => Fs (L.length + i)
  let Fa : List Nat := DN ++ DP ++ (List.range a.t.parts.length).flatMap Fk
  let Fs' : Nat → List Nat := fun j => if j < L.length then Fs j else Fa
  rw [hlen] at hdis hnd
  rw [flatMap_split] at hnd
  have hnd' := List.nodup_append.1 hnd
  have hdisD : ∀ j, j < L.length + a.t.parts.length → ∀ b ∈ Fs j, b ∉ D ∧ b ∉ DN ∧ b ∉ DP := fun j hj b hb => by
    have := hdis j hj b hb
    simp only [List.mem_append, not_or] at this
    exact ⟨this.1.1, this.1.2, this.2⟩
  -- the place that was copied
  have hkn : ∀ i (h : i < a.t.parts.length), Node W' pb i (a.t.parts[i]'h) (Fk i) := fun i hi => by
    have h1 := hN (L.length + i) (by rw [hlen]; omega)
    have e : (L ++ kids pb a.t.parts qs)[L.length + i]'(by rw [hlen]; omega) = ⟨pb, i, a.t.parts[i]'hi, qs i⟩ := by
      rw [List.getElem_append_right (by omega)]
      simp only [Nat.add_sub_cancel_left]
      exact kids_at _ _ _ _ _
    rw [e] at h1
    exact h1
  have hqk : ∃ qk : Nat → Ptr, ∀ i (h : i < a.t.parts.length), Sh5 W' pb (i * 5) (a.t.parts[i]'h) (qk i) ∧ Own W' (qk i) (a.t.parts[i]'h) (Fk i) := by
    refine ⟨fun i => if h : i < a.t.parts.length then (hkn i h).choose else ⟨none, 0, none, 0⟩, fun i h => ?_⟩
    simp only [dif_pos h]
    exact (hkn i h).choose_spec
  obtain ⟨qk, hqk⟩ := hqk
  have hexc : ∀ b ∈ D, ∀ k, (∀ n ∈ L, ¬ (n.g = b ∧ (k = n.i * 5 + 3 ∨ k = n.i * 5 + 4))) → W'.cell? ⟨b, k, none⟩ = W1.cell? ⟨b, k, none⟩ := fun b hb k hx => by
    refine hcell b (by simp [hb]) k (fun n hnm => ?_)
    rcases List.mem_append.1 hnm with h | h
    · exact hx n h
    · intro ⟨h1, _⟩
      have h2 := hkid n h
      have := hD b hb
      omega
  have hNa : Node W' a.g a.i a.t Fa := by
    refine ⟨q1, ?_, .mk q1 a.t Fa DN DP qk Fk hs ?_ ?_ (fun i hi => (hqk i hi).2) rfl⟩
    · have e : ∀ c, c < 5 → W'.cell? ⟨a.g, a.i * 5 + c, none⟩ = W1.cell? ⟨a.g, a.i * 5 + c, none⟩ := fun c hc => hexc a.g hag _ (fun n hnm ⟨h1, h2⟩ => by
        have := hne n hnm h1
        omega)
      obtain ⟨h0, h1, h2, h3, h4⟩ := ha
      exact ⟨(e 0 (by omega)).trans h0, (e 1 (by omega)).trans h1, (e 2 (by omega)).trans h2, (e 3 (by omega)).trans h3, (e 4 (by omega)).trans h4⟩
    · rcases hn with h | ⟨b, h1, rfl, h3, h4⟩
      · exact Or.inl h
      · refine Or.inr ⟨b, h1, rfl, h4.of ⟨fun k => hcell b (by simp) k (fun n hnm => ?_), fun k => hfr b (by simp) k⟩ hsz'⟩
        rcases List.mem_append.1 hnm with h | h
        · intro ⟨h5, _⟩
          have := hD _ (hLg n h)
          omega
        · intro ⟨h5, _⟩
          have h6 := hkid n h
          rw [List.mem_singleton] at h6
          omega
    · rcases hp with h | ⟨h1, rfl, h3, h4, h5⟩
      · exact Or.inl h
      · exact Or.inr ⟨pb, h1, rfl, Nat.lt_of_lt_of_le h5.lt hsz', fun i hi => (hqk i hi).1, fun k => (hfr pb (by simp) k).trans (h5.fz k)⟩
  have hFaD : ∀ b ∈ Fa, b ∉ D := fun b hb hbD => by
    have hlt := hD b hbD
    rcases List.mem_append.1 hb with hb | hb
    · rcases List.mem_append.1 hb with hb | hb
      · have := hDNb b hb; omega
      · have := (hDPb b hb).1; omega
    · obtain ⟨i, hi, hb⟩ := List.mem_flatMap.1 hb
      exact (hdisD (L.length + i) (by have := List.mem_range.1 hi; omega) b hb).1 hbD
  have hFan : Fa.Nodup := by
    refine List.nodup_append.2 ⟨List.nodup_append.2 ⟨hDNn, hDPn, fun x hx y hy e => (hDPb y hy).2 (e ▸ hx)⟩, hnd'.2.1, fun x hx y hy e => ?_⟩
    subst e
    obtain ⟨i, hi, hb⟩ := List.mem_flatMap.1 hy
    have h1 := hdisD (L.length + i) (by have := List.mem_range.1 hi; omega) x hb
    rcases List.mem_append.1 hx with h | h
    · exact h1.2.1 h
    · exact h1.2.2 h
  have hll : (L ++ [a]).length = L.length + 1 := by simp
  have hFs' : (List.range L.length).flatMap Fs' = (List.range L.length).flatMap Fs := by
    have : ∀ (l : List Nat), (∀ j ∈ l, j < L.length) → l.flatMap Fs' = l.flatMap Fs := by
      intro l
      induction l with
      | nil => intro _; rfl
      | cons j l ih =>
        intro h
        rw [List.flatMap_cons, List.flatMap_cons, ih (fun j hj => h j (by simp [hj]))]
        simp only [Fs', if_pos (h j (by simp))]
    exact this _ (fun j hj => List.mem_range.1 hj)
  obtain ⟨F, h1, h2, h3⟩ := hR W' Fs' (Nat.le_trans hsz hsz') (fun b hb k hx => by
      rw [hexc b hb k (fun n hnm => hx n (by simp [hnm]))]
      exact hk b hb k (hx a (by simp)))
    (fun b hb k => (hfr b (by simp [hb]) k).trans (hf b hb k))
    (fun j hj => by
      rw [hll] at hj
      by_cases hjl : j < L.length
      · have e : (L ++ [a])[j]'(by rw [hll]; omega) = L[j]'hjl := List.getElem_append_left hjl
        have h1 := hN j (by rw [hlen]; omega)
        have e2 : (L ++ kids pb a.t.parts qs)[j]'(by rw [hlen]; omega) = L[j]'hjl := List.getElem_append_left hjl
        rw [e2] at h1
        rw [e]
        simp only [Fs', if_pos hjl]
        exact h1
      · have hje : j = L.length := by omega
        subst hje
        have e : (L ++ [a])[L.length]'(by rw [hll]; omega) = a := by simp
        rw [e]
        simp only [Fs', if_neg hjl]
        exact hNa)
    (fun j hj b hb => by
      rw [hll] at hj
      by_cases hjl : j < L.length
      · simp only [Fs', if_pos hjl] at hb
        exact (hdisD j (by omega) b hb).1
      · simp only [Fs', if_neg hjl] at hb
        exact hFaD b hb)
    (by
      rw [hll, List.range_succ, List.flatMap_append, hFs']
      have e : [L.length].flatMap Fs' = Fa := by simp [Fs']
      rw [e]
      refine List.nodup_append.2 ⟨hnd'.1, hFan, fun x hx y hy e => ?_⟩
      subst e
      obtain ⟨j, hj, hxj⟩ := List.mem_flatMap.1 hx
      have hd := hdisD j (by have := List.mem_range.1 hj; omega) x hxj
      rcases List.mem_append.1 hy with hy | hy
      · rcases List.mem_append.1 hy with hy | hy
        · exact hd.2.1 hy
        · exact hd.2.2 hy
      · exact hnd'.2.2 x hx x hy rfl)
  refine ⟨F, h1, h2, fun b hb => ?_⟩
  rcases h3 b hb with h | ⟨j, hj, h⟩
  · exact Or.inl (by simp [h])
  · rw [hll] at hj
    by_cases hjl : j < L.length
    · simp only [Fs', if_pos hjl] at h
      exact Or.inr ⟨j, by rw [hlen]; omega, h⟩
    · simp only [Fs', if_neg hjl] at h
      rcases List.mem_append.1 h with h | h
      · rcases List.mem_append.1 h with h | h
        · exact Or.inl (by simp [h])
        · exact Or.inl (by simp [h])
      · obtain ⟨i, hi, h⟩ := List.mem_flatMap.1 h
        exact Or.inr ⟨L.length + i, by rw [hlen]; have := List.mem_range.1 hi; omega, h⟩
end Go.Proofs.YtkehnmapnckdgaaDoor
