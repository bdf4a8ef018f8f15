/- ShpT1, ShpT2, ShpT3, together. -/
import Derived.Test.YtkehnmapnckdgaaDoorShpO12
import Derived.Test.YtkehnmapnckdgaaDoorGOrd
import Derived.Test.YtkehnmapnckdgaaDoorGR
/- The document's joined: the parts' texts, something between. -/
namespace Go.Proofs.YtkehnmapnckdgaaDoor
open Go.RowKit Shp
set_option linter.unusedVariables false

theorem join_snoc (sep : List UInt8) (x : List UInt8) : ∀ l : List (List UInt8), l ≠ [] → join sep (l ++ [x]) = join sep l ++ (sep ++ x)
  | [], h => absurd rfl h
  | [a], _ => by simp [join, List.intercalate]
  | a :: b :: l, _ => by
    have ih := join_snoc sep x (b :: l) (by simp)
    simp [join, List.intercalate, List.intersperse] at ih ⊢
    exact ih
theorem join_nil (sep : List UInt8) : join sep [] = [] := rfl
theorem join_one (sep x : List UInt8) : join sep [x] = x := by simp [join, List.intercalate]
/-- One text more. -/
theorem join_next {sep : List UInt8} {l : List (List UInt8)} {i : Nat} (h : i < l.length) : join sep (l.take (i + 1)) = if i = 0 then l[i]'h else join sep (l.take i) ++ (sep ++ l[i]'h) := by
  rw [take_next h]
  split
  · rename_i h0
    subst h0
    rw [List.take_zero, List.nil_append, join_one]
  · rename_i h0
    refine join_snoc _ _ _ (fun e => ?_)
    have := congrArg List.length e
    rw [List.length_take, Nat.min_eq_left (by omega)] at this
    exact h0 this
theorem fields_len {t : Sh} (hl : t.names = [] ∨ t.names.length = t.parts.length) : (fields t.names (t.parts.map text)).length = t.parts.length := by
  unfold fields
  split
  · simp
  · rcases hl with h | h
    · contradiction
    · simp [h]
theorem fields_none {t : Sh} (h : t.names = []) {i : Nat} (hi : i < (fields t.names (t.parts.map text)).length) (hp : i < t.parts.length) : (fields t.names (t.parts.map text))[i]'hi = text (t.parts[i]'hp) := by
  have : fields t.names (t.parts.map text) = t.parts.map text := by unfold fields; rw [if_pos h]
  simp only [this, List.getElem_map]
theorem fields_some {t : Sh} (h : t.names ≠ []) {i : Nat} (hi : i < (fields t.names (t.parts.map text)).length) (hp : i < t.parts.length) (hn : i < t.names.length) : (fields t.names (t.parts.map text))[i]'hi = t.names[i]'hn ++ ([58, 32] ++ text (t.parts[i]'hp)) := by
  have : fields t.names (t.parts.map text) = List.zipWith field t.names (t.parts.map text) := by unfold fields; rw [if_neg h]
  simp only [this, List.getElem_zipWith, List.getElem_map, field, List.append_assoc]

set_option maxRecDepth 100000 in
set_option maxHeartbeats 4000000 in
theorem rjoined_walk (t : Sh) (sep : List UInt8) (hsep : sep.length ≤ 3) (n : Nat) (hn : n ≤ t.parts.length) (q : Ptr) (w : World) (hq : ShAt w w.heap.size q t) (hl : t.names = [] ∨ t.names.length = t.parts.length)
    (hpl : t.parts.length ≤ 400) (htot : total (fields t.names (t.parts.map text)) ≤ 100000)
    (hf : ∀ p ∈ t.parts, ∀ (q : Ptr) (w : World), ShAt w w.heap.size q p → Calls Tryd.prog 37 #[.agg #[.int .i64 p.kind, .string ⟨p.of_.toArray⟩, .string ⟨p.name.toArray⟩, .slice q.A p.names.length q.c, .slice q.P p.parts.length q.d]] w fun e w' => e = .returned (.string ⟨(text p).toArray⟩) ∧ Below w.heap.size w w') :
    Calls Tryd.prog 54 #[.agg #[.int .i64 t.kind, .string ⟨t.of_.toArray⟩, .string ⟨t.name.toArray⟩, .slice q.A t.names.length q.c, .slice q.P t.parts.length q.d], .int .i64 (n : Int), .string ⟨sep.toArray⟩] w
      fun e w' => e = .returned (.string ⟨(join sep ((fields t.names (t.parts.map text)).take n)).toArray⟩) ∧ Below w.heap.size w w' := by
  have hfl := fields_len hl
  obtain ⟨L, hL⟩ : ∃ L, L = fields t.names (t.parts.map text) := ⟨_, rfl⟩
  have HFN : Hid (∀ i (hi : i < L.length) (hp : i < t.parts.length), t.names = [] → L[i]'hi = text (t.parts[i]'hp)) := Lib.hid (by subst hL; exact fun i hi hp h => fields_none h hi hp)
  have HFS : Hid (∀ i (hi : i < L.length) (hp : i < t.parts.length) (hn : i < t.names.length), t.names ≠ [] → L[i]'hi = t.names[i]'hn ++ ([58, 32] ++ text (t.parts[i]'hp))) := Lib.hid (by subst hL; exact fun i hi hp hn h => fields_some h hi hp hn)
  rw [← hL] at hfl htot ⊢
  have HB0 := Lib.hid (below_one w (.cells #[.int .i64 t.kind, .string ⟨t.of_.toArray⟩, .string ⟨t.name.toArray⟩, .slice q.A t.names.length q.c, .slice q.P t.parts.length q.d] 25))
  have HB := Lib.hid (box5_new w t q)
  have HLL : Hid (L.length = t.parts.length) := Lib.hid hfl
  have HJL : Hid (∀ i, (join sep (L.take i)).length ≤ 200000) := Lib.hid (fun i => by
    have h2 := join_len sep (L.take i)
    have h3 := total_take L i
    have h4 : (L.take i).length ≤ 400 := by rw [List.length_take]; omega
    have : sep.length * (L.take i).length ≤ 3 * 400 := Nat.mul_le_mul hsep h4
    omega)
  have HTL : Hid (∀ i (h : i < L.length), (L[i]'h).length ≤ 100000) := Lib.hid (fun i h => by have := total_mem (List.getElem_mem h); omega)
  have HQ := Lib.hid hq
  have HS := Lib.hid hq.strs
  have HP := Lib.hid hq.part
  have HLN := Lib.hid hl
  have HF := Lib.hid hf
  have HN := Lib.hid hn
  have hnl : n ≤ 400 := by omega
  clear hq hl hf hfl hL htot hn
  go_enter Tryd.func54, Tryd.ntmps54
  go_wp2_with fail
  generalize w.alloc (.cells #[.int .i64 t.kind, .string ⟨t.of_.toArray⟩, .string ⟨t.name.toArray⟩, .slice q.A t.names.length q.c, .slice q.P t.parts.length q.d] 25) = W0 at HB HB0 ⊢
  go_loopw [7, 8] (fun oo ii wr => ∃ i : Nat, ii = .int .i64 i ∧ i ≤ n ∧ oo = .string ⟨(join sep (L.take i)).toArray⟩ ∧ Hid (Below w.heap.size w wr) ∧ Hid (Box5 wr w.heap.size t q)) (fun _ i _ => n - (intOf i).toNat)
  case atStart => exact ⟨0, rfl, Nat.zero_le _, by rw [List.take_zero, join_nil], HB0, HB⟩
  case round =>
    obtain ⟨i, rfl, hi, rfl, HBW, HBX⟩ := hrel
    by_cases hlt : i < n
    · have hip : i < t.parts.length := by have := HN.out; omega
      have hiL : i < L.length := by rw [HLL.out]; exact hip
      rcases HP.out with h0 | ⟨g, off, qs, hqP, hg, hc, hr⟩
      · omega
      · obtain ⟨x, hx⟩ : ∃ x, x = t.parts[i] := ⟨_, rfl⟩
        obtain ⟨p0, p1, p2, p3, p4⟩ := (hc i hip).keep hg HBW.out
        have IH := Lib.hid (HF.out t.parts[i] (List.getElem_mem _) (qs i) wr ((hr i hip).keep HBW.out (Nat.le_refl _) |>.more HBW.out.size))
        obtain ⟨_, ⟨b0, b1, b2, b3, b4⟩, _⟩ := HBX.out
        obtain ⟨it, hit⟩ : ∃ it, it = L[i]'hiL := ⟨_, rfl⟩
        have hitl : it.length ≤ 100000 := by rw [hit]; exact HTL.out i hiL
        have HE : Hid (join sep (L.take (i + 1)) = if i = 0 then it else join sep (L.take i) ++ (sep ++ it)) := Lib.hid (by rw [hit]; exact join_next hiL)
        have hjl := HJL.out i
        obtain ⟨J, hJ⟩ : ∃ J, J = join sep (L.take i) := ⟨_, rfl⟩
        have HJ0 : Hid (i = 0 → J = []) := Lib.hid (fun h => by rw [hJ, h, List.take_zero, join_nil])
        have hxn := HFN.out i hiL hip
        have hxs := fun h => HFS.out i hiL hip h
        rw [← hx] at p0 p1 p2 p3 p4 IH hxn hxs
        rw [← hit] at hxn hxs
        rw [← hJ] at HE hjl ⊢
        have sz1 : (⟨J.toArray⟩ : ByteArray).size = J.length := size_list _
        have sz2 : (⟨sep.toArray⟩ : ByteArray).size = sep.length := size_list _
        have sz3 : (⟨(text x).toArray⟩ : ByteArray).size = (text x).length := size_list _
        rw [hqP] at b4
        have hgw : g < wr.heap.size := Nat.lt_of_lt_of_le hg HBW.out.size
        have hi1 : (i : Int) < (n : Int) := by omega
        have hi2 : (i : Int) < (t.parts.length : Int) := by omega
        by_cases hnm : t.names = []
        · have HIT := Lib.hid (hxn hnm)
          have htx : (text x).length ≤ 100000 := by rw [← hxn hnm]; exact hitl
          have hnz : (t.names.length : Int) = 0 := by rw [hnm]; rfl
          clear hx hc hr hit hJ hxn hxs hnm hqP
          by_cases h0 : i = 0
          · have h0g : ¬ (0 : Int) < (i : Int) := by omega
            have HJE := Lib.hid (HJ0.out h0)
            have HI0 := Lib.hid h0
            clear h0 HJ0
            go_wp2_with fail
            refine IH.out.mono ?_
            rintro e w2 ⟨rfl, hb2⟩
            have HBW2 := Lib.hid (below_next HBW.out hb2)
            have HBX2 := Lib.hid (HBX.out.next hb2)
            clear hb2 IH b0 b1 b2 b3 b4
            go_wp2
            go_roundw
            case rel => exact ⟨i + 1, by go_num, by omega, by rw [HE.out, if_pos HI0.out, HIT.out, HJE.out]; apply congrArg Value.string; apply ByteArray.ext; simp [ByteArray.data_append], HBW2, HBX2⟩
            case measure => simp [intOf]; omega
          · have h0g : (0 : Int) < (i : Int) := by omega
            have HI0 := Lib.hid h0
            clear h0 HJ0
            go_wp2_with fail
            refine IH.out.mono ?_
            rintro e w2 ⟨rfl, hb2⟩
            have HBW2 := Lib.hid (below_next HBW.out hb2)
            have HBX2 := Lib.hid (HBX.out.next hb2)
            clear hb2 IH b0 b1 b2 b3 b4
            go_wp2
            go_roundw
            case rel => exact ⟨i + 1, by go_num, by omega, by rw [HE.out, if_neg HI0.out, HIT.out]; apply congrArg Value.string; apply ByteArray.ext; simp [ByteArray.data_append], HBW2, HBX2⟩
            case measure => simp [intOf]; omega
        · have hnl2 : t.names.length = t.parts.length := HLN.out.resolve_left hnm
          have hin : i < t.names.length := by omega
          have HIT := Lib.hid (hxs hin hnm)
          rcases HS.out.cell7 with hz | ⟨g2, off2, hqA, hg2, hc2⟩
          · omega
          have y1 := (HBW.out.cell (p := ⟨g2, off2 + i, none⟩) hg2).trans (hc2 i hin)
          have htl : (text x).length ≤ 100000 ∧ (t.names[i]'hin).length ≤ 100000 := by
            have := hitl
            rw [hxs hin hnm] at this
            simp at this
            omega
          obtain ⟨y, hy⟩ : ∃ y, y = t.names[i]'hin := ⟨_, rfl⟩
          rw [← hy] at y1 HIT htl
          have sz4 : (⟨y.toArray⟩ : ByteArray).size = y.length := size_list _
          obtain ⟨htx, hyl⟩ := htl
          have hgw2 : g2 < wr.heap.size := Nat.lt_of_lt_of_le hg2 HBW.out.size
          have hnz : (0 : Int) < (t.names.length : Int) := by omega
          have hnz2 : (i : Int) < (t.names.length : Int) := by omega
          rw [hqA] at b3
          clear hx hc hr hit hJ hxn hxs hnm hqP hy hc2 hqA hnl2 hin
          by_cases h0 : i = 0
          · have h0g : ¬ (0 : Int) < (i : Int) := by omega
            have HJE := Lib.hid (HJ0.out h0)
            have HI0 := Lib.hid h0
            clear h0 HJ0
            go_wp2_with fail
            refine IH.out.mono ?_
            rintro e w2 ⟨rfl, hb2⟩
            have HBW2 := Lib.hid (below_next HBW.out hb2)
            have HBX2 := Lib.hid (HBX.out.next hb2)
            clear hb2 IH b0 b1 b2 b3 b4
            go_wp2
            go_roundw
            case rel => exact ⟨i + 1, by go_num, by omega, by rw [HE.out, if_pos HI0.out, HIT.out, HJE.out]; apply congrArg Value.string; apply ByteArray.ext; simp [ByteArray.data_append], HBW2, HBX2⟩
            case measure => simp [intOf]; omega
          · have h0g : (0 : Int) < (i : Int) := by omega
            have HI0 := Lib.hid h0
            clear h0 HJ0
            go_wp2_with fail
            refine IH.out.mono ?_
            rintro e w2 ⟨rfl, hb2⟩
            have HBW2 := Lib.hid (below_next HBW.out hb2)
            have HBX2 := Lib.hid (HBX.out.next hb2)
            clear hb2 IH b0 b1 b2 b3 b4
            go_wp2
            go_roundw
            case rel => exact ⟨i + 1, by go_num, by omega, by rw [HE.out, if_neg HI0.out, HIT.out]; apply congrArg Value.string; apply ByteArray.ext; simp [ByteArray.data_append], HBW2, HBX2⟩
            case measure => simp [intOf]; omega
    · have hie : i = n := by omega
      subst hie
      have hi1 : ¬ (i : Int) < (i : Int) := by omega
      go_wp2
      go_ret
      exact ⟨rfl, HBW.out⟩
end Go.Proofs.YtkehnmapnckdgaaDoor

/- The document's Text, kind by kind (but for functions). -/
namespace Go.Proofs.YtkehnmapnckdgaaDoor
open Go.RowKit Shp
set_option linter.unusedVariables false

/-- What is asked of the parts. -/
def Rt7 (t : Sh) : Prop := ∀ x ∈ t.parts, ∀ (q : Ptr) (w : World), ShAt w w.heap.size q x → Calls Tryd.prog 37 #[.agg #[.int .i64 x.kind, .string ⟨x.of_.toArray⟩, .string ⟨x.name.toArray⟩, .slice q.A x.names.length q.c, .slice q.P x.parts.length q.d]] w fun e w' => e = .returned (.string ⟨(text x).toArray⟩) ∧ Below w.heap.size w w'

set_option maxRecDepth 100000 in
set_option maxHeartbeats 2000000 in
theorem rtext_1 (t : Sh) (q : Ptr) (w : World) (hq : ShAt w w.heap.size q t) (hr : right t = true) (hz : size t ≤ 400) (hf : Rt7 t) (hk : t.kind = 1) :
    Calls Tryd.prog 37 #[.agg #[.int .i64 t.kind, .string ⟨t.of_.toArray⟩, .string ⟨t.name.toArray⟩, .slice q.A t.names.length q.c, .slice q.P t.parts.length q.d]] w fun e w' => e = .returned (.string ⟨(text t).toArray⟩) ∧ Below w.heap.size w w' := by
  have hb0 := below_one w (.cells #[.int .i64 t.kind, .string ⟨t.of_.toArray⟩, .string ⟨t.name.toArray⟩, .slice q.A t.names.length q.c, .slice q.P t.parts.length q.d] 25)
  have HB := Lib.hid (box5_new w t q)
  have HB0 := Lib.hid hb0
  obtain ⟨_, ⟨c0, c1, c2, c3, c4⟩, _⟩ := HB.out
  have k1 : (t.kind == 1) = true := by rw [hk]; rfl
  have k2 : (t.kind == 2) = false := by rw [hk]; rfl
  have k3 : (t.kind == 3) = false := by rw [hk]; rfl
  have k4 : (t.kind == 4) = false := by rw [hk]; rfl
  have k5 : (t.kind == 5) = false := by rw [hk]; rfl
  have k6 : (t.kind == 6) = false := by rw [hk]; rfl
  have k7 : (t.kind == 7) = false := by rw [hk]; rfl
  have k8 : (t.kind == 8) = false := by rw [hk]; rfl
  have HT := Lib.hid (text_kind_1 hk)
  clear hb0 hq hr hz hf hk
  go_enter Tryd.func37, Tryd.ntmps37
  go_wp2
  go_ret
  exact ⟨ret_text7 (by rw [HT.out]), HB0.out⟩

set_option maxRecDepth 100000 in
set_option maxHeartbeats 2000000 in
theorem rtext_2 (t : Sh) (q : Ptr) (w : World) (hq : ShAt w w.heap.size q t) (hr : right t = true) (hz : size t ≤ 400) (hf : Rt7 t) (hk : t.kind = 2) :
    Calls Tryd.prog 37 #[.agg #[.int .i64 t.kind, .string ⟨t.of_.toArray⟩, .string ⟨t.name.toArray⟩, .slice q.A t.names.length q.c, .slice q.P t.parts.length q.d]] w fun e w' => e = .returned (.string ⟨(text t).toArray⟩) ∧ Below w.heap.size w w' := by
  have hb0 := below_one w (.cells #[.int .i64 t.kind, .string ⟨t.of_.toArray⟩, .string ⟨t.name.toArray⟩, .slice q.A t.names.length q.c, .slice q.P t.parts.length q.d] 25)
  have HB := Lib.hid (box5_new w t q)
  have HB0 := Lib.hid hb0
  obtain ⟨_, ⟨c0, c1, c2, c3, c4⟩, _⟩ := HB.out
  have k1 : (t.kind == 1) = false := by rw [hk]; rfl
  have k2 : (t.kind == 2) = true := by rw [hk]; rfl
  have k3 : (t.kind == 3) = false := by rw [hk]; rfl
  have k4 : (t.kind == 4) = false := by rw [hk]; rfl
  have k5 : (t.kind == 5) = false := by rw [hk]; rfl
  have k6 : (t.kind == 6) = false := by rw [hk]; rfl
  have k7 : (t.kind == 7) = false := by rw [hk]; rfl
  have k8 : (t.kind == 8) = false := by rw [hk]; rfl
  have HT := Lib.hid (text_kind_2 hk)
  clear hb0 hq hr hz hf hk
  go_enter Tryd.func37, Tryd.ntmps37
  go_wp2
  go_ret
  exact ⟨ret_text7 (by rw [HT.out]), HB0.out⟩

set_option maxRecDepth 100000 in
set_option maxHeartbeats 2000000 in
theorem rtext_3 (t : Sh) (q : Ptr) (w : World) (hq : ShAt w w.heap.size q t) (hr : right t = true) (hz : size t ≤ 400) (hf : Rt7 t) (hk : t.kind = 3) :
    Calls Tryd.prog 37 #[.agg #[.int .i64 t.kind, .string ⟨t.of_.toArray⟩, .string ⟨t.name.toArray⟩, .slice q.A t.names.length q.c, .slice q.P t.parts.length q.d]] w fun e w' => e = .returned (.string ⟨(text t).toArray⟩) ∧ Below w.heap.size w w' := by
  have hb0 := below_one w (.cells #[.int .i64 t.kind, .string ⟨t.of_.toArray⟩, .string ⟨t.name.toArray⟩, .slice q.A t.names.length q.c, .slice q.P t.parts.length q.d] 25)
  have HB := Lib.hid (box5_new w t q)
  have HB0 := Lib.hid hb0
  obtain ⟨_, ⟨c0, c1, c2, c3, c4⟩, _⟩ := HB.out
  have k1 : (t.kind == 1) = false := by rw [hk]; rfl
  have k2 : (t.kind == 2) = false := by rw [hk]; rfl
  have k3 : (t.kind == 3) = true := by rw [hk]; rfl
  have k4 : (t.kind == 4) = false := by rw [hk]; rfl
  have k5 : (t.kind == 5) = false := by rw [hk]; rfl
  have k6 : (t.kind == 6) = false := by rw [hk]; rfl
  have k7 : (t.kind == 7) = false := by rw [hk]; rfl
  have k8 : (t.kind == 8) = false := by rw [hk]; rfl
  have HT := Lib.hid (text_kind_3 hk)
  clear hb0 hq hr hz hf hk
  go_enter Tryd.func37, Tryd.ntmps37
  go_wp2
  go_ret
  exact ⟨ret_text7 (by rw [HT.out]), HB0.out⟩

set_option maxRecDepth 100000 in
set_option maxHeartbeats 2000000 in
theorem rtext_4 (t : Sh) (q : Ptr) (w : World) (hq : ShAt w w.heap.size q t) (hr : right t = true) (hz : size t ≤ 400) (hf : Rt7 t) (hk : t.kind = 4) :
    Calls Tryd.prog 37 #[.agg #[.int .i64 t.kind, .string ⟨t.of_.toArray⟩, .string ⟨t.name.toArray⟩, .slice q.A t.names.length q.c, .slice q.P t.parts.length q.d]] w fun e w' => e = .returned (.string ⟨(text t).toArray⟩) ∧ Below w.heap.size w w' := by
  have hb0 := below_one w (.cells #[.int .i64 t.kind, .string ⟨t.of_.toArray⟩, .string ⟨t.name.toArray⟩, .slice q.A t.names.length q.c, .slice q.P t.parts.length q.d] 25)
  have HB := Lib.hid (box5_new w t q)
  have HB0 := Lib.hid hb0
  obtain ⟨_, ⟨c0, c1, c2, c3, c4⟩, _⟩ := HB.out
  have k1 : (t.kind == 1) = false := by rw [hk]; rfl
  have k2 : (t.kind == 2) = false := by rw [hk]; rfl
  have k3 : (t.kind == 3) = false := by rw [hk]; rfl
  have k4 : (t.kind == 4) = true := by rw [hk]; rfl
  have k5 : (t.kind == 5) = false := by rw [hk]; rfl
  have k6 : (t.kind == 6) = false := by rw [hk]; rfl
  have k7 : (t.kind == 7) = false := by rw [hk]; rfl
  have k8 : (t.kind == 8) = false := by rw [hk]; rfl
  have HT := Lib.hid (text_kind_4 hk)
  clear hb0 hq hr hz hf hk
  go_enter Tryd.func37, Tryd.ntmps37
  go_wp2
  go_ret
  exact ⟨ret_text7 (by rw [HT.out]), HB0.out⟩

set_option maxRecDepth 100000 in
set_option maxHeartbeats 2000000 in
theorem rtext_5 (t : Sh) (q : Ptr) (w : World) (hq : ShAt w w.heap.size q t) (hr : right t = true) (hz : size t ≤ 400) (hf : Rt7 t) (hk : t.kind = 5) :
    Calls Tryd.prog 37 #[.agg #[.int .i64 t.kind, .string ⟨t.of_.toArray⟩, .string ⟨t.name.toArray⟩, .slice q.A t.names.length q.c, .slice q.P t.parts.length q.d]] w fun e w' => e = .returned (.string ⟨(text t).toArray⟩) ∧ Below w.heap.size w w' := by
  have hb0 := below_one w (.cells #[.int .i64 t.kind, .string ⟨t.of_.toArray⟩, .string ⟨t.name.toArray⟩, .slice q.A t.names.length q.c, .slice q.P t.parts.length q.d] 25)
  have HB := Lib.hid (box5_new w t q)
  have HB0 := Lib.hid hb0
  obtain ⟨_, ⟨c0, c1, c2, c3, c4⟩, _⟩ := HB.out
  have k1 : (t.kind == 1) = false := by rw [hk]; rfl
  have k2 : (t.kind == 2) = false := by rw [hk]; rfl
  have k3 : (t.kind == 3) = false := by rw [hk]; rfl
  have k4 : (t.kind == 4) = false := by rw [hk]; rfl
  have k5 : (t.kind == 5) = true := by rw [hk]; rfl
  have k6 : (t.kind == 6) = false := by rw [hk]; rfl
  have k7 : (t.kind == 7) = false := by rw [hk]; rfl
  have k8 : (t.kind == 8) = false := by rw [hk]; rfl
  have HT := Lib.hid (text_kind_5 hk)
  have h1 : t.parts.length = 1 := by
    rcases fits_kinds (right_fits hr) with ⟨_, h, _⟩ | ⟨_, _, h⟩ | ⟨h, _⟩ | ⟨h, _⟩ | ⟨h, _⟩
    · omega
    · exact h
    · omega
    · omega
    · omega
  obtain ⟨g, off, qs, hP⟩ := (hq.next hb0).lies
  rcases hP with h0 | ⟨hqP, hgl, hc, hrr⟩
  · omega
  · obtain ⟨x, hx⟩ : ∃ x, x = t.parts[0]'(by omega) := ⟨_, rfl⟩
    obtain ⟨p0, p1, p2, p3, p4⟩ := hc 0 (by omega)
    have hat := hrr 0 (by omega)
    have hfx := hf t.parts[0] (List.getElem_mem _)
    have hxs : (text x).length ≤ 40000 := by
      have hm : x ∈ t.parts := by rw [hx]; exact List.getElem_mem _
      refine text_small (right_part hr hm) ?_
      have := sizes_mem hm
      rw [size_eq] at hz; omega
    have HX : Hid ((t.parts.map text).headD [] = text x) := Lib.hid (by
      rw [hx, List.headD_eq_head?_getD, List.head?_eq_getElem?, List.getElem?_map, List.getElem?_eq_getElem (by omega)]; rfl)
    have hi2 : 0 < t.parts.length := by omega
    rw [← hx] at p0 p1 p2 p3 p4 hat hfx
    simp only [Nat.zero_mul, Nat.add_zero] at p0 p1 p2 p3 p4
    have IH := hfx (qs 0) _ hat
    have hi1 : (0 : Int) < (t.parts.length : Int) := by omega
    have z1 : (⟨(text x).toArray⟩ : ByteArray).size = (text x).length := size_list _
    obtain ⟨tx, htx⟩ : ∃ tx, tx = text x := ⟨_, rfl⟩
    rw [← htx] at HX IH hxs z1
    have HIH := Lib.hid IH
    have HQP := Lib.hid hqP
    clear hb0 hq hr hz hf hx hc hrr hat hfx h1 hk htx IH hqP
    go_enter Tryd.func37, Tryd.ntmps37
    go_upto_region 1 with fail
    generalize w.alloc (.cells #[.int .i64 t.kind, .string ⟨t.of_.toArray⟩, .string ⟨t.name.toArray⟩, .slice q.A t.names.length q.c, .slice q.P t.parts.length q.d] 25) = W0 at HB HB0 c0 c1 c2 c3 c4 p0 p1 p2 p3 p4 HIH ⊢
    rw [HQP.out] at c4
    go_wp2_with fail
    refine HIH.out.mono ?_
    rintro e w' ⟨rfl, hb'⟩
    go_wp2
    go_ret
    exact ⟨ret_text7 (by rw [HT.out, HX.out, ← cat7, ← cat7]), below_next HB0.out hb'⟩

set_option maxRecDepth 100000 in
set_option maxHeartbeats 2000000 in
theorem rtext_6 (t : Sh) (q : Ptr) (w : World) (hq : ShAt w w.heap.size q t) (hr : right t = true) (hz : size t ≤ 400) (hf : Rt7 t) (hk : t.kind = 6) :
    Calls Tryd.prog 37 #[.agg #[.int .i64 t.kind, .string ⟨t.of_.toArray⟩, .string ⟨t.name.toArray⟩, .slice q.A t.names.length q.c, .slice q.P t.parts.length q.d]] w fun e w' => e = .returned (.string ⟨(text t).toArray⟩) ∧ Below w.heap.size w w' := by
  have hb0 := below_one w (.cells #[.int .i64 t.kind, .string ⟨t.of_.toArray⟩, .string ⟨t.name.toArray⟩, .slice q.A t.names.length q.c, .slice q.P t.parts.length q.d] 25)
  have HB := Lib.hid (box5_new w t q)
  have HB0 := Lib.hid hb0
  obtain ⟨_, ⟨c0, c1, c2, c3, c4⟩, _⟩ := HB.out
  have k1 : (t.kind == 1) = false := by rw [hk]; rfl
  have k2 : (t.kind == 2) = false := by rw [hk]; rfl
  have k3 : (t.kind == 3) = false := by rw [hk]; rfl
  have k4 : (t.kind == 4) = false := by rw [hk]; rfl
  have k5 : (t.kind == 5) = false := by rw [hk]; rfl
  have k6 : (t.kind == 6) = true := by rw [hk]; rfl
  have k7 : (t.kind == 7) = false := by rw [hk]; rfl
  have k8 : (t.kind == 8) = false := by rw [hk]; rfl
  have HT := Lib.hid (text_kind_6 hk)
  obtain ⟨hn, ha⟩ : t.names.length = t.parts.length ∧ areNames t.names = true := by
    rcases fits_kinds (right_fits hr) with ⟨_, h, _⟩ | ⟨h, _⟩ | ⟨_, h⟩ | ⟨h, _⟩ | ⟨h, _⟩
    · omega
    · omega
    · exact h
    · omega
    · omega
  have hpl : t.parts.length ≤ 400 := by have := length_sizes t.parts; rw [size_eq] at hz; omega
  obtain ⟨ft1, ft2⟩ := fields_total hn ha
  have htt := total_texts (l := t.parts) (fun p hp => text_len (right_part hr hp))
  have hsz : sizes t.parts ≤ 400 := by rw [size_eq] at hz; omega
  have hft : total (fields t.names (t.parts.map text)) ≤ 100000 := by omega
  have hjl : (join [44, 32] (fields t.names (t.parts.map text))).length ≤ 1000000 := by
    have h2 := join_len [44, 32] (fields t.names (t.parts.map text))
    simp only [List.length_cons, List.length_nil] at h2
    omega
  have hj := rjoined_walk t [44, 32] (by decide) t.parts.length (Nat.le_refl _) q _ (hq.next hb0) (Or.inr hn) hpl hft hf
  rw [List.take_of_length_le (by rw [ft2]; exact Nat.le_refl _)] at hj
  obtain ⟨J, hJ⟩ : ∃ J, J = join [44, 32] (fields t.names (t.parts.map text)) := ⟨_, rfl⟩
  rw [← hJ] at hj hjl
  have HJ : Hid (text t = _) := HT
  have HJ2 := Lib.hid hJ
  have HIH := Lib.hid hj
  have z1 : (⟨J.toArray⟩ : ByteArray).size = J.length := size_list _
  clear hb0 hq hr hz hf hk hn ha ft1 ft2 htt hsz hft hj hJ HJ
  go_enter Tryd.func37, Tryd.ntmps37
  go_wp2_with fail
  refine HIH.out.mono ?_
  rintro e w' ⟨rfl, hb'⟩
  go_wp2
  go_ret
  exact ⟨ret_text7 (by rw [HT.out, ← HJ2.out, ← cat7, ← cat7]), below_next HB0.out hb'⟩

set_option maxRecDepth 100000 in
set_option maxHeartbeats 2000000 in
theorem rtext_7 (t : Sh) (q : Ptr) (w : World) (hq : ShAt w w.heap.size q t) (hr : right t = true) (hz : size t ≤ 400) (hf : Rt7 t) (hk : t.kind = 7) :
    Calls Tryd.prog 37 #[.agg #[.int .i64 t.kind, .string ⟨t.of_.toArray⟩, .string ⟨t.name.toArray⟩, .slice q.A t.names.length q.c, .slice q.P t.parts.length q.d]] w fun e w' => e = .returned (.string ⟨(text t).toArray⟩) ∧ Below w.heap.size w w' := by
  have hb0 := below_one w (.cells #[.int .i64 t.kind, .string ⟨t.of_.toArray⟩, .string ⟨t.name.toArray⟩, .slice q.A t.names.length q.c, .slice q.P t.parts.length q.d] 25)
  have HB := Lib.hid (box5_new w t q)
  have HB0 := Lib.hid hb0
  obtain ⟨_, ⟨c0, c1, c2, c3, c4⟩, _⟩ := HB.out
  have k1 : (t.kind == 1) = false := by rw [hk]; rfl
  have k2 : (t.kind == 2) = false := by rw [hk]; rfl
  have k3 : (t.kind == 3) = false := by rw [hk]; rfl
  have k4 : (t.kind == 4) = false := by rw [hk]; rfl
  have k5 : (t.kind == 5) = false := by rw [hk]; rfl
  have k6 : (t.kind == 6) = false := by rw [hk]; rfl
  have k7 : (t.kind == 7) = true := by rw [hk]; rfl
  have k8 : (t.kind == 8) = false := by rw [hk]; rfl
  have HT := Lib.hid (text_kind_7 hk)
  obtain ⟨hn, ha⟩ : t.names.length = t.parts.length ∧ areNames t.names = true := by
    rcases fits_kinds (right_fits hr) with ⟨_, h, _⟩ | ⟨h, _⟩ | ⟨_, h⟩ | ⟨h, _⟩ | ⟨h, _⟩
    · omega
    · omega
    · exact h
    · omega
    · omega
  have hpl : t.parts.length ≤ 400 := by have := length_sizes t.parts; rw [size_eq] at hz; omega
  obtain ⟨ft1, ft2⟩ := fields_total hn ha
  have htt := total_texts (l := t.parts) (fun p hp => text_len (right_part hr hp))
  have hsz : sizes t.parts ≤ 400 := by rw [size_eq] at hz; omega
  have hft : total (fields t.names (t.parts.map text)) ≤ 100000 := by omega
  have hjl : (join [32, 124, 32] (fields t.names (t.parts.map text))).length ≤ 1000000 := by
    have h2 := join_len [32, 124, 32] (fields t.names (t.parts.map text))
    simp only [List.length_cons, List.length_nil] at h2
    omega
  have hj := rjoined_walk t [32, 124, 32] (by decide) t.parts.length (Nat.le_refl _) q _ (hq.next hb0) (Or.inr hn) hpl hft hf
  rw [List.take_of_length_le (by rw [ft2]; exact Nat.le_refl _)] at hj
  obtain ⟨J, hJ⟩ : ∃ J, J = join [32, 124, 32] (fields t.names (t.parts.map text)) := ⟨_, rfl⟩
  rw [← hJ] at hj hjl
  have HJ : Hid (text t = _) := HT
  have HJ2 := Lib.hid hJ
  have HIH := Lib.hid hj
  have z1 : (⟨J.toArray⟩ : ByteArray).size = J.length := size_list _
  clear hb0 hq hr hz hf hk hn ha ft1 ft2 htt hsz hft hj hJ HJ
  go_enter Tryd.func37, Tryd.ntmps37
  go_wp2_with fail
  refine HIH.out.mono ?_
  rintro e w' ⟨rfl, hb'⟩
  go_wp2
  go_ret
  exact ⟨ret_text7 (by rw [HT.out, ← HJ2.out, ← cat7, ← cat7]), below_next HB0.out hb'⟩

set_option maxRecDepth 100000 in
set_option maxHeartbeats 2000000 in
theorem rtext_9a (t : Sh) (q : Ptr) (w : World) (hq : ShAt w w.heap.size q t) (hr : right t = true) (hz : size t ≤ 400) (hf : Rt7 t) (hk : t.kind = 9) (ho : t.of_ = []) :
    Calls Tryd.prog 37 #[.agg #[.int .i64 t.kind, .string ⟨t.of_.toArray⟩, .string ⟨t.name.toArray⟩, .slice q.A t.names.length q.c, .slice q.P t.parts.length q.d]] w fun e w' => e = .returned (.string ⟨(text t).toArray⟩) ∧ Below w.heap.size w w' := by
  have hb0 := below_one w (.cells #[.int .i64 t.kind, .string ⟨t.of_.toArray⟩, .string ⟨t.name.toArray⟩, .slice q.A t.names.length q.c, .slice q.P t.parts.length q.d] 25)
  have HB := Lib.hid (box5_new w t q)
  have HB0 := Lib.hid hb0
  obtain ⟨_, ⟨c0, c1, c2, c3, c4⟩, _⟩ := HB.out
  have k1 : (t.kind == 1) = false := by rw [hk]; rfl
  have k2 : (t.kind == 2) = false := by rw [hk]; rfl
  have k3 : (t.kind == 3) = false := by rw [hk]; rfl
  have k4 : (t.kind == 4) = false := by rw [hk]; rfl
  have k5 : (t.kind == 5) = false := by rw [hk]; rfl
  have k6 : (t.kind == 6) = false := by rw [hk]; rfl
  have k7 : (t.kind == 7) = false := by rw [hk]; rfl
  have k8 : (t.kind == 8) = false := by rw [hk]; rfl
  have HT : Hid (text t = t.name) := Lib.hid (by rw [text_kind_9 (t := t) (by first | exact Or.inl hk | exact Or.inr hk)]; unfold named; rw [if_pos ho])
  obtain ⟨hl, hol⟩ : t.name.length ≤ 24 ∧ t.of_.length ≤ 24 := by
    rcases fits_kinds (right_fits hr) with ⟨_, h, _⟩ | ⟨h, _⟩ | ⟨h, _⟩ | ⟨h, _⟩ | ⟨_, _, _, h1, h2⟩
    · omega
    · omega
    · omega
    · omega
    · exact ⟨h1, h2⟩
  have z1 : (⟨t.name.toArray⟩ : ByteArray).size = t.name.length := size_list _
  have z2 : (⟨t.of_.toArray⟩ : ByteArray).size = t.of_.length := size_list _
  have he : t.of_.isEmpty = true := by rw [ho]; rfl
  clear hb0 hq hr hz hf hk
  go_enter Tryd.func37, Tryd.ntmps37
  go_wp2
  go_ret
  exact ⟨ret_text7 (by rw [HT.out]), below_one _ _⟩

set_option maxRecDepth 100000 in
set_option maxHeartbeats 2000000 in
theorem rtext_9b (t : Sh) (q : Ptr) (w : World) (hq : ShAt w w.heap.size q t) (hr : right t = true) (hz : size t ≤ 400) (hf : Rt7 t) (hk : t.kind = 9) (ho : t.of_ ≠ []) :
    Calls Tryd.prog 37 #[.agg #[.int .i64 t.kind, .string ⟨t.of_.toArray⟩, .string ⟨t.name.toArray⟩, .slice q.A t.names.length q.c, .slice q.P t.parts.length q.d]] w fun e w' => e = .returned (.string ⟨(text t).toArray⟩) ∧ Below w.heap.size w w' := by
  have hb0 := below_one w (.cells #[.int .i64 t.kind, .string ⟨t.of_.toArray⟩, .string ⟨t.name.toArray⟩, .slice q.A t.names.length q.c, .slice q.P t.parts.length q.d] 25)
  have HB := Lib.hid (box5_new w t q)
  have HB0 := Lib.hid hb0
  obtain ⟨_, ⟨c0, c1, c2, c3, c4⟩, _⟩ := HB.out
  have k1 : (t.kind == 1) = false := by rw [hk]; rfl
  have k2 : (t.kind == 2) = false := by rw [hk]; rfl
  have k3 : (t.kind == 3) = false := by rw [hk]; rfl
  have k4 : (t.kind == 4) = false := by rw [hk]; rfl
  have k5 : (t.kind == 5) = false := by rw [hk]; rfl
  have k6 : (t.kind == 6) = false := by rw [hk]; rfl
  have k7 : (t.kind == 7) = false := by rw [hk]; rfl
  have k8 : (t.kind == 8) = false := by rw [hk]; rfl
  have HT : Hid (text t = t.of_ ++ ([47] ++ t.name)) := Lib.hid (by rw [text_kind_9 (t := t) (by first | exact Or.inl hk | exact Or.inr hk)]; unfold named; rw [if_neg ho, List.append_assoc])
  obtain ⟨hl, hol⟩ : t.name.length ≤ 24 ∧ t.of_.length ≤ 24 := by
    rcases fits_kinds (right_fits hr) with ⟨_, h, _⟩ | ⟨h, _⟩ | ⟨h, _⟩ | ⟨h, _⟩ | ⟨_, _, _, h1, h2⟩
    · omega
    · omega
    · omega
    · omega
    · exact ⟨h1, h2⟩
  have z1 : (⟨t.name.toArray⟩ : ByteArray).size = t.name.length := size_list _
  have z2 : (⟨t.of_.toArray⟩ : ByteArray).size = t.of_.length := size_list _
  have he : t.of_.isEmpty = false := by simpa using ho
  clear hb0 hq hr hz hf hk
  go_enter Tryd.func37, Tryd.ntmps37
  go_wp2
  go_ret
  exact ⟨ret_text7 (by rw [HT.out, ← cat7, ← cat7]; apply ByteArray.ext; simp [ByteArray.data_append]), below_one _ _⟩

set_option maxRecDepth 100000 in
set_option maxHeartbeats 2000000 in
theorem rtext_10a (t : Sh) (q : Ptr) (w : World) (hq : ShAt w w.heap.size q t) (hr : right t = true) (hz : size t ≤ 400) (hf : Rt7 t) (hk : t.kind = 10) (ho : t.of_ = []) :
    Calls Tryd.prog 37 #[.agg #[.int .i64 t.kind, .string ⟨t.of_.toArray⟩, .string ⟨t.name.toArray⟩, .slice q.A t.names.length q.c, .slice q.P t.parts.length q.d]] w fun e w' => e = .returned (.string ⟨(text t).toArray⟩) ∧ Below w.heap.size w w' := by
  have hb0 := below_one w (.cells #[.int .i64 t.kind, .string ⟨t.of_.toArray⟩, .string ⟨t.name.toArray⟩, .slice q.A t.names.length q.c, .slice q.P t.parts.length q.d] 25)
  have HB := Lib.hid (box5_new w t q)
  have HB0 := Lib.hid hb0
  obtain ⟨_, ⟨c0, c1, c2, c3, c4⟩, _⟩ := HB.out
  have k1 : (t.kind == 1) = false := by rw [hk]; rfl
  have k2 : (t.kind == 2) = false := by rw [hk]; rfl
  have k3 : (t.kind == 3) = false := by rw [hk]; rfl
  have k4 : (t.kind == 4) = false := by rw [hk]; rfl
  have k5 : (t.kind == 5) = false := by rw [hk]; rfl
  have k6 : (t.kind == 6) = false := by rw [hk]; rfl
  have k7 : (t.kind == 7) = false := by rw [hk]; rfl
  have k8 : (t.kind == 8) = false := by rw [hk]; rfl
  have HT : Hid (text t = t.name) := Lib.hid (by rw [text_kind_9 (t := t) (by first | exact Or.inl hk | exact Or.inr hk)]; unfold named; rw [if_pos ho])
  obtain ⟨hl, hol⟩ : t.name.length ≤ 24 ∧ t.of_.length ≤ 24 := by
    rcases fits_kinds (right_fits hr) with ⟨_, h, _⟩ | ⟨h, _⟩ | ⟨h, _⟩ | ⟨h, _⟩ | ⟨_, _, _, h1, h2⟩
    · omega
    · omega
    · omega
    · omega
    · exact ⟨h1, h2⟩
  have z1 : (⟨t.name.toArray⟩ : ByteArray).size = t.name.length := size_list _
  have z2 : (⟨t.of_.toArray⟩ : ByteArray).size = t.of_.length := size_list _
  have he : t.of_.isEmpty = true := by rw [ho]; rfl
  clear hb0 hq hr hz hf hk
  go_enter Tryd.func37, Tryd.ntmps37
  go_wp2
  go_ret
  exact ⟨ret_text7 (by rw [HT.out]), below_one _ _⟩

set_option maxRecDepth 100000 in
set_option maxHeartbeats 2000000 in
theorem rtext_10b (t : Sh) (q : Ptr) (w : World) (hq : ShAt w w.heap.size q t) (hr : right t = true) (hz : size t ≤ 400) (hf : Rt7 t) (hk : t.kind = 10) (ho : t.of_ ≠ []) :
    Calls Tryd.prog 37 #[.agg #[.int .i64 t.kind, .string ⟨t.of_.toArray⟩, .string ⟨t.name.toArray⟩, .slice q.A t.names.length q.c, .slice q.P t.parts.length q.d]] w fun e w' => e = .returned (.string ⟨(text t).toArray⟩) ∧ Below w.heap.size w w' := by
  have hb0 := below_one w (.cells #[.int .i64 t.kind, .string ⟨t.of_.toArray⟩, .string ⟨t.name.toArray⟩, .slice q.A t.names.length q.c, .slice q.P t.parts.length q.d] 25)
  have HB := Lib.hid (box5_new w t q)
  have HB0 := Lib.hid hb0
  obtain ⟨_, ⟨c0, c1, c2, c3, c4⟩, _⟩ := HB.out
  have k1 : (t.kind == 1) = false := by rw [hk]; rfl
  have k2 : (t.kind == 2) = false := by rw [hk]; rfl
  have k3 : (t.kind == 3) = false := by rw [hk]; rfl
  have k4 : (t.kind == 4) = false := by rw [hk]; rfl
  have k5 : (t.kind == 5) = false := by rw [hk]; rfl
  have k6 : (t.kind == 6) = false := by rw [hk]; rfl
  have k7 : (t.kind == 7) = false := by rw [hk]; rfl
  have k8 : (t.kind == 8) = false := by rw [hk]; rfl
  have HT : Hid (text t = t.of_ ++ ([47] ++ t.name)) := Lib.hid (by rw [text_kind_9 (t := t) (by first | exact Or.inl hk | exact Or.inr hk)]; unfold named; rw [if_neg ho, List.append_assoc])
  obtain ⟨hl, hol⟩ : t.name.length ≤ 24 ∧ t.of_.length ≤ 24 := by
    rcases fits_kinds (right_fits hr) with ⟨_, h, _⟩ | ⟨h, _⟩ | ⟨h, _⟩ | ⟨h, _⟩ | ⟨_, _, _, h1, h2⟩
    · omega
    · omega
    · omega
    · omega
    · exact ⟨h1, h2⟩
  have z1 : (⟨t.name.toArray⟩ : ByteArray).size = t.name.length := size_list _
  have z2 : (⟨t.of_.toArray⟩ : ByteArray).size = t.of_.length := size_list _
  have he : t.of_.isEmpty = false := by simpa using ho
  clear hb0 hq hr hz hf hk
  go_enter Tryd.func37, Tryd.ntmps37
  go_wp2
  go_ret
  exact ⟨ret_text7 (by rw [HT.out, ← cat7, ← cat7]; apply ByteArray.ext; simp [ByteArray.data_append]), below_one _ _⟩

end Go.Proofs.YtkehnmapnckdgaaDoor

/- The document's Text of functions; Text; Show. -/
namespace Go.Proofs.YtkehnmapnckdgaaDoor
open Go.RowKit Shp
set_option linter.unusedVariables false

def rtext8T (w : World) (t x : Sh) (q qx : Ptr) (g off m : Nat) (j tx : List UInt8) : Nat → Want
  | 0 => .val (.agg #[.int .i64 t.kind, .string ⟨t.of_.toArray⟩, .string ⟨t.name.toArray⟩, .slice q.A t.names.length q.c, .slice q.P t.parts.length q.d])
  | 1 => .val (.int .i64 ↑t.parts.length)
  | 2 => .val (.int .i64 (m : Int))
  | 3 => .val (.string ⟨j.toArray⟩)
  | 4 => .val (.string ((⟨#[40]⟩ : ByteArray) ++ (⟨j.toArray⟩ : ByteArray)))
  | 5 => .val (.string ((⟨#[40]⟩ : ByteArray) ++ (⟨j.toArray⟩ : ByteArray) ++ (⟨#[41, 32, 45, 62, 32]⟩ : ByteArray)))
  | 6 => .val (.pointer (some ⟨w.heap.size, 4, none⟩))
  | 7 => .val (.slice (some ⟨g, off, none⟩) t.parts.length q.d)
  | 8 => .val (.int .i64 ↑t.parts.length)
  | 9 => .val (.int .i64 (m : Int))
  | 10 => .val (.pointer (some ⟨g, off + m * 5, none⟩))
  | 11 => .val (.agg #[.int .i64 x.kind, .string ⟨x.of_.toArray⟩, .string ⟨x.name.toArray⟩, .slice qx.A x.names.length qx.c, .slice qx.P x.parts.length qx.d])
  | 12 => .val (.string ⟨tx.toArray⟩)
  | 13 => .val (.string ((⟨#[40]⟩ : ByteArray) ++ (⟨j.toArray⟩ : ByteArray) ++ (⟨#[41, 32, 45, 62, 32]⟩ : ByteArray) ++ (⟨tx.toArray⟩ : ByteArray)))
  | 14 => .val (.string ((⟨#[40]⟩ : ByteArray) ++ (⟨j.toArray⟩ : ByteArray) ++ (⟨#[41, 32, 45, 62, 32]⟩ : ByteArray) ++ (⟨tx.toArray⟩ : ByteArray)))
  | _ => .any

set_option maxRecDepth 100000 in
set_option maxHeartbeats 4000000 in
theorem rtext_8 (t : Sh) (q : Ptr) (w : World) (hq : ShAt w w.heap.size q t) (hr : right t = true) (hz : size t ≤ 400) (hf : Rt7 t) (hk : t.kind = 8) :
    Calls Tryd.prog 37 #[.agg #[.int .i64 t.kind, .string ⟨t.of_.toArray⟩, .string ⟨t.name.toArray⟩, .slice q.A t.names.length q.c, .slice q.P t.parts.length q.d]] w fun e w' => e = .returned (.string ⟨(text t).toArray⟩) ∧ Below w.heap.size w w' := by
  have hb0 := below_one w (.cells #[.int .i64 t.kind, .string ⟨t.of_.toArray⟩, .string ⟨t.name.toArray⟩, .slice q.A t.names.length q.c, .slice q.P t.parts.length q.d] 25)
  have HB := Lib.hid (box5_new w t q)
  have HB0 := Lib.hid hb0
  obtain ⟨a1, ⟨c0, c1, c2, c3, c4⟩, a2⟩ := HB.out
  clear a1 a2
  have k1 : (t.kind == 1) = false := by rw [hk]; rfl
  have k2 : (t.kind == 2) = false := by rw [hk]; rfl
  have k3 : (t.kind == 3) = false := by rw [hk]; rfl
  have k4 : (t.kind == 4) = false := by rw [hk]; rfl
  have k5 : (t.kind == 5) = false := by rw [hk]; rfl
  have k6 : (t.kind == 6) = false := by rw [hk]; rfl
  have k7 : (t.kind == 7) = false := by rw [hk]; rfl
  have k8 : (t.kind == 8) = true := by rw [hk]; rfl
  have HT := Lib.hid (text_kind_8 hk)
  obtain ⟨hnn, h1⟩ : t.names = [] ∧ 1 ≤ t.parts.length := by
    rcases fits_kinds (right_fits hr) with ⟨_, h, _⟩ | ⟨h, _⟩ | ⟨h, _⟩ | ⟨_, h⟩ | ⟨h, _⟩
    · omega
    · omega
    · omega
    · exact h
    · omega
  have hpl : t.parts.length ≤ 400 := by have := length_sizes t.parts; rw [size_eq] at hz; omega
  obtain ⟨m, hm⟩ : ∃ m, t.parts.length = m + 1 := ⟨t.parts.length - 1, by omega⟩
  obtain ⟨x, hx⟩ : ∃ x, x = t.parts[m]'(by omega) := ⟨_, rfl⟩
  have hxm : x ∈ t.parts := by rw [hx]; exact List.getElem_mem _
  obtain ⟨g, off, qs, hP⟩ := (hq.next hb0).lies
  rcases hP with h0 | ⟨hqP, hgl, hc, hrr⟩
  · omega
  obtain ⟨qx, hqx⟩ : ∃ qx, qx = qs m := ⟨_, rfl⟩
  have HX5 : Hid (Sh5 (w.alloc (.cells #[.int .i64 t.kind, .string ⟨t.of_.toArray⟩, .string ⟨t.name.toArray⟩, .slice q.A t.names.length q.c, .slice q.P t.parts.length q.d] 25)) g (off + m * 5) x qx) := Lib.hid (by rw [hx, hqx]; exact hc m (by omega))
  have HXA : Hid (ShAt (w.alloc (.cells #[.int .i64 t.kind, .string ⟨t.of_.toArray⟩, .string ⟨t.name.toArray⟩, .slice q.A t.names.length q.c, .slice q.P t.parts.length q.d] 25)) (w.alloc (.cells #[.int .i64 t.kind, .string ⟨t.of_.toArray⟩, .string ⟨t.name.toArray⟩, .slice q.A t.names.length q.c, .slice q.P t.parts.length q.d] 25)).heap.size qx x) := Lib.hid (by rw [hx, hqx]; exact hrr m (by omega))
  have hff : fields t.names (t.parts.map text) = t.parts.map text := by unfold fields; rw [if_pos hnn]
  have htt := total_texts (l := t.parts) (fun p hp => text_len (right_part hr hp))
  have hsz : sizes t.parts ≤ 400 := by rw [size_eq] at hz; omega
  obtain ⟨j, hj⟩ : ∃ j, j = join [44, 32] ((t.parts.map text).take m) := ⟨_, rfl⟩
  have hjl : j.length ≤ 1000000 := by
    have h2 := join_len [44, 32] ((t.parts.map text).take m)
    have h3 := total_take (t.parts.map text) m
    have h4 : ((t.parts.map text).take m).length ≤ 400 := by rw [List.length_take]; omega
    simp only [List.length_cons, List.length_nil] at h2
    rw [hj]; omega
  have hxl : (text x).length ≤ 1000000 := by
    have := text_small (right_part hr hxm) (by have := sizes_mem hxm; omega)
    omega
  have HE := Lib.hid (fun (W : World) (h : Below (w.alloc (.cells #[.int .i64 t.kind, .string ⟨t.of_.toArray⟩, .string ⟨t.name.toArray⟩, .slice q.A t.names.length q.c, .slice q.P t.parts.length q.d] 25)).heap.size (w.alloc (.cells #[.int .i64 t.kind, .string ⟨t.of_.toArray⟩, .string ⟨t.name.toArray⟩, .slice q.A t.names.length q.c, .slice q.P t.parts.length q.d] 25)) W) => rjoined_walk t [44, 32] (by decide) m (by omega) q W ((hq.next hb0).next h) (Or.inl hnn) hpl (by rw [hff]; omega) hf)
  rw [hff, ← hj] at HE
  have HFX := Lib.hid (fun (W : World) (h : Below (w.alloc (.cells #[.int .i64 t.kind, .string ⟨t.of_.toArray⟩, .string ⟨t.name.toArray⟩, .slice q.A t.names.length q.c, .slice q.P t.parts.length q.d] 25)).heap.size (w.alloc (.cells #[.int .i64 t.kind, .string ⟨t.of_.toArray⟩, .string ⟨t.name.toArray⟩, .slice q.A t.names.length q.c, .slice q.P t.parts.length q.d] 25)) W) => hf x hxm qx W (HXA.out.next h))
  have HTJ : Hid (text t = [40] ++ j ++ [41, 32, 45, 62, 32] ++ text x) := Lib.hid (by
    rw [HT.out, List.dropLast_eq_take, List.length_map, hm, Nat.add_sub_cancel, ← hj, List.getLastD_eq_getLast?, List.getLast?_eq_getElem?, List.length_map, hm, Nat.add_sub_cancel, List.getElem?_map, List.getElem?_eq_getElem (by omega), hx]; rfl)
  obtain ⟨tx, htx⟩ : ∃ tx, tx = text x := ⟨_, rfl⟩
  rw [← htx] at HTJ HFX hxl
  have z1 : (⟨j.toArray⟩ : ByteArray).size = j.length := size_list _
  have z2 : (⟨tx.toArray⟩ : ByteArray).size = tx.length := size_list _
  have hm1 : (t.parts.length : Int) - 1 = (m : Int) := by omega
  have hm2 : (m : Int) < (t.parts.length : Int) := by omega
  have HM1 := Lib.hid hm1
  have HM2 := Lib.hid hm2
  have HJL := Lib.hid hjl
  have HXL := Lib.hid hxl
  have HZ1 := Lib.hid z1
  have HZ2 := Lib.hid z2
  have HQP := Lib.hid hqP
  have HGL := Lib.hid hgl
  have HPL := Lib.hid hpl
  clear hb0 hq hr hz hf hk hnn h1 hm hx hxm hc hrr hqx hff htt hsz hj htx hqP HT hm1 hm2 hjl hxl z1 z2 hgl HXA
  go_enter Tryd.func37, Tryd.ntmps37
  go_upto_region 1 with fail
  generalize w.alloc (.cells #[.int .i64 t.kind, .string ⟨t.of_.toArray⟩, .string ⟨t.name.toArray⟩, .slice q.A t.names.length q.c, .slice q.P t.parts.length q.d] 25) = W0 at HB HB0 c0 c1 c2 c3 c4 HX5 HE HFX HGL ⊢
  go_wp2_with fail
  refine wp_orders (rs := [0, 1, 2, 3, 4, 5, 6, 7, 8, 9, 10, 11, 12, 13, 14])
    (fun u' => { tmps := #[.agg #[.int .i64 t.kind, .string { data := t.of_.toArray }, .string { data := t.name.toArray }, .slice q.A t.names.length q.c, .slice q.P t.parts.length q.d], .pointer (some { block := w.heap.size, off := 0 }), u' 14, .int .i64 ↑t.parts.length, .pointer (some { block := w.heap.size, off := 4 }), .slice q.P t.parts.length q.d, .int .i64 ↑t.parts.length, .pointer (some { block := w.heap.size, off := 0 }), .int .i64 t.kind, .bool false, .bool false, .bool false, .bool false, .bool false, .bool false, .bool false, .bool false, .bool false, .bool false, undef, undef, undef, undef, undef, undef, undef, .bool false, .bool false, undef, undef, undef, undef, undef, .bool false, .bool false, undef, undef, undef, undef, undef, .bool true, .bool true, u' 0, u' 1, u' 2, u' 3, u' 4, u' 5, u' 6, u' 7, u' 8, u' 9, u' 10, u' 11, u' 12, u' 13, undef, undef, undef, undef, undef, undef, undef, undef, undef, undef, undef], defers := [] })
    (fun j => ([undef, undef, undef, undef, undef, undef, undef, undef, undef, undef, undef, undef, undef, undef, .string { data := #[] }] : List Value).getD j undef) (rtext8T w t x q qx g off m j tx) (fun W => Below W0.heap.size W0 W) (by kernel_rfl) (by kernel_rfl) (by kernel_rfl) (Below.refl _ _).drew ?_ ?_
  refine StepsAt.cons _ rfl (fun u' W K' hJ hd hK => ?_) ?_
  · obtain ⟨_, ⟨y0, y1, y2, y3, y4⟩, _⟩ := HB.out.next hJ
    simp only [Nat.zero_add] at y0 y1 y2 y3 y4
    refine step_value (v := .agg #[.int .i64 t.kind, .string ⟨t.of_.toArray⟩, .string ⟨t.name.toArray⟩, .slice q.A t.names.length q.c, .slice q.P t.parts.length q.d]) (W' := W) rfl ?_ (hK.out _ _ rfl hJ (Below.refl _ _))
    try dsimp only
    go_simp
    try omega
  refine StepsAt.cons _ rfl (fun u' W K' hJ hd hK => ?_) ?_
  · refine step_value (v := .int .i64 ↑t.parts.length) (W' := W) rfl ?_ (hK.out _ _ rfl hJ (Below.refl _ _))
    try dsimp only
    go_simp
    try omega
  refine StepsAt.cons _ rfl (fun u' W K' hJ hd hK => ?_) ?_
  · have d1 : u' 1 = .int .i64 ↑t.parts.length := hd 1 (by kernel_rfl)
    have hm1 := HM1.out
    have hpl := HPL.out
    have hwm : IntKind.i64.wrap (m : Int) = (m : Int) := IntWalk.i64_in _ (by omega)
    refine step_value (v := .int .i64 (m : Int)) (W' := W) rfl ?_ (hK.out _ _ rfl hJ (Below.refl _ _))
    try dsimp only
    go_simp
    try omega
  refine StepsAt.cons _ rfl (fun u' W K' hJ hd hK => ?_) ?_
  · have d0 : u' 0 = .agg #[.int .i64 t.kind, .string ⟨t.of_.toArray⟩, .string ⟨t.name.toArray⟩, .slice q.A t.names.length q.c, .slice q.P t.parts.length q.d] := hd 0 (by kernel_rfl)
    have d2 : u' 2 = .int .i64 (m : Int) := hd 2 (by kernel_rfl)
    refine step_enter (f := 54) (args := #[.agg #[.int .i64 t.kind, .string ⟨t.of_.toArray⟩, .string ⟨t.name.toArray⟩, .slice q.A t.names.length q.c, .slice q.P t.parts.length q.d], .int .i64 (m : Int), .string ⟨#[44, 32]⟩]) (W' := W) rfl ?_ ((HE.out W hJ).mono fun e w' h => ⟨_, h.1, hK.out _ _ rfl (below_next hJ h.2) h.2⟩)
    try dsimp only
    go_simp
    try omega
  refine StepsAt.cons _ rfl (fun u' W K' hJ hd hK => ?_) ?_
  · have d3 : u' 3 = .string ⟨j.toArray⟩ := hd 3 (by kernel_rfl)
    have hjl := HJL.out
    have hxl := HXL.out
    have z1 := HZ1.out
    have z2 := HZ2.out
    refine step_value (v := .string ((⟨#[40]⟩ : ByteArray) ++ (⟨j.toArray⟩ : ByteArray))) (W' := W) rfl ?_ (hK.out _ _ rfl hJ (Below.refl _ _))
    try dsimp only
    go_simp
    try omega
  refine StepsAt.cons _ rfl (fun u' W K' hJ hd hK => ?_) ?_
  · have d4 : u' 4 = .string ((⟨#[40]⟩ : ByteArray) ++ (⟨j.toArray⟩ : ByteArray)) := hd 4 (by kernel_rfl)
    have hjl := HJL.out
    have hxl := HXL.out
    have z1 := HZ1.out
    have z2 := HZ2.out
    refine step_value (v := .string ((⟨#[40]⟩ : ByteArray) ++ (⟨j.toArray⟩ : ByteArray) ++ (⟨#[41, 32, 45, 62, 32]⟩ : ByteArray))) (W' := W) rfl ?_ (hK.out _ _ rfl hJ (Below.refl _ _))
    try dsimp only
    go_simp
    try omega
  refine StepsAt.cons _ rfl (fun u' W K' hJ hd hK => ?_) ?_
  · refine step_value (v := .pointer (some ⟨w.heap.size, 4, none⟩)) (W' := W) rfl ?_ (hK.out _ _ rfl hJ (Below.refl _ _))
    try dsimp only
    go_simp
    try omega
  refine StepsAt.cons _ rfl (fun u' W K' hJ hd hK => ?_) ?_
  · have d6 : u' 6 = .pointer (some ⟨w.heap.size, 4, none⟩) := hd 6 (by kernel_rfl)
    obtain ⟨_, ⟨y0, y1, y2, y3, y4⟩, _⟩ := HB.out.next hJ
    simp only [Nat.zero_add] at y0 y1 y2 y3 y4
    rw [HQP.out] at y4
    refine step_value (v := .slice (some ⟨g, off, none⟩) t.parts.length q.d) (W' := W) rfl ?_ (hK.out _ _ rfl hJ (Below.refl _ _))
    try dsimp only
    go_simp
    try omega
  refine StepsAt.cons _ rfl (fun u' W K' hJ hd hK => ?_) ?_
  · refine step_value (v := .int .i64 ↑t.parts.length) (W' := W) rfl ?_ (hK.out _ _ rfl hJ (Below.refl _ _))
    try dsimp only
    go_simp
    try omega
  refine StepsAt.cons _ rfl (fun u' W K' hJ hd hK => ?_) ?_
  · have d8 : u' 8 = .int .i64 ↑t.parts.length := hd 8 (by kernel_rfl)
    have hm1 := HM1.out
    have hpl := HPL.out
    have hwm : IntKind.i64.wrap (m : Int) = (m : Int) := IntWalk.i64_in _ (by omega)
    refine step_value (v := .int .i64 (m : Int)) (W' := W) rfl ?_ (hK.out _ _ rfl hJ (Below.refl _ _))
    try dsimp only
    go_simp
    try omega
  refine StepsAt.cons _ rfl (fun u' W K' hJ hd hK => ?_) ?_
  · have d7 : u' 7 = .slice (some ⟨g, off, none⟩) t.parts.length q.d := hd 7 (by kernel_rfl)
    have d9 : u' 9 = .int .i64 (m : Int) := hd 9 (by kernel_rfl)
    have hm2 := HM2.out
    have hpl := HPL.out
    refine step_value (v := .pointer (some ⟨g, off + m * 5, none⟩)) (W' := W) rfl ?_ (hK.out _ _ rfl hJ (Below.refl _ _))
    try dsimp only
    go_simp
    try omega
  refine StepsAt.cons _ rfl (fun u' W K' hJ hd hK => ?_) ?_
  · have d10 : u' 10 = .pointer (some ⟨g, off + m * 5, none⟩) := hd 10 (by kernel_rfl)
    obtain ⟨y0, y1, y2, y3, y4⟩ := HX5.out.keep HGL.out hJ
    refine step_value (v := .agg #[.int .i64 x.kind, .string ⟨x.of_.toArray⟩, .string ⟨x.name.toArray⟩, .slice qx.A x.names.length qx.c, .slice qx.P x.parts.length qx.d]) (W' := W) rfl ?_ (hK.out _ _ rfl hJ (Below.refl _ _))
    try dsimp only
    go_simp
    try omega
  refine StepsAt.cons _ rfl (fun u' W K' hJ hd hK => ?_) ?_
  · have d11 : u' 11 = .agg #[.int .i64 x.kind, .string ⟨x.of_.toArray⟩, .string ⟨x.name.toArray⟩, .slice qx.A x.names.length qx.c, .slice qx.P x.parts.length qx.d] := hd 11 (by kernel_rfl)
    refine step_enter (f := 37) (args := #[.agg #[.int .i64 x.kind, .string ⟨x.of_.toArray⟩, .string ⟨x.name.toArray⟩, .slice qx.A x.names.length qx.c, .slice qx.P x.parts.length qx.d]]) (W' := W) rfl ?_ ((HFX.out W hJ).mono fun e w' h => ⟨_, h.1, hK.out _ _ rfl (below_next hJ h.2) h.2⟩)
    try dsimp only
    go_simp
    try omega
  refine StepsAt.cons _ rfl (fun u' W K' hJ hd hK => ?_) ?_
  · have d5 : u' 5 = .string ((⟨#[40]⟩ : ByteArray) ++ (⟨j.toArray⟩ : ByteArray) ++ (⟨#[41, 32, 45, 62, 32]⟩ : ByteArray)) := hd 5 (by kernel_rfl)
    have d12 : u' 12 = .string ⟨tx.toArray⟩ := hd 12 (by kernel_rfl)
    have hjl := HJL.out
    have hxl := HXL.out
    have z1 := HZ1.out
    have z2 := HZ2.out
    refine step_value (v := .string ((⟨#[40]⟩ : ByteArray) ++ (⟨j.toArray⟩ : ByteArray) ++ (⟨#[41, 32, 45, 62, 32]⟩ : ByteArray) ++ (⟨tx.toArray⟩ : ByteArray))) (W' := W) rfl ?_ (hK.out _ _ rfl hJ (Below.refl _ _))
    try dsimp only
    go_simp
    try omega
  refine StepsAt.cons _ rfl (fun u' W K' hJ hd hK => ?_) StepsAt.nil
  · have d13 : u' 13 = .string ((⟨#[40]⟩ : ByteArray) ++ (⟨j.toArray⟩ : ByteArray) ++ (⟨#[41, 32, 45, 62, 32]⟩ : ByteArray) ++ (⟨tx.toArray⟩ : ByteArray)) := hd 13 (by kernel_rfl)
    refine step_value (v := .string ((⟨#[40]⟩ : ByteArray) ++ (⟨j.toArray⟩ : ByteArray) ++ (⟨#[41, 32, 45, 62, 32]⟩ : ByteArray) ++ (⟨tx.toArray⟩ : ByteArray))) (W' := W) rfl ?_ (hK.out _ _ rfl hJ (Below.refl _ _))
    try dsimp only
    go_simp
    try omega
  intro u' W' hJ' hok
  try dsimp only
  rw [show u' 14 = .string ((⟨#[40]⟩ : ByteArray) ++ (⟨j.toArray⟩ : ByteArray) ++ (⟨#[41, 32, 45, 62, 32]⟩ : ByteArray) ++ (⟨tx.toArray⟩ : ByteArray)) from hok 14 (by decide)]
  clear hok
  go_wp2
  go_ret
  exact ⟨ret_text7 (by rw [HTJ.out, ← cat7, ← cat7, ← cat7]), below_next HB0.out hJ'⟩

theorem rtext_walk (t : Sh) : ∀ (q : Ptr) (w : World), ShAt w w.heap.size q t → right t = true → size t ≤ 400 →
    Calls Tryd.prog 37 #[.agg #[.int .i64 t.kind, .string ⟨t.of_.toArray⟩, .string ⟨t.name.toArray⟩, .slice q.A t.names.length q.c, .slice q.P t.parts.length q.d]] w fun e w' => e = .returned (.string ⟨(text t).toArray⟩) ∧ Below w.heap.size w w' := by
  induction t using Sh.ind with
  | h t ih =>
  intro q w hq hr hz
  have hf : Rt7 t := fun x hx q' w' h1 => ih x hx q' w' h1 (right_part hr hx) (by have := sizes_mem hx; rw [size_eq] at hz; omega)
  rcases fits_kinds (right_fits hr) with ⟨h1, h2, _, _⟩ | ⟨h, _⟩ | ⟨h, _⟩ | ⟨h, _⟩ | ⟨h, _⟩
  · have : t.kind = 1 ∨ t.kind = 2 ∨ t.kind = 3 ∨ t.kind = 4 := by omega
    rcases this with h | h | h | h
    · exact rtext_1 t q w hq hr hz hf h
    · exact rtext_2 t q w hq hr hz hf h
    · exact rtext_3 t q w hq hr hz hf h
    · exact rtext_4 t q w hq hr hz hf h
  · exact rtext_5 t q w hq hr hz hf h
  · rcases h with h | h
    · exact rtext_6 t q w hq hr hz hf h
    · exact rtext_7 t q w hq hr hz hf h
  · exact rtext_8 t q w hq hr hz hf h
  · by_cases ho : t.of_ = []
    · rcases h with h | h
      · exact rtext_9a t q w hq hr hz hf h ho
      · exact rtext_10a t q w hq hr hz hf h ho
    · rcases h with h | h
      · exact rtext_9b t q w hq hr hz hf h ho
      · exact rtext_10b t q w hq hr hz hf h ho

set_option maxRecDepth 100000 in
set_option maxHeartbeats 1000000 in
theorem rshow7_walk (t : Sh) (q : Ptr) (w : World) (hq : ShAt w w.heap.size q t) :
    Calls Tryd.prog 24 #[.agg #[.int .i64 t.kind, .string ⟨t.of_.toArray⟩, .string ⟨t.name.toArray⟩, .slice q.A t.names.length q.c, .slice q.P t.parts.length q.d]] w fun e w' => e = .returned (.tuple #[.string ⟨(show7 t).toArray⟩, .int .i64 (check t)]) ∧ Below w.heap.size w w' := by
  have hb0 := below_one w (.cells #[.int .i64 t.kind, .string ⟨t.of_.toArray⟩, .string ⟨t.name.toArray⟩, .slice q.A t.names.length q.c, .slice q.P t.parts.length q.d] 25)
  have HB := Lib.hid (box5_new w t q)
  have HB0 := Lib.hid hb0
  have HC := Lib.hid (rcheck_walk t q _ (hq.next hb0))
  have HQ := Lib.hid (hq.next hb0)
  obtain ⟨_, ⟨c0, c1, c2, c3, c4⟩, _⟩ := HB.out
  clear hb0 hq
  by_cases hc : check t = 0
  · have HS : Hid (show7 t = text t) := Lib.hid (by unfold show7; rw [if_pos hc])
    have HK := Lib.hid (check_ok hc)
    have HCK := Lib.hid hc
    have hcn : (check t == 0) = true := by rw [hc]; rfl
    have hcn2 : (check t != 0) = false := by rw [hc]; rfl
    rw [hc] at HC hcn hcn2 ⊢
    clear hc
    go_enter Tryd.func24, Tryd.ntmps24
    go_wp2_with fail
    refine HC.out.mono ?_
    rintro e w2 ⟨rfl, hb2⟩
    have HB2 := Lib.hid (HB.out.next hb2)
    have HBW := Lib.hid (below_next HB0.out hb2)
    have hr := rtext_walk t q w2 (HQ.out.next hb2) HK.out.2.2 HK.out.1
    have HR := Lib.hid hr
    clear hb2 hr HC c0 c1 c2 c3 c4
    obtain ⟨_, ⟨c0, c1, c2, c3, c4⟩, _⟩ := HB2.out
    go_wp2_with fail
    refine HR.out.mono ?_
    rintro e w' ⟨rfl, hb'⟩
    go_wp2
    go_ret2
    exact ⟨by rw [HS.out]; rfl, below_next HBW.out hb'⟩
  · have HS : Hid (show7 t = []) := Lib.hid (by unfold show7; rw [if_neg hc])
    have hcn : (check t == 0) = false := beq_eq_false_iff_ne.2 hc
    have hcn2 : (check t != 0) = true := by simp [bne, hcn]
    clear hc
    go_enter Tryd.func24, Tryd.ntmps24
    go_wp2_with fail
    refine HC.out.mono ?_
    rintro e w2 ⟨rfl, hb2⟩
    go_wp2
    go_ret2
    exact ⟨by rw [HS.out]; rfl, below_next HB0.out hb2⟩
end Go.Proofs.YtkehnmapnckdgaaDoor
