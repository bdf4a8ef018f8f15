/- Decode, of the program and of the document, tells what Utf.Reads says. -/
import Derived.Test.YticfgdedlleapaaUtfPFirst
namespace Go.Proofs.Yticfgdedlleapaa
open Go.RowKit
set_option linter.unusedVariables false

/-- What Decode hands back. -/
def Decoded (ps : List Int) (rest : List UInt8) (w : World) (e : Ending) (w' : World) : Prop :=
  ∃ (A : Option Addr) (cap : Nat) (zs : List Int) (f : Value), e = .returned (.tuple #[.slice A zs.length cap, f]) ∧ Ints w' w'.heap.size A zs ∧ (A = none → zs.length = 0 ∧ cap = 0) ∧ Below w.heap.size w w' ∧
    ((rest = [] ∧ zs = ps ∧ f = .agg #[.int .i64 0, .int .i64 0]) ∨ (rest ≠ [] ∧ zs = [] ∧ f = .agg #[.int .i64 30, .int .i64 (Utf.enc ps).length]))

theorem cell_of_below {W w : World} {b o : Nat} (hb : Below W.heap.size W w) (h : b < W.heap.size) : w.cell? ⟨b, o, none⟩ = W.cell? ⟨b, o, none⟩ ∧ w.frozen? ⟨b, o, none⟩ = W.frozen? ⟨b, o, none⟩ :=
  ⟨hb.cell (p := ⟨b, o, none⟩) h, hb.frozen (p := ⟨b, o, none⟩) h⟩

set_option maxRecDepth 100000 in
set_option maxHeartbeats 1000000 in
theorem decode_walk (s : ByteArray) (hs : s.size ≤ 1000000000) (ps : List Int) (rest : List UInt8) (hR : Utf.Reads s.data.toList ps rest) (w : World) :
    Calls Try.prog 10 #[.string s] w (Decoded ps rest w) := by
  have hz := Lib.hid (Lib.size_eq s)
  obtain ⟨i0, hi, hz0, hz1, hz2⟩ := info_parts (P := Try.prog) (e := 3) (z := .int .i64 0) (size := 1) (bytes := 8) (by kernel_rfl)
  have hcount : ps.length ≤ s.size := by
    have h1 := Utf.enc_count ps
    have h2 := (Utf.reads_end hR).2
    rw [← hz.out] at h2
    omega
  go_enter Try.func10, Try.ntmps10
  go_wp2_with fail
  generalize hW1 : w.alloc (Obj.cells #[Value.int IntKind.i64 0, Value.int IntKind.i64 0] 26) = W1
  have hf0 : Below w.heap.size w W1 := by rw [← hW1]; exact (Below.refl _ _).alloc (Nat.le_refl _) _
  have hf1 : w.heap.size < W1.heap.size := by rw [← hW1]; simp
  have HC : Hid (W1.cell? ⟨w.heap.size, 0, none⟩ = some (.int .i64 0) ∧ W1.cell? ⟨w.heap.size, 1, none⟩ = some (.int .i64 0) ∧ W1.frozen? ⟨w.heap.size, 0, none⟩ = false ∧ W1.frozen? ⟨w.heap.size, 1, none⟩ = false) := by
    rw [← hW1]
    exact Lib.hid ⟨by simp [go_sem], by simp [go_sem], by simp [go_sem], by simp [go_sem]⟩
  clear hW1
  go_loopw [4, 5] (fun v i wr => ∃ k a : Nat, i = .int .i64 a ∧ k ≤ ps.length ∧ Hid (a = (Utf.enc (ps.take k)).length) ∧ wr.ownsRow W1.heap.size 3 1 v k ((ps.take k).map (Value.int .i64)) ∧ Below W1.heap.size W1 wr)
    (fun _ i _ => s.size - (intOf i).toNat)
  case atStart => exact ⟨0, 0, rfl, Nat.zero_le _, Lib.hid rfl, World.ownsRow_nil _ _ _ _, Below.refl _ _⟩
  case round =>
    obtain ⟨k, a, rfl, hk, HA, hown, hb⟩ := hrel
    have hsz := hb.size
    by_cases hlt : k < ps.length
    · obtain ⟨h1, h2, h3⟩ := Utf.reads_at hR k hlt
      rw [← HA.out] at h1 h3
      rw [← hz.out] at h3
      obtain ⟨hw1, hw2⟩ := Utf.width_pos ps[k]
      have hak : a < s.size := by omega
      obtain ⟨x, hx⟩ : ∃ x, x = ps[k] := ⟨_, rfl⟩
      have HX := Lib.hid hx
      rw [← hx] at h1 h2 h3 hw1 hw2
      have HN : Hid (a + Utf.width x = (Utf.enc (ps.take (k + 1))).length) := Lib.hid (by rw [h2, List.length_append, Utf.bytes_length, ← HA.out])
      have H1 := Lib.hid h1
      clear h1 h2 hx
      obtain ⟨r, hsl, hr1, hr2, hr3, _, _⟩ := rest_of s a hak
      have HR1 := Lib.hid hr1
      clear hr1
      have hd0 : ((Utf.width x : Int) == 0) = false := by rw [beq_eq_false_iff_ne]; omega
      have HT : Hid ((ps.take (k + 1)).map (Value.int .i64) = (ps.take k).map (Value.int .i64) ++ [.int .i64 x]) := Lib.hid (by rw [List.take_succ_eq_append_getElem hlt, List.map_append, HX.out]; rfl)
      go_wp2_with fail
      refine (first_walk r hr3 (by omega) _).mono ?_
      rintro e w2 ⟨he, rfl⟩
      have hown2 := hown
      have hb3 := hb
      have hsz3 := hsz
      rw [HR1.out, H1.out, duo] at he
      subst he
      go_wp2_with (at_builtin; refine wpList_append_own _ rfl _ _ 23 rfl W1.heap.size 3 i0 (.int .i64 0) 1 8 Try.underlying23 hi hz0 hz1 hz2 rfl (by decide) _ _ _ rfl (hown2.alloc _) ⟨wr.heap.size, 0, none⟩ 1 1 [.int .i64 x] rfl rfl ?c1 ?c2 ?c3 ?c4 ?c5 ?_)
      case c1 =>
        intro i u hu
        match i, hu with
        | 0, hu => simp at hu; subst hu; simp [Addr.add]
      case c2 => intro u hu; simp at hu; subst hu; rfl
      case c3 => unfold maxLen; omega
      case c4 => omega
      case c5 => simp; omega
      intro v' w3 hown3 hgrow _
      go_wp2
      go_roundw
      case rel =>
        refine ⟨k + 1, a + Utf.width x, by go_num, by omega, HN, ?_, (hb3.alloc hsz3 _).grown hgrow (by simp; omega) (fun k hk => (hown2.lt k hk).1)⟩
        rw [HT.out, List.map_take]
        exact hown3
      case measure => simp [intOf]; omega
    · have hkl : k = ps.length := by omega
      have HP : Hid (ps.take k = ps) := Lib.hid (List.take_of_length_le (by omega))
      rw [HP.out] at HA hown
      obtain ⟨h1, h2⟩ := Utf.reads_end hR
      rw [← hz.out, ← HA.out] at h2
      rw [← HA.out] at h1
      have H1 := Lib.hid h1
      clear h1
      by_cases hrest : rest = []
      · have hae : ¬ a < s.size := by rw [hrest, List.length_nil] at h2; omega
        obtain ⟨hc0, hc2⟩ := cell_of_below (o := 0) hb hf1
        obtain ⟨hc1, hc3⟩ := cell_of_below (o := 1) hb hf1
        obtain ⟨g0, g1, g2, g3⟩ := HC.out
        rw [g0] at hc0
        rw [g1] at hc1
        rw [g2] at hc2
        rw [g3] at hc3
        obtain ⟨A, cap, hv, hI, hAn⟩ := ints_of_own (ownsRow_setCell_below (a := ⟨w.heap.size, 1, none⟩) (ownsRow_setCell_below (a := ⟨w.heap.size, 0, none⟩) hown hf1 (.int .i64 0)) hf1 (.int .i64 0))
        subst hkl
        clear g0 g1 g2 g3
        go_wp2
        refine bodyPost_ret (v := .tuple #[.slice A ps.length cap, .agg #[.int .i64 0, .int .i64 0]]) (by simp [results, Try.results10, go_sem, hv, hc0, hc1]) rfl ?_
        have hbb : Below w.heap.size w wr := hf0.trans (hb.mono (Nat.le_of_lt hf1))
        have hb2 : Below w.heap.size w ((wr.setCell ⟨w.heap.size, 0, none⟩ (.int .i64 0)).setCell ⟨w.heap.size, 1, none⟩ (.int .i64 0)) := (hbb.setCell (Nat.le_refl _) _).setCell (Nat.le_refl _) _
        exact ⟨A, cap, ps, _, rfl, hI, hAn, hb2, Or.inl ⟨hrest, rfl, rfl⟩⟩
      · have hae : a < s.size := by have := List.length_pos_iff.2 hrest; omega
        obtain ⟨r, hsl, hr1, hr2, hr3, _, _⟩ := rest_of s a hae
        have HR1 := Lib.hid hr1
        clear hr1
        go_wp2_with fail
        refine (first_walk r hr3 (by omega) _).mono ?_
        rintro e w2 ⟨he, rfl⟩
        have hb3 := hb
        rw [HR1.out, H1.out, duo] at he
        subst he
        obtain ⟨hc0, hc2⟩ := cell_of_below (o := 0) hb3 hf1
        obtain ⟨hc1, hc3⟩ := cell_of_below (o := 1) hb3 hf1
        obtain ⟨g0, g1, g2, g3⟩ := HC.out
        rw [g0] at hc0
        rw [g1] at hc1
        rw [g2] at hc2
        rw [g3] at hc3
        clear g0 g1 g2 g3
        go_wp2
        refine bodyPost_ret (v := .tuple #[.slice none 0 0, .agg #[.int .i64 30, .int .i64 a]]) (by simp [results, Try.results10, go_sem, hc0, hc1]) rfl ?_
        have hbb : Below w.heap.size w wr := hf0.trans (hb3.mono (Nat.le_of_lt hf1))
        refine ⟨none, 0, [], _, rfl, Or.inl rfl, fun _ => ⟨rfl, rfl⟩, (hbb.setCell (Nat.le_refl _) _).setCell (Nat.le_refl _) _, Or.inr ⟨hrest, rfl, by rw [HA.out]⟩⟩

set_option maxRecDepth 100000 in
set_option maxHeartbeats 1000000 in
theorem rdecode_walk (s : ByteArray) (hs : s.size ≤ 1000000000) (ps : List Int) (rest : List UInt8) (hR : Utf.Reads s.data.toList ps rest) (w : World) :
    Calls Try.prog 11 #[.string s] w (Decoded ps rest w) := by
  have hz := Lib.hid (Lib.size_eq s)
  obtain ⟨i0, hi, hz0, hz1, hz2⟩ := info_parts (P := Try.prog) (e := 3) (z := .int .i64 0) (size := 1) (bytes := 8) (by kernel_rfl)
  have hcount : ps.length ≤ s.size := by
    have h1 := Utf.enc_count ps
    have h2 := (Utf.reads_end hR).2
    rw [← hz.out] at h2
    omega
  go_enter Try.func11, Try.ntmps11
  go_wp2_with fail
  generalize hW1 : w.alloc (Obj.cells #[Value.int IntKind.i64 0, Value.int IntKind.i64 0] 26) = W1
  have hf0 : Below w.heap.size w W1 := by rw [← hW1]; exact (Below.refl _ _).alloc (Nat.le_refl _) _
  have hf1 : w.heap.size < W1.heap.size := by rw [← hW1]; simp
  have HC : Hid (W1.cell? ⟨w.heap.size, 0, none⟩ = some (.int .i64 0) ∧ W1.cell? ⟨w.heap.size, 1, none⟩ = some (.int .i64 0) ∧ W1.frozen? ⟨w.heap.size, 0, none⟩ = false ∧ W1.frozen? ⟨w.heap.size, 1, none⟩ = false) := by
    rw [← hW1]
    exact Lib.hid ⟨by simp [go_sem], by simp [go_sem], by simp [go_sem], by simp [go_sem]⟩
  clear hW1
  go_loopw [4, 5] (fun v i wr => ∃ k a : Nat, i = .int .i64 a ∧ k ≤ ps.length ∧ Hid (a = (Utf.enc (ps.take k)).length) ∧ wr.ownsRow W1.heap.size 3 1 v k ((ps.take k).map (Value.int .i64)) ∧ Below W1.heap.size W1 wr)
    (fun _ i _ => s.size - (intOf i).toNat)
  case atStart => exact ⟨0, 0, rfl, Nat.zero_le _, Lib.hid rfl, World.ownsRow_nil _ _ _ _, Below.refl _ _⟩
  case round =>
    obtain ⟨k, a, rfl, hk, HA, hown, hb⟩ := hrel
    have hsz := hb.size
    by_cases hlt : k < ps.length
    · obtain ⟨h1, h2, h3⟩ := Utf.reads_at hR k hlt
      rw [← HA.out] at h1 h3
      rw [← hz.out] at h3
      obtain ⟨hw1, hw2⟩ := Utf.width_pos ps[k]
      have hak : a < s.size := by omega
      obtain ⟨x, hx⟩ : ∃ x, x = ps[k] := ⟨_, rfl⟩
      have HX := Lib.hid hx
      rw [← hx] at h1 h2 h3 hw1 hw2
      have HN : Hid (a + Utf.width x = (Utf.enc (ps.take (k + 1))).length) := Lib.hid (by rw [h2, List.length_append, Utf.bytes_length, ← HA.out])
      have H1 := Lib.hid h1
      clear h1 h2 hx
      obtain ⟨r, hsl, hr1, hr2, hr3, _, _⟩ := rest_of s a hak
      have HR1 := Lib.hid hr1
      clear hr1
      have hd0 : ((Utf.width x : Int) == 0) = false := by rw [beq_eq_false_iff_ne]; omega
      have HT : Hid ((ps.take (k + 1)).map (Value.int .i64) = (ps.take k).map (Value.int .i64) ++ [.int .i64 x]) := Lib.hid (by rw [List.take_succ_eq_append_getElem hlt, List.map_append, HX.out]; rfl)
      go_wp2_with fail
      refine (rfirst_walk r (by omega) _).mono ?_
      rintro e w2 ⟨he, hb2⟩
      have hown2 := hown.kept (grown_of_below hb2 (Nat.le_refl _) none) (by
        rcases hv : Value.ownBlock u4 with _ | x
        · exact Or.inl rfl
        · exact Or.inr (by simp))
      have hb3 := hb.trans (hb2.mono hsz)
      have hsz3 := hb3.size
      rw [HR1.out, H1.out, duo] at he
      subst he
      go_wp2_with (at_builtin; refine wpList_append_own _ rfl _ _ 23 rfl W1.heap.size 3 i0 (.int .i64 0) 1 8 Try.underlying23 hi hz0 hz1 hz2 rfl (by decide) _ _ _ rfl (hown2.alloc _) ⟨w2.heap.size, 0, none⟩ 1 1 [.int .i64 x] rfl rfl ?c1 ?c2 ?c3 ?c4 ?c5 ?_)
      case c1 =>
        intro i u hu
        match i, hu with
        | 0, hu => simp at hu; subst hu; simp [Addr.add]
      case c2 => intro u hu; simp at hu; subst hu; rfl
      case c3 => unfold maxLen; omega
      case c4 => omega
      case c5 => simp; omega
      intro v' w3 hown3 hgrow _
      go_wp2
      go_roundw
      case rel =>
        refine ⟨k + 1, a + Utf.width x, by go_num, by omega, HN, ?_, (hb3.alloc hsz3 _).grown hgrow (by simp; omega) (fun k hk => (hown2.lt k hk).1)⟩
        rw [HT.out, List.map_take]
        exact hown3
      case measure => simp [intOf]; omega
    · have hkl : k = ps.length := by omega
      have HP : Hid (ps.take k = ps) := Lib.hid (List.take_of_length_le (by omega))
      rw [HP.out] at HA hown
      obtain ⟨h1, h2⟩ := Utf.reads_end hR
      rw [← hz.out, ← HA.out] at h2
      rw [← HA.out] at h1
      have H1 := Lib.hid h1
      clear h1
      by_cases hrest : rest = []
      · have hae : ¬ a < s.size := by rw [hrest, List.length_nil] at h2; omega
        obtain ⟨hc0, hc2⟩ := cell_of_below (o := 0) hb hf1
        obtain ⟨hc1, hc3⟩ := cell_of_below (o := 1) hb hf1
        obtain ⟨g0, g1, g2, g3⟩ := HC.out
        rw [g0] at hc0
        rw [g1] at hc1
        rw [g2] at hc2
        rw [g3] at hc3
        obtain ⟨A, cap, hv, hI, hAn⟩ := ints_of_own (ownsRow_setCell_below (a := ⟨w.heap.size, 1, none⟩) (ownsRow_setCell_below (a := ⟨w.heap.size, 0, none⟩) hown hf1 (.int .i64 0)) hf1 (.int .i64 0))
        subst hkl
        clear g0 g1 g2 g3
        go_wp2
        refine bodyPost_ret (v := .tuple #[.slice A ps.length cap, .agg #[.int .i64 0, .int .i64 0]]) (by simp [results, Try.results11, go_sem, hv, hc0, hc1]) rfl ?_
        have hbb : Below w.heap.size w wr := hf0.trans (hb.mono (Nat.le_of_lt hf1))
        have hb2 : Below w.heap.size w ((wr.setCell ⟨w.heap.size, 0, none⟩ (.int .i64 0)).setCell ⟨w.heap.size, 1, none⟩ (.int .i64 0)) := (hbb.setCell (Nat.le_refl _) _).setCell (Nat.le_refl _) _
        exact ⟨A, cap, ps, _, rfl, hI, hAn, hb2, Or.inl ⟨hrest, rfl, rfl⟩⟩
      · have hae : a < s.size := by have := List.length_pos_iff.2 hrest; omega
        obtain ⟨r, hsl, hr1, hr2, hr3, _, _⟩ := rest_of s a hae
        have HR1 := Lib.hid hr1
        clear hr1
        go_wp2_with fail
        refine (rfirst_walk r (by omega) _).mono ?_
        rintro e w2 ⟨he, hb2⟩
        have hb3 := hb.trans (hb2.mono hsz)
        rw [HR1.out, H1.out, duo] at he
        subst he
        obtain ⟨hc0, hc2⟩ := cell_of_below (o := 0) hb3 hf1
        obtain ⟨hc1, hc3⟩ := cell_of_below (o := 1) hb3 hf1
        obtain ⟨g0, g1, g2, g3⟩ := HC.out
        rw [g0] at hc0
        rw [g1] at hc1
        rw [g2] at hc2
        rw [g3] at hc3
        clear g0 g1 g2 g3
        go_wp2
        refine bodyPost_ret (v := .tuple #[.slice none 0 0, .agg #[.int .i64 30, .int .i64 a]]) (by simp [results, Try.results11, go_sem, hc0, hc1]) rfl ?_
        have hbb : Below w.heap.size w w2 := hf0.trans (hb3.mono (Nat.le_of_lt hf1))
        refine ⟨none, 0, [], _, rfl, Or.inl rfl, fun _ => ⟨rfl, rfl⟩, (hbb.setCell (Nat.le_refl _) _).setCell (Nat.le_refl _) _, Or.inr ⟨hrest, rfl, by rw [HA.out]⟩⟩
end Go.Proofs.Yticfgdedlleapaa
