/- The document's Parts: a text at its dots. -/
import Derived.Test.YtifblpbikngjeaaDoorSemSmall
import Derived.Test.YtifblpbikngjeaaDoorStrs
import Derived.Deep.AppendLies
import Derived.StillTailTactics
import Derived.IntWalk
namespace Go.Proofs.YtifblpbikngjeaaDoor
open Go.RowKit
set_option linter.unusedVariables false

/-- Texts as strings. -/
def strs (l : List (List UInt8)) : List ByteArray := l.map fun p => ⟨p.toArray⟩

theorem piece_one (s : ByteArray) (k : Nat) (h : k < s.size) (W : World) :
    (Instr.slice 9 (.string s) (some (.int .i64 k)) (some (.int .i64 (k + 1))) none).run Tryd.prog W = .ok (.string ⟨[s[k]'h].toArray⟩) W := by
  have := slice_mid s k (k + 1) (by omega) (by omega) W
  rw [this, show ((k : Int) + 1).toNat - k = 1 from by omega]
  have hk : k < s.data.toList.length := by rw [← Lib.size_eq]; exact h
  have e : (s.data.toList.drop k).take 1 = [s[k]'h] := by
    rw [List.drop_eq_getElem_cons hk]; rfl
  rw [e]

set_option maxRecDepth 100000 in
set_option maxHeartbeats 1000000 in
theorem parts_walk (s : ByteArray) (hs : s.size ≤ 1000000) (w : World) :
    Calls Tryd.prog 31 #[.string s] w fun e w' => ∃ A cap, e = .returned (.slice A (strs (Sem.parts s.data.toList)).length cap) ∧ Strs w' w'.heap.size A (strs (Sem.parts s.data.toList)) ∧ Below w.heap.size w w' := by
  obtain ⟨i0, hi, hz0, hz1, hz2⟩ := info_parts (P := Tryd.prog) (e := 9) (z := .string ByteArray.empty) (size := 1) (bytes := 16) (by kernel_rfl)
  go_enter Tryd.func31, Tryd.ntmps31
  go_wp2_with fail
  go_loopw [3, 4] (fun v i wr => ∃ (k : Nat) (ps : List (List UInt8)), i = .int .i64 k ∧ k ≤ s.size ∧ Hid (ps = Sem.parts (s.data.toList.take k)) ∧ ps.length ≤ k + 1 ∧
      wr.ownsRow w.heap.size 9 1 v ps.length ((strs ps).map Value.string) ∧ Below w.heap.size w wr)
    (fun _ i _ => s.size - (intOf i).toNat)
  case atStart =>
    refine ⟨0, [[]], rfl, Nat.zero_le _, Lib.hid rfl, by simp, ?_, (Below.refl _ _).alloc (Nat.le_refl _) _⟩
    exact World.ownsRow_lit (base := w.heap.size) (e := 9) (size := 1) w #[.string ByteArray.empty] 1 (Nat.le_refl _) (by simp [maxLen]) rfl
  case round =>
    obtain ⟨k, ps, rfl, hk, HP, hpl, hown, hb⟩ := hrel
    have hsz := hb.size
    by_cases hlt : k < s.size
    · have hkl : k < s.data.toList.length := by rw [← Lib.size_eq]; exact hlt
      by_cases hc : (s[k]'hlt).toNat = 46
      · have hd : (((s[k]'hlt).toNat : Int) == 46) = true := by rw [beq_iff_eq]; omega
        have HN : Hid (ps ++ [[]] = Sem.parts (s.data.toList.take (k + 1))) := Lib.hid (by
          rw [List.take_succ_eq_append_getElem hkl, show s.data.toList[k] = 46 from UInt8.toNat_inj.1 hc, Sem.parts_snoc_dot, HP.out])
        clear hc
        go_wp2_with (at_builtin; refine wpList_append_own _ rfl _ _ 51 rfl w.heap.size 9 i0 (.string ByteArray.empty) 1 16 Tryd.underlying51 hi hz0 hz1 hz2 rfl (by decide) _ _ _ rfl (hown.alloc _) ⟨wr.heap.size, 0, none⟩ 1 1 [.string ByteArray.empty] rfl rfl ?c1 ?c2 ?c3 ?c4 ?c5 ?_)
        case c1 =>
          intro i u hu
          match i, hu with
          | 0, hu => simp at hu; subst hu; simp [Addr.add]; rfl
        case c2 => intro u hu; simp at hu; subst hu; rfl
        case c3 => unfold maxLen; omega
        case c4 => omega
        case c5 => simp; omega
        intro v' w3 hown3 hgrow _
        go_wp2
        go_roundw
        case rel =>
          refine ⟨k + 1, ps ++ [[]], by go_num, by omega, HN, by simp; omega, ?_, (hb.alloc hsz _).grown hgrow (by simp; omega) (fun k hk => (hown.lt k hk).1)⟩
          rw [List.length_append, strs, List.map_append, List.map_append]
          exact hown3
        case measure => simp [intOf]; omega
      · have hd : (((s[k]'hlt).toNat : Int) == 46) = false := by rw [beq_eq_false_iff_ne]; omega
        obtain ⟨qs, p, hq1, hq2⟩ := Sem.parts_snoc (d := s[k]'hlt) (fun h => hc (by rw [h]; rfl)) (s.data.toList.take k)
        have HN : Hid (qs ++ [p ++ [s[k]'hlt]] = Sem.parts (s.data.toList.take (k + 1))) := Lib.hid (by
          rw [List.take_succ_eq_append_getElem hkl]; exact hq2.symm)
        rw [← HP.out] at hq1
        subst hq1
        have hpl2 : p.length ≤ k := by
          have := Sem.parts_len (s.data.toList.take k) p (by rw [← HP.out]; simp)
          rw [List.length_take] at this; omega
        have hln : (qs ++ [p]).length = qs.length + 1 := by simp
        have hxs : (strs (qs ++ [p])).map Value.string = (strs qs).map Value.string ++ [.string ⟨p.toArray⟩] := by simp [strs]
        have hsl : ((strs qs).map Value.string).length = qs.length := by simp [strs]
        rw [hln, hxs] at hown
        rw [hln] at hpl
        obtain ⟨g, cap, rfl, hg, _⟩ := hown.form (by omega)
        have hcell := hown.cellAt qs.length (by omega)
        rw [List.getElem?_append_right (by omega), hsl, Nat.sub_self] at hcell
        have hfr := hown.frozenAt qs.length
        have hst := hown.stored qs.length (.string ⟨(p ++ [s[k]'hlt]).toArray⟩)
        have hset : ((strs qs).map Value.string ++ [Value.string ⟨p.toArray⟩]).set qs.length (.string ⟨(p ++ [s[k]'hlt]).toArray⟩) = (strs (qs ++ [p ++ [s[k]'hlt]])).map Value.string := by
          rw [List.set_append_right _ _ (by omega), hsl, Nat.sub_self]; simp [strs]
        rw [hset] at hst
        have HST := Lib.hid hst
        have hpc := piece_one s k hlt
        simp only [List.getElem?_cons_zero] at hcell
        clear hst hset hxs hsl hln hc
        go_wp2_with fail
        have hw1 : IntKind.i64.wrap ((qs.length : Nat) : Int) = (qs.length : Int) := IntWalk.i64_in _ (by omega)
        have hw2 : IntKind.i64.wrap ((k : Int) + 1) = (k : Int) + 1 := IntWalk.i64_in _ (by omega)
        have hq2 : (qs.length : Int) < (qs.length : Int) + 1 := by omega
        have hsz2 : (⟨p.toArray⟩ : ByteArray).size + (⟨#[s[k]'hlt]⟩ : ByteArray).size ≤ 9223372036854775807 := by
          rw [size_list, show (⟨#[s[k]'hlt]⟩ : ByteArray).size = 1 from rfl]; omega
        have hcat : ∀ W : World, (Op.stringOp .add (⟨p.toArray⟩ : ByteArray) ⟨#[s[k]'hlt]⟩).run Tryd.prog W = .ok (.string ⟨(p ++ [s[k]'hlt]).toArray⟩) W := fun W => by
          rw [run_string_add_sum _ _ _ hsz2]
          exact congrArg (fun b => Result.ok (Value.string b) W) (tx_append p [s[k]'hlt])
        have hcat2 : ∀ W : World, (binOp .add 9 (.string ⟨p.toArray⟩) (.string ⟨#[s[k]'hlt]⟩)).run Tryd.prog W = .ok (.string ⟨(p ++ [s[k]'hlt]).toArray⟩) W := fun W => hcat W
        have hcell2 : ({ heap := wr.heap, tape := wr.tape, drawn := wr.drawn + 1, os := wr.os, output := wr.output } : World).cell? ⟨g, qs.length, none⟩ = some (.string ⟨p.toArray⟩) := hcell
        go_still_tail 17, (by kernel_rfl)
        change wpList _ _ _ _ _ wr.drew
        clear hw1 hw2 hcat hcat2 hcell2 hq2 hsz2 hpc
        go_wp2
        go_roundw
        case rel =>
          refine ⟨k + 1, qs ++ [p ++ [s[k]'hlt]], by go_num, by omega, HN, by simp; omega, ?_, ((hb.setCell (p := ⟨g, qs.length, none⟩) hg _).drew)⟩
          have hl2 : (qs ++ [p ++ [s[k]'hlt]]).length = qs.length + 1 := by simp
          rw [hl2]
          exact HST.out.1.drew
        case measure => simp [intOf]; omega
    · have HK : Hid (ps = Sem.parts s.data.toList) := Lib.hid (by rw [HP.out, List.take_of_length_le (by rw [← Lib.size_eq]; omega)])
      have hpl3 : ps.length = (strs ps).length := by simp [strs]
      rw [hpl3] at hown
      obtain ⟨A, cap, rfl, hS⟩ := strs_of_own hown
      have hpl4 := hpl3.symm
      go_wp2
      go_ret
      refine ⟨A, cap, ?_, ?_, hb⟩
      · rw [← HK.out]; rfl
      · rw [← HK.out]; exact hS
end Go.Proofs.YtifblpbikngjeaaDoor
