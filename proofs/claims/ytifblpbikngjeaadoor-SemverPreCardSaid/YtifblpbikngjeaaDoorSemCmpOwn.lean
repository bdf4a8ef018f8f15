/- The program's comparison: cmp.Or, numbers, parts, what stands behind the dash, Core, Cmp. -/
import Derived.Test.YtifblpbikngjeaaDoorSemOwn1
import Derived.Test.YtifblpbikngjeaaDoorSemCut
import Derived.Test.YtifblpbikngjeaaDoorSemRCmp
import Derived.Test.YtifblpbikngjeaaDoorSemLead
namespace Go.Proofs.YtifblpbikngjeaaDoor
open Go.RowKit
set_option linter.unusedVariables false

theorem flop {P : Program} {f : FuncId} {args : Array Value} {w : World} {v : Value} (h : Calls P f args w fun e w' => e = .returned v ∧ w' = w) : Calls P f args w fun e w' => e = .returned v ∧ w = w' :=
  h.mono fun _ _ ⟨he, hw⟩ => ⟨he, hw.symm⟩

theorem compare_walk (x y : Int) (w : World) : Calls Tryd.prog 35 #[.int .i64 x, .int .i64 y] w fun e w' => e = .returned (.int .i64 (ord x y)) ∧ w = w' :=
  flop (Any.cmp_Compare_int Tryd.lays122 x y w)

theorem compareBytes_three : ∀ a b : List UInt8, Lib.compareBytes a b = Sem.three a b
  | [], [] => by simp [Lib.compareBytes, Sem.three]
  | [], _ :: _ => by simp [Lib.compareBytes, Sem.three]
  | _ :: _, [] => by simp [Lib.compareBytes, Sem.three]
  | x :: a, y :: b => by
    rw [Lib.compareBytes, compareBytes_three a b]
    rw [Sem.three_cons (fun x => UInt8.lt_irrefl x)]
    by_cases h : x = y
    · subst h; rw [if_neg (UInt8.lt_irrefl x), if_neg (UInt8.lt_irrefl x), if_pos rfl]
    · rw [if_neg h]
      by_cases h1 : x < y
      · rw [if_pos h1, if_pos h1]
      · by_cases h2 : y < x
        · rw [if_neg h1, if_pos h2, if_neg h1, if_pos h2]
        · exact absurd (UInt8.le_antisymm (UInt8.not_lt.1 h2) (UInt8.not_lt.1 h1)) h

theorem strcmp_walk (a b : ByteArray) (w : World) : Calls Tryd.prog 66 #[.string a, .string b] w fun e w' => e = .returned (.int .i64 (Sem.three a.data.toList b.data.toList)) ∧ w = w' := by
  have := Any.strings_Compare Tryd.lays106 a b w
  rw [compareBytes_three] at this
  exact flop this

theorem trim_walk (s : ByteArray) (w : World) : Calls Tryd.prog 80 #[.string s, .string ⟨#[48]⟩] w fun e w' => e = .returned (.string ⟨(Sem.trim s.data.toList).toArray⟩) ∧ w = w' :=
  flop (Any.strings_TrimLeft_one Tryd.lays161 s 48 (by decide) w)

theorem trimL_walk (s : List UInt8) (w : World) : Calls Tryd.prog 80 #[.string ⟨s.toArray⟩, .string ⟨#[48]⟩] w fun e w' => e = .returned (.string ⟨(Sem.trim s).toArray⟩) ∧ w = w' := trim_walk ⟨s.toArray⟩ w
theorem strcmpL_walk (a b : List UInt8) (w : World) : Calls Tryd.prog 66 #[.string ⟨a.toArray⟩, .string ⟨b.toArray⟩] w fun e w' => e = .returned (.int .i64 (Sem.three a b)) ∧ w = w' := strcmp_walk ⟨a.toArray⟩ ⟨b.toArray⟩ w

/-- The first one that is not 0. -/
def orR : List Int → Int
  | [] => 0
  | x :: l => if x = 0 then orR l else x

theorem orR_drop {l : List Int} {k : Nat} (h : k < l.length) : orR (l.drop k) = if l[k] = 0 then orR (l.drop (k + 1)) else l[k] := by
  rw [List.drop_eq_getElem_cons h, orR]

set_option maxRecDepth 100000 in
theorem or_walk (A : Option Addr) (cap : Nat) (l : List Int) (w : World) (hA : Ints w w.heap.size A l) (hl : l.length ≤ 9223372036854775807) :
    Calls Tryd.prog 34 #[.slice A l.length cap] w fun e w' => e = .returned (.int .i64 (orR l)) ∧ w = w' := by
  go_enter Tryd.func34, Tryd.ntmps34
  go_wp2_with fail
  go_loop [8] (fun i => ∃ k : Nat, i = .int .i64 k ∧ k ≤ l.length ∧ Hid (orR l = orR (l.drop k))) (fun i => l.length - (intOf i).toNat)
  case atStart => exact ⟨0, rfl, Nat.zero_le _, Lib.hid rfl⟩
  case round =>
    obtain ⟨k, rfl, hk, HP⟩ := hrel
    by_cases hlt : k < l.length
    · rcases hA with hA | ⟨g, off, rfl, _, hc⟩
      · omega
      · have hcell := hc k hlt
        have hstep := orR_drop hlt
        obtain ⟨x, hx⟩ : ∃ x, x = l[k] := ⟨_, rfl⟩
        rw [← hx] at hcell hstep
        clear hc hx
        by_cases hx0 : x = 0
        · subst hx0
          have HN : Hid (orR l = orR (l.drop (k + 1))) := Lib.hid (by rw [HP.out, hstep, if_pos rfl])
          clear hstep
          go_wp2
          go_round
          case rel => exact ⟨k + 1, by go_num, by omega, HN⟩
          case measure => simp [intOf]; omega
        · have hd : (x != 0) = true := by rw [bne_iff_ne]; exact hx0
          have HN : Hid (orR l = x) := Lib.hid (by rw [HP.out, hstep, if_neg hx0])
          clear hstep
          go_wp2
          go_ret
          exact ⟨by rw [HN.out]; rfl, rfl⟩
    · have HN : Hid (orR l = 0) := Lib.hid (by rw [HP.out, List.drop_eq_nil_of_le (by omega)]; rfl)
      go_wp2
      go_ret
      exact ⟨by rw [HN.out]; rfl, rfl⟩

set_option maxRecDepth 100000 in
set_option maxHeartbeats 1000000 in
theorem cmpNumber_walk (a b : List UInt8) (ha : a.length ≤ 1000000) (hb : b.length ≤ 1000000) (hda : Sem.digits a = true) (hdb : Sem.digits b = true) (w : World) :
    Calls Tryd.prog 65 #[.string ⟨a.toArray⟩, .string ⟨b.toArray⟩] w fun e w' => e = .returned (.int .i64 (Sem.cmpPart a b)) ∧ Below w.heap.size w w' := by
  have HE : Hid (orR [ord (Sem.trim a).length (Sem.trim b).length, Sem.three (Sem.trim a) (Sem.trim b)] = Sem.cmpPart a b) := Lib.hid (by
    rw [Sem.cmpPart_trim hda hdb]
    by_cases h1 : (Sem.trim a).length < (Sem.trim b).length
    · have e : ord (Sem.trim a).length (Sem.trim b).length = -1 := by unfold ord; rw [if_pos (by omega)]
      rw [e, if_pos h1]; rfl
    · rw [if_neg h1]
      by_cases h2 : (Sem.trim b).length < (Sem.trim a).length
      · have e : ord (Sem.trim a).length (Sem.trim b).length = 1 := by unfold ord; rw [if_neg (by omega), if_pos (by omega)]
        rw [e, if_pos h2]; rfl
      · have e : ord (Sem.trim a).length (Sem.trim b).length = 0 := by unfold ord; rw [if_neg (by omega), if_neg (by omega)]
        rw [e, if_neg h2, orR, if_pos rfl, orR, orR]
        split
        · rename_i h; exact h.symm
        · rfl)
  have hla : (Sem.trim a).length ≤ 1000000 := Nat.le_trans (List.dropWhile_sublist _).length_le ha
  have hlb : (Sem.trim b).length ≤ 1000000 := Nat.le_trans (List.dropWhile_sublist _).length_le hb
  have sA : (⟨(Sem.trim a).toArray⟩ : ByteArray).size = (Sem.trim a).length := size_list _
  have sB : (⟨(Sem.trim b).toArray⟩ : ByteArray).size = (Sem.trim b).length := size_list _
  clear hda hdb
  go_enter Tryd.func65, Tryd.ntmps65
  go_wp2_with (first | (go_at_call 80; refine (trimL_walk _ _).mono ?_; rintro e w' ⟨rfl, rfl⟩) | (go_at_call 35; refine (compare_walk _ _ _).mono ?_; rintro e w' ⟨rfl, rfl⟩) | (go_at_call 66; refine (strcmpL_walk _ _ _).mono ?_; rintro e w' ⟨rfl, rfl⟩))
  have hO := or_walk (some ⟨w.heap.size, 0, none⟩) 2 [ord (Sem.trim a).length (Sem.trim b).length, Sem.three (Sem.trim a) (Sem.trim b)] _ (ints_lit w [ord (Sem.trim a).length (Sem.trim b).length, Sem.three (Sem.trim a) (Sem.trim b)] (cs := #[Value.int IntKind.i64 (ord (Sem.trim a).length (Sem.trim b).length), Value.int IntKind.i64 (Sem.three (Sem.trim a) (Sem.trim b))]) rfl) (by simp)
  refine hO.mono ?_
  rintro e w2 ⟨rfl, rfl⟩
  go_wp2
  go_ret
  exact ⟨by rw [← HE.out]; rfl, below_one _ _⟩

set_option maxRecDepth 100000 in
theorem cmpPart_walk (a b : List UInt8) (ha : a.length ≤ 1000000) (hb : b.length ≤ 1000000) (w : World) :
    Calls Tryd.prog 50 #[.string ⟨a.toArray⟩, .string ⟨b.toArray⟩] w fun e w' => e = .returned (.int .i64 (Sem.cmpPart a b)) ∧ Below w.heap.size w w' := by
  have hN : ∀ (x : List UInt8) (hx : x.length ≤ 1000000) (w : World), Calls Tryd.prog 48 #[.string ⟨x.toArray⟩] w fun e w' => e = .returned (.bool (Sem.digits x)) ∧ w = w' := fun x hx w => isNumber_walk ⟨x.toArray⟩ (by rw [size_list]; omega) w
  cases hda : Sem.digits a
  · cases hdb : Sem.digits b
    · have HE := Lib.hid (Sem.cmpPart_nn hda hdb)
      have HA := Lib.hid hda
      have HB := Lib.hid hdb
      clear hda hdb
      go_enter Tryd.func50, Tryd.ntmps50
      go_wp2_with fail
      refine (hN a ha _).mono ?_
      rintro e w' ⟨he, rfl⟩
      rw [HA.out] at he; subst he
      go_wp2_with fail
      refine (hN b hb _).mono ?_
      rintro e w' ⟨he, rfl⟩
      rw [HB.out] at he; subst he
      go_wp2_with fail
      refine (strcmpL_walk _ _ _).mono ?_
      rintro e w' ⟨rfl, rfl⟩
      go_wp2
      go_ret
      exact ⟨by rw [HE.out]; rfl, Below.refl _ _⟩
    · have HE := Lib.hid (Sem.cmpPart_nd hda hdb)
      have HA := Lib.hid hda
      have HB := Lib.hid hdb
      clear hda hdb
      go_enter Tryd.func50, Tryd.ntmps50
      go_wp2_with fail
      refine (hN a ha _).mono ?_
      rintro e w' ⟨he, rfl⟩
      rw [HA.out] at he; subst he
      go_wp2_with fail
      refine (hN b hb _).mono ?_
      rintro e w' ⟨he, rfl⟩
      rw [HB.out] at he; subst he
      go_wp2
      go_ret
      exact ⟨by rw [HE.out]; rfl, Below.refl _ _⟩
  · cases hdb : Sem.digits b
    · have HE := Lib.hid (Sem.cmpPart_dn hda hdb)
      have HA := Lib.hid hda
      have HB := Lib.hid hdb
      clear hda hdb
      go_enter Tryd.func50, Tryd.ntmps50
      go_wp2_with fail
      refine (hN a ha _).mono ?_
      rintro e w' ⟨he, rfl⟩
      rw [HA.out] at he; subst he
      go_wp2_with fail
      refine (hN b hb _).mono ?_
      rintro e w' ⟨he, rfl⟩
      rw [HB.out] at he; subst he
      go_wp2
      go_ret
      exact ⟨by rw [HE.out]; rfl, Below.refl _ _⟩
    · have HC := Lib.hid (fun w => cmpNumber_walk a b ha hb hda hdb w)
      have HA := Lib.hid hda
      have HB := Lib.hid hdb
      clear hda hdb
      go_enter Tryd.func50, Tryd.ntmps50
      go_wp2_with fail
      refine (hN a ha _).mono ?_
      rintro e w' ⟨he, rfl⟩
      rw [HA.out] at he; subst he
      go_wp2_with fail
      refine (hN b hb _).mono ?_
      rintro e w' ⟨he, rfl⟩
      rw [HB.out] at he; subst he
      go_wp2_with fail
      refine (HC.out _).mono ?_
      rintro e w2 ⟨rfl, hb2⟩
      go_wp2
      go_ret
      exact ⟨rfl, hb2⟩
end Go.Proofs.YtifblpbikngjeaaDoor
