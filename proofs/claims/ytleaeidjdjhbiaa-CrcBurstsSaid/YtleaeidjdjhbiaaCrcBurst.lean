/- The walk of CrcBursts: a text in which bits within 32 of each other are turned has another sum. -/
import Derived.Test.YtleaeidjdjhbiaaCrcLaws
import Derived.Test.YtleaeidjdjhbiaaCrcBurstM
import Derived.Test.YtleaeidjdjhbiaaBytes
import Derived.Lib.ConvBytes
import Derived.IntWalk
namespace Go.Proofs.Ytleaeidjdjhbiaa
open Go.RowKit

/-- A row of bytes in one block, none of them frozen. -/
def BRow (W : World) (g : Nat) (l : List UInt8) : Prop := g < W.heap.size ∧ ∀ (j : Nat) (h : j < l.length), W.cell? ⟨g, j, none⟩ = some (.int .u8 (l[j]'h).toNat) ∧ W.frozen? ⟨g, j, none⟩ = false

theorem BRow.next {W W' : World} {g : Nat} {l : List UInt8} (h : BRow W g l) (hb : Below W.heap.size W W') : BRow W' g l :=
  ⟨Nat.lt_of_lt_of_le h.1 hb.size, fun j hj => ⟨(hb.cell (p := ⟨g, j, none⟩) h.1).trans (h.2 j hj).1, (hb.frozen (p := ⟨g, j, none⟩) h.1).trans (h.2 j hj).2⟩⟩

theorem brow_new (w : World) (s : ByteArray) : BRow (Lib.bytesWorld w 5 s) w.heap.size s.data.toList := by
  refine ⟨by rw [Lib.bytesWorld_size]; omega, fun j hj => ⟨?_, ?_⟩⟩
  · rw [Lib.bytesWorld_cell w 5 s j (by rw [Lib.size_eq]; exact hj)]
    simp [List.getD, List.getElem?_eq_getElem hj]
  · have h1 := Lib.bytesWorld_at_new w 5 s
    have h2 : s.data.toList.length ≤ (Lib.bytesCells w 5 s).size := by simp [Lib.bytesCells]
    simp [World.frozen?, h1]
    omega

theorem below_bytesWorld (w : World) (s : ByteArray) : Below w.heap.size w (Lib.bytesWorld w 5 s) := by
  have h := (Below.refl w.heap.size w).drew.alloc (Nat.le_refl _) (.cells (Lib.bytesCells w 5 s) 5)
  exact Lib.below_freeze h (p := ⟨w.heap.size, _, none⟩) (Nat.le_refl _) 1

theorem BRow.set {W : World} {g : Nat} {l : List UInt8} (h : BRow W g l) (j : Nat) (b : UInt8) (hj : j < l.length) : BRow (W.setCell ⟨g, j, none⟩ (.int .u8 b.toNat)) g (l.set j b) := by
  refine ⟨by simpa [World.setCell] using h.1, fun i hi => ⟨?_, ?_⟩⟩
  · rw [List.length_set] at hi
    by_cases e : j = i
    · subst e
      rw [World.cell?_setCell_same _ _ _ (h.2 j hj).1]
      simp
    · rw [World.cell?_setCell_other _ _ _ _ (by intro e2; injection e2 with _ e3; exact e e3), (h.2 i hi).1, List.getElem_set_ne e]
  · rw [List.length_set] at hi
    rw [World.frozen?_setCell]
    exact (h.2 i hi).2

theorem BRow.conv {W : World} {g n cap : Nat} {l : List UInt8} (h : BRow W g l) (hn : l.length = n) : (convert 30 9 (.slice (some ⟨g, 0, none⟩) n cap)).run Try.prog W = .ok (.string ⟨l.toArray⟩) W := by
  have hr := run_convert_bytes_arg (P := Try.prog) W 30 5 Try.underlying30 Try.underlying5 g 0 n cap (l.map fun b => (b.toNat : Int)) (by simpa using hn) (fun i hi => by
      rw [Nat.zero_add, (h.2 i (by omega)).1]
      have hi' : i < l.length := by omega
      simp [List.getD, hi']) 9 Try.underlying9
  rw [hr]
  have e : strOfNums (l.map fun b => (b.toNat : Int)) = ⟨l.toArray⟩ := by
    unfold strOfNums
    rw [List.map_map]
    congr 2
    conv => rhs; rw [← List.map_id l]
    apply List.map_congr_left
    intro b _
    simp
  rw [e]

theorem turn_byte (b : UInt8) (t : Nat) : bits .xor .u8 (b.toNat : Int) (2 ^ t % 256) = ((UInt8.ofNat (b.toNat ^^^ 2 ^ t)).toNat : Int) := by
  have hb := b.toNat_lt
  have h1 : ((2 : Int) ^ t % 256) = ((2 ^ t % 256 : Nat) : Int) := by rw [Int.natCast_emod, Int.natCast_pow]; rfl
  rw [h1, u8_xor_nat _ _ hb (Nat.mod_lt _ (by omega)), UInt8.toNat_ofNat']
  have h2 : (b.toNat ^^^ 2 ^ t) % 2 ^ 8 = b.toNat % 2 ^ 8 ^^^ 2 ^ t % 2 ^ 8 := Nat.xor_mod_two_pow
  rw [h2, Nat.mod_eq_of_lt hb]

theorem flip_set (l : List UInt8) (j : Nat) (h : j / 8 < l.length) : Crc.flip l j = l.set (j / 8) (UInt8.ofNat ((l[j / 8]'h).toNat ^^^ 2 ^ (j % 8))) := by
  unfold Crc.flip
  refine List.ext_getElem (by simp) fun i h1 h2 => ?_
  rw [List.getElem_modify, List.getElem_set]
  by_cases e : j / 8 = i
  · subst e
    simp
  · rw [if_neg e, if_neg e]

theorem turned_on (l : List UInt8) (p m k : Nat) (hb : m.testBit k = true) (hin : (p + k) / 8 < l.length) (hq : p / 8 + (p % 8 + k) / 8 < (Crc.turned l p m k).length) (b : UInt8) (he : b = (Crc.turned l p m k)[p / 8 + (p % 8 + k) / 8]'hq) :
    Crc.turned l p m (k + 1) = (Crc.turned l p m k).set (p / 8 + (p % 8 + k) / 8) (UInt8.ofNat (b.toNat ^^^ 2 ^ ((p + k) % 8))) := by
  have e1 : (p + k) / 8 = p / 8 + (p % 8 + k) / 8 := by omega
  rw [Crc.turned, if_pos ⟨hb, hin⟩, flip_set _ _ (by rw [e1]; exact hq), he]
  simp only [e1]

theorem turned_off (l : List UInt8) (p m k : Nat) (h : ¬ (m.testBit k = true ∧ (p + k) / 8 < l.length)) : Crc.turned l p m (k + 1) = Crc.turned l p m k := by rw [Crc.turned, if_neg h]
theorem met_on (n p m k : Nat) (hb : m.testBit k = true) (hin : (p + k) / 8 < n) : Crc.met n p m (k + 1) = true := by rw [Crc.met, if_pos ⟨hb, hin⟩]
theorem met_off (n p m k : Nat) (h : ¬ (m.testBit k = true ∧ (p + k) / 8 < n)) : Crc.met n p m (k + 1) = Crc.met n p m k := by rw [Crc.met, if_neg h]

theorem int_bne (a b : Nat) : ((a : Int) != (b : Int)) = (a != b) := by
  by_cases h : a = b
  · subst h; simp
  · rw [bne_iff_ne.2 h, bne_iff_ne.2 (by omega)]

theorem bit_val (m k : Nat) (hm : m < 4294967296) : bits .and .u32 ((m : Int) / 2 ^ k) 1 = ((m / 2 ^ k % 2 : Nat) : Int) := by
  have h1 : m / 2 ^ k ≤ m := Nat.div_le_self _ _
  have hq : (m : Int) / 2 ^ k = ((m / 2 ^ k : Nat) : Int) := by rw [Int.natCast_ediv, Int.natCast_pow]; rfl
  have := u32_and_nat (m / 2 ^ k) 1 (Nat.lt_of_le_of_lt h1 hm) (by omega)
  rw [nat_mask1] at this
  rw [hq]
  exact this

theorem bit_on (m k : Nat) (hm : m < 4294967296) (h : m.testBit k = true) : (bits .and .u32 ((m : Int) / 2 ^ k) 1 == 1) = true := by
  rw [Nat.testBit_eq_decide_div_mod_eq, decide_eq_true_eq] at h
  rw [bit_val m k hm, h]
  rfl

theorem bit_off (m k : Nat) (hm : m < 4294967296) (h : ¬ m.testBit k = true) : (bits .and .u32 ((m : Int) / 2 ^ k) 1 == 1) = false := by
  rw [Nat.testBit_eq_decide_div_mod_eq, decide_eq_true_eq] at h
  rw [bit_val m k hm, beq_eq_false_iff_ne]
  omega

set_option maxRecDepth 100000 in
set_option maxHeartbeats 2000000 in
theorem bursts_in (s : ByteArray) (p m : Nat) (w : World) (hs : s.size ≤ 100000) (hp : p ≤ 9223372036854775807) (hm : m < 4294967296) (hm0 : m ≠ 0) :
    Calls Try.prog 6 #[.string s, .int .i64 p, .int .u32 m] w fun e w' => e = .returned (.bool true) ∧ Below w.heap.size w w' := by
  have hd1 : decide ((100000 : Int) < (s.size : Int)) = false := by simp; omega
  have hd2 : ((m : Int) == 0) = false := by simpa using hm0
  have hcv := fun W => Lib.run_convert_string_bytes (P := Try.prog) W 9 30 5 s Try.underlying9 Try.underlying30 Try.underlying5
  have hr0 := brow_new w s
  have hb0 := below_bytesWorld w s
  go_enter Try.func6, Try.ntmps6
  go_wp2_with fail
  go_loopw [8, 9] (fun t i wr => ∃ k : Nat, i = .int .i64 k ∧ k ≤ 32 ∧ t = .bool (Crc.met s.data.toList.length p m k) ∧ BRow wr w.heap.size (Crc.turned s.data.toList p m k) ∧ Below w.heap.size w wr)
    (fun _ i _ => 32 - (intOf i).toNat)
  case atStart => exact ⟨0, rfl, by omega, rfl, hr0, hb0⟩
  case round =>
    clear hr0 hb0
    obtain ⟨k, rfl, hk, rfl, hr, hb⟩ := hrel
    by_cases hlt : k < 32
    · by_cases hbit : m.testBit k = true
      · have hB := bit_on m k hm hbit
        by_cases hin : (p + k) / 8 < s.size
        · have hi1 : (p : Int) / 8 < (s.size : Int) := by omega
          have hi2 : ((p : Int) % 8 + (k : Int)) / 8 < (s.size : Int) - (p : Int) / 8 := by omega
          have hq : p / 8 + (p % 8 + k) / 8 < (Crc.turned s.data.toList p m k).length := by rw [Crc.turned_length, ← Lib.size_eq]; omega
          have hcell := (hr.2 _ hq).1
          have hfz := (hr.2 _ hq).2
          obtain ⟨b, hb8⟩ : ∃ b, b = (Crc.turned s.data.toList p m k)[p / 8 + (p % 8 + k) / 8]'hq := ⟨_, rfl⟩
          rw [← hb8] at hcell
          have hi3 : (0 : Int) ≤ (p : Int) / 8 + ((p : Int) % 8 + (k : Int)) / 8 := by omega
          have hi4 : (p : Int) / 8 + ((p : Int) % 8 + (k : Int)) / 8 < (s.size : Int) := by omega
          have hw1 : IntKind.i64.wrap ((p : Int) / 8 + ((p : Int) % 8 + (k : Int)) / 8) = (p : Int) / 8 + ((p : Int) % 8 + (k : Int)) / 8 := IntWalk.i64_in _ (by omega)
          have hw2 : IntKind.i64.wrap ((p : Int) % 8 + (k : Int)) = (p : Int) % 8 + (k : Int) := IntWalk.i64_in _ (by omega)
          clear hw1 hw2
          have HR := Lib.hid hr
          have HB8 := Lib.hid hb8
          clear hr hb8
          have HO := Lib.hid (turn_byte b ((p + k) % 8))
          have HT := Lib.hid (turned_on s.data.toList p m k hbit (by rw [← Lib.size_eq]; exact hin) hq b HB8.out)
          have HM := Lib.hid (met_on s.data.toList.length p m k hbit (by rw [← Lib.size_eq]; exact hin))
          go_wp2_with fail
          go_region
          all_goals go_wp2_with fail
          go_roundw
          case rel =>
            rw [HO.out]
            refine ⟨k + 1, by go_num, by omega, by rw [HM.out], ?_, (hb.setCell (p := ⟨w.heap.size, _, none⟩) (Nat.le_refl _) _).drew⟩
            rw [HT.out]
            exact HR.out.set _ _ hq
          case measure => simp [intOf]; omega
        · have HT := Lib.hid (turned_off s.data.toList p m k (fun h => hin (by rw [Lib.size_eq]; exact h.2)))
          have HM := Lib.hid (met_off s.data.toList.length p m k (fun h => hin (by rw [Lib.size_eq]; exact h.2)))
          have HR := Lib.hid hr
          clear hr
          by_cases hi1 : (p : Int) / 8 < (s.size : Int)
          · have hi2 : ¬ ((p : Int) % 8 + (k : Int)) / 8 < (s.size : Int) - (p : Int) / 8 := by omega
            go_wp2_with fail
            go_roundw
            case rel => exact ⟨k + 1, by go_num, by omega, by rw [HM.out], by rw [HT.out]; exact HR.out, hb⟩
            case measure => simp [intOf]; omega
          · go_wp2_with fail
            go_roundw
            case rel => exact ⟨k + 1, by go_num, by omega, by rw [HM.out], by rw [HT.out]; exact HR.out, hb⟩
            case measure => simp [intOf]; omega
      · have hB := bit_off m k hm hbit
        have HT := Lib.hid (turned_off s.data.toList p m k (fun h => hbit h.1))
        have HM := Lib.hid (met_off s.data.toList.length p m k (fun h => hbit h.1))
        have HR := Lib.hid hr
        clear hr
        go_wp2_with fail
        go_roundw
        case rel => exact ⟨k + 1, by go_num, by omega, by rw [HM.out], by rw [HT.out]; exact HR.out, hb⟩
        case measure => simp [intOf]; omega
    · have hk2 : k = 32 := by omega
      subst hk2
      have hcn := hr.conv (n := s.size) (cap := grownCap w s.size 0 5) (by rw [Crc.turned_length, ← Lib.size_eq])
      have hbi := Crc.burst_iff s.data.toList p m
      obtain ⟨T, hT⟩ : ∃ T, T = Crc.turned s.data.toList p m 32 := ⟨_, rfl⟩
      have hTl : T.length = s.size := by rw [hT, Crc.turned_length, ← Lib.size_eq]
      rw [← hT] at hcn hbi
      have hts : (⟨T.toArray⟩ : ByteArray).size ≤ 9223372036854775807 := by rw [size_list]; omega
      have hss : s.size ≤ 9223372036854775807 := by omega
      have HC1 : Hid (Crc.sum T = Crc.sum (Crc.cat [⟨T.toArray⟩])) := Lib.hid (by simp [Crc.cat])
      have HC2 : Hid (Crc.sum s.data.toList = Crc.sum (Crc.cat [s])) := Lib.hid (by simp [Crc.cat])
      have hsz := hb.size
      clear hr hT hTl hcv
      cases hM : Crc.met s.data.toList.length p m 32
      all_goals
        rw [hM] at hbi
        have hne : ((Crc.sum T : Int) != (Crc.sum s.data.toList : Int)) = _ := (int_bne _ _).trans hbi
        have HM := Lib.hid hM
        clear hbi hM
        go_wp2_with fail
        refine (sum_new [⟨T.toArray⟩] wr _ 1 (Crc.sum T) rfl rfl (by simpa using hts) (show (1 : Nat) ≤ 9223372036854775807 by decide) HC1.out).mono ?_
        rintro e w2 ⟨rfl, hb2⟩
        go_wp2_with fail
        refine (sum_new [s] w2 _ 1 (Crc.sum s.data.toList) rfl rfl (by simpa using hss) (show (1 : Nat) ≤ 9223372036854775807 by decide) HC2.out).mono ?_
        rintro e w3 ⟨rfl, hb3⟩
        have hb4 := hb.trans (hb2.mono hsz)
        have hb5 := hb4.trans (hb3.mono hb4.size)
        go_wp2_with fail
        refine (cawake _).mono ?_
        rintro e w4 ⟨rfl, hb6⟩
        go_wp2
        go_ret
        exact ⟨rfl, hb5.trans (hb6.mono hb5.size)⟩

set_option maxRecDepth 100000 in
set_option maxHeartbeats 1000000 in
theorem bursts_out (s : ByteArray) (p : Int) (m : Nat) (w : World) (h : 100000 < s.size ∨ m = 0 ∨ p < 0) :
    Calls Try.prog 6 #[.string s, .int .i64 p, .int .u32 m] w fun e w' => e = .returned (.bool true) ∧ Below w.heap.size w w' := by
  by_cases h1 : (100000 : Int) < (s.size : Int)
  · have hd1 : decide ((100000 : Int) < (s.size : Int)) = true := decide_eq_true h1
    go_enter Try.func6, Try.ntmps6
    go_wp2_with fail
    refine (cawake _).mono ?_
    rintro e w4 ⟨rfl, hb6⟩
    go_wp2
    go_ret
    exact ⟨rfl, hb6⟩
  · have hd1 : decide ((100000 : Int) < (s.size : Int)) = false := decide_eq_false h1
    by_cases h2 : m = 0
    · have hd2 : ((m : Int) == 0) = true := by rw [h2]; rfl
      clear h h2
      go_enter Try.func6, Try.ntmps6
      go_wp2_with fail
      refine (cawake _).mono ?_
      rintro e w4 ⟨rfl, hb6⟩
      go_wp2
      go_ret
      exact ⟨rfl, hb6⟩
    · have hd2 : ((m : Int) == 0) = false := by simpa using h2
      have h3 : p < 0 := by omega
      have hd3 : decide (p < 0) = true := decide_eq_true h3
      clear h
      go_enter Try.func6, Try.ntmps6
      go_wp2_with fail
      refine (cawake _).mono ?_
      rintro e w4 ⟨rfl, hb6⟩
      go_wp2
      go_ret
      exact ⟨rfl, hb6⟩

theorem bursts_walk (s : ByteArray) (p : Int) (m : Nat) (w : World) (hp : p ≤ 9223372036854775807) (hm : m < 4294967296) :
    Calls Try.prog 6 #[.string s, .int .i64 p, .int .u32 m] w fun e w' => e = .returned (.bool true) ∧ Below w.heap.size w w' := by
  by_cases h : 100000 < s.size ∨ m = 0 ∨ p < 0
  · exact bursts_out s p m w h
  · obtain ⟨q, rfl⟩ := Int.eq_ofNat_of_zero_le (show 0 ≤ p by omega)
    exact bursts_in s q m w (by omega) (by omega) hm (by omega)
end Go.Proofs.Ytleaeidjdjhbiaa
