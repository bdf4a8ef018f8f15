/- The two functions that lay a number (the program's and the document's answer) tell the same bytes: Oct.num. -/
import Derived.Test.YtjaephhnaocpcaaRows
import Derived.Test.YtjaephhnaocpcaaShelf
import Derived.Test.YtjaephhnaocpcaaOctMath
import Derived.WalkKit
import Derived.Below
import Derived.Laws.BytesArg
import Derived.Lib.UnsafeStr
import Derived.Lib.Hide
namespace Go.Proofs.Ytjaephhnaocpcaa
open Go.RowKit

/-- A row of bytes that the call itself made, turned into a text. -/
theorem conv_own {w : World} {B n : Nat} {v : Value} {l : List UInt8} (h : w.ownsRow B 5 1 v n (Lib.byteCells l)) :
    (convert 49 9 v).run Try.prog w = .ok (.string ⟨l.toArray⟩) w := by
  have hlen := h.1
  rw [Lib.byteCells_length, Nat.mul_one] at hlen
  rcases h.2 with ⟨rfl, rfl⟩ | ⟨g, cap, cur, rfl, _, hh, _⟩
  · have : l = [] := List.eq_nil_of_length_eq_zero hlen
    subst this
    exact run_convert_bytes_nil w 49 5 Try.underlying49 Try.underlying5 0 0 9 Try.underlying9
  · have hr := run_convert_bytes_arg (P := Try.prog) w 49 5 Try.underlying49 Try.underlying5 g 0 n cap (l.map fun b => (b.toNat : Int)) (by simpa using hlen) (fun i hi => by
        have hc := h.cellAt i (by omega)
        rw [Nat.zero_add, hc, Lib.byteCells]
        have hi' : i < l.length := by omega
        simp [hi']) 9 Try.underlying9
    rw [hr]
    have e : strOfNums (l.map fun b => (b.toNat : Int)) = ⟨l.toArray⟩ := by
      unfold strOfNums
      rw [List.map_map]
      congr 2
      conv => rhs; rw [← List.map_id l]
      apply List.map_congr_left
      intro b _
      simp
    rw [e]

theorem ret_str {a b : List UInt8} (h : a = b) : Ending.returned (.string ⟨a.toArray⟩) = .returned (.string ⟨b.toArray⟩) := by rw [h]

theorem ofNat_u8 (n : Nat) : ((UInt8.ofNat n).toNat : Int) = (n : Int) % 256 := by simp

/-- 'string([]byte{b})' at a new row of one byte. -/
theorem conv_cell (w : World) (b : UInt8) {x : Int} (h : x = b.toNat) :
    (convert 49 9 (.slice (some ⟨w.heap.size, 0, none⟩) 1 1)).run Try.prog (w.alloc (.cells #[.int .u8 x] 5)) = .ok (.string ⟨[b].toArray⟩) (w.alloc (.cells #[.int .u8 x] 5)) := by
  subst h
  exact conv_own (World.ownsRow_lit (base := w.heap.size) (e := 5) (size := 1) w #[Value.int .u8 b.toNat] 1 (Nat.le_refl _) (by simp [maxLen]) rfl)

theorem conv_byte {n : Nat} (w : World) (h : n ≤ 247) :
    (convert 49 9 (.slice (some ⟨w.heap.size, 0, none⟩) 1 1)).run Try.prog (w.alloc (.cells #[.int .u8 n] 5)) = .ok (.string ⟨[UInt8.ofNat n].toArray⟩) (w.alloc (.cells #[.int .u8 n] 5)) := by
  refine conv_cell w _ ?_
  rw [ofNat_u8]
  omega

theorem conv_rem {x : Nat} (w : World) :
    (convert 49 9 (.slice (some ⟨w.heap.size, 0, none⟩) 1 1)).run Try.prog (w.alloc (.cells #[.int .u8 (x % 256)] 5)) = .ok (.string ⟨[UInt8.ofNat x].toArray⟩) (w.alloc (.cells #[.int .u8 (x % 256)] 5)) :=
  conv_cell w _ (by rw [ofNat_u8])

set_option maxHeartbeats 400000 in
theorem number_small (n : Nat) (w : World) (h : n ≤ 247) :
    Calls Try.prog 10 #[.int .u64 n] w fun e w' => e = .returned (.string ⟨(Oct.num n).toArray⟩) ∧ Below w.heap.size w w' := by
  have hconv := conv_byte (n := n) w h
  go_enter Try.func10, Try.ntmps10
  go_wp2
  go_ret
  exact ⟨ret_str (by rw [Oct.num, if_pos h]), (Below.refl _ _).alloc (Nat.le_refl _) _⟩

theorem shr_byte (n m : Nat) : ((n : Int) / 2 ^ (8 * m) % 256) = ((UInt8.ofNat (n / 256 ^ m)).toNat : Int) := by
  rw [ofNat_u8, Oct.pow256, Int.natCast_ediv, Int.natCast_pow]
  rfl

theorem be_step (k n j : Nat) (h : j < k) : Oct.be (j + 1) (n / 256 ^ (k - (j + 1))) = Oct.be j (n / 256 ^ (k - j)) ++ [UInt8.ofNat (n / 256 ^ (k - 1 - j))] := by
  rw [Oct.be_snoc, Nat.div_div_eq_div_mul, ← Nat.pow_succ, Nat.succ_eq_add_one, show k - (j + 1) + 1 = k - j from by omega, show k - (j + 1) = k - 1 - j from by omega]

set_option maxHeartbeats 400000 in
theorem number_big (n : Nat) (w : World) (h : 247 < n) (h2 : n < 18446744073709551616) :
    Calls Try.prog 10 #[.int .u64 n] w fun e w' => e = .returned (.string ⟨(Oct.num n).toArray⟩) ∧ Below w.heap.size w w' := by
  have hL := Oct.bitLen_le n h2
  have hk := Oct.wid_spec n (by omega) h2
  have hk1 : 1 ≤ (Lib.bitLen n + 7) / 8 := hk.2.2.1
  clear hk
  obtain ⟨i0, hi, hz0, hz1, hz2⟩ := info_parts (P := Try.prog) (e := 5) (z := .int .u8 0) (size := 1) (bytes := 1) (by kernel_rfl)
  go_enter Try.func10, Try.ntmps10
  go_wp2_with fail
  refine (Try.len64 _ _ (by omega) (by omega)).mono ?_
  rintro e w' ⟨rfl, rfl⟩
  go_wp2_with fail
  go_loopw [4, 21] (fun v i wr => ∃ j : Nat, i = .int .i64 j ∧ j ≤ (Lib.bitLen n + 7) / 8 ∧ wr.ownsRow w'.heap.size 5 1 v (1 + j) (Lib.byteCells (Oct.hd (Oct.wid n) :: Oct.be j (n / 256 ^ ((Lib.bitLen n + 7) / 8 - j)))) ∧ Below w'.heap.size w' wr)
    (fun _ i _ => 8 - (intOf i).toNat)
  case atStart =>
    refine ⟨0, rfl, by omega, ?_, (Below.refl _ _).alloc (Nat.le_refl _) _⟩
    have := World.ownsRow_lit (base := w'.heap.size) (e := 5) (size := 1) w' #[Value.int .u8 (247 + (↑(Lib.bitLen n) + 7) / 8)] 1 (Nat.le_refl _) (by simp [maxLen]) rfl
    have e : (#[Value.int .u8 (247 + (↑(Lib.bitLen n) + 7) / 8)] : Array Value).toList = Lib.byteCells [Oct.hd (Oct.wid n)] := by
      have := Oct.hd_toNat (Oct.wid n) (by unfold Oct.wid; omega)
      show [Value.int .u8 (247 + (↑(Lib.bitLen n) + 7) / 8)] = [Value.int .u8 ((Oct.hd (Oct.wid n)).toNat : Int)]
      rw [this, show ((247 + Oct.wid n : Nat) : Int) = 247 + (↑(Lib.bitLen n) + 7) / 8 from by unfold Oct.wid; omega]
    rw [e] at this
    exact this
  case round =>
    obtain ⟨j, rfl, hj, hown, hb⟩ := hrel
    have hsz := hb.size
    have hsh := shr_byte n ((Lib.bitLen n + 7) / 8 - 1 - j)
    have HS := Lib.hid hsh
    clear hsh
    by_cases hlt : j < (Lib.bitLen n + 7) / 8
    · have hst := be_step ((Lib.bitLen n + 7) / 8) n j hlt
      have HT := Lib.hid hst
      clear hst
      go_wp2_with (at_builtin; refine wpList_append_own _ rfl _ _ 49 rfl w'.heap.size 5 i0 (.int .u8 0) 1 1 Try.underlying49 hi hz0 hz1 hz2 rfl (by decide) _ _ _ rfl (hown.alloc _) ⟨wr.heap.size, 0, none⟩ 1 1 [.int .u8 (n / 2 ^ (8 * ((Lib.bitLen n + 7) / 8 - 1 - j)) % 256)] rfl rfl ?c1 ?c2 ?c3 ?c4 ?c5 ?_)
      case c1 =>
        intro t u hu
        match t, hu with
        | 0, hu => simp at hu; subst hu; simp [Addr.add]
      case c2 => intro u hu; simp at hu; subst hu; rfl
      case c3 => unfold maxLen; omega
      case c4 => omega
      case c5 => simp; omega
      intro v' w1 hown' hgrow _
      go_wp2
      go_roundw
      case rel =>
        refine ⟨j + 1, by go_num, by omega, ?_, (hb.alloc hsz _).grown hgrow (by simp; omega) (fun k hk => (hown.lt k hk).1)⟩
        rw [HT.out, ← List.cons_append, Lib.byteCells_append]
        rw [HS.out] at hown'
        exact hown'
      case measure => simp [intOf]; omega
    · have hconv := conv_own hown
      go_wp2
      go_ret
      refine ⟨?_, hb⟩
      have hje : j = (Lib.bitLen n + 7) / 8 := by omega
      exact ret_str (by rw [Oct.num, if_neg (by omega), hje, Nat.sub_self, Nat.pow_zero, Nat.div_one]; rfl)
end Go.Proofs.Ytjaephhnaocpcaa
