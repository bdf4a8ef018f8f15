/- Encode, of the program and of the document: the code points' bytes, one behind the other. -/
import Derived.Test.YticfgdedlleapaaUtfPFirst
namespace Go.Proofs.Yticfgdedlleapaa
open Go.RowKit
set_option linter.unusedVariables false

/-- What lay hands back: the row of bytes, now with the code point's behind. -/
def Laid (B : Nat) (l : List UInt8) (w : World) (e : Ending) (w' : World) : Prop :=
  ∃ v', e = .returned v' ∧ w'.ownsRow B 5 1 v' l.length (Lib.byteCells l) ∧ Below B w w'

set_option maxRecDepth 100000 in
set_option maxHeartbeats 1000000 in
theorem lay_1 (B : Nat) (v : Value) (l : List UInt8) (p : Int) (h0 : 0 ≤ p) (h1 : p ≤ 1114111) (h2 : p < 128) (w : World) (hown : w.ownsRow B 5 1 v l.length (Lib.byteCells l)) (hB : B ≤ w.heap.size) (hl : l.length ≤ 1000000000) :
    Calls Try.prog 20 #[v, .int .i64 p] w (Laid B (l ++ Utf.bytes p) w) := by
  obtain ⟨i0, hi, hz0, hz1, hz2⟩ := info_parts (P := Try.prog) (e := 5) (z := .int .u8 0) (size := 1) (bytes := 1) (by kernel_rfl)
  have hb : Utf.bytes p = [Utf.byte (p)] := by unfold Utf.bytes; rw [if_pos h2]
  have hw : Utf.width p = 1 := by unfold Utf.width; rw [if_pos h2]
  have HB := Lib.hid hb
  have HC : Hid (Lib.byteCells (Utf.bytes p) = [.int .u8 (p)]) := Lib.hid (by rw [hb, cells_one, show (p) % 256 = p from by omega])
  have HL : Hid ((l ++ Utf.bytes p).length = l.length + 1) := Lib.hid (by rw [List.length_append, Utf.bytes_length, hw])
  clear hb
  go_enter Try.func20, Try.ntmps20
  go_wp2_with fail
  refine (width_walk p _).mono ?_
  rintro e w' ⟨he, rfl⟩
  rw [hw] at he
  subst he
  go_wp2_with (first | (go_at_call 27; refine (on_walk _ _).mono ?_; rintro e w' ⟨rfl, rfl⟩) | (at_builtin; refine wpList_append_own _ rfl _ _ 46 rfl B 5 i0 (.int .u8 0) 1 1 Try.underlying46 hi hz0 hz1 hz2 rfl (by decide) _ _ _ rfl (hown.alloc _) ⟨w.heap.size, 0, none⟩ 1 1 [.int .u8 (p)] rfl rfl ?c1 ?c2 ?c3 ?c4 ?c5 ?_))
  case c1 =>
    intro i u hu
    match i, hu with
    | 0, hu => simp at hu; subst hu; simp [Addr.add]
  case c2 => intro u hu; simp at hu; subst hu; rfl
  case c3 => unfold maxLen; omega
  case c4 => omega
  case c5 => simp; omega
  intro v' w1 hown' hgrow _
  go_wp2
  go_ret
  refine ⟨v', rfl, ?_, ((Below.refl B w).alloc hB _).grown hgrow (by simp; omega) (fun k hk => (hown.lt k hk).1)⟩
  rw [HL.out, Lib.byteCells_append, HC.out]
  exact hown'

set_option maxRecDepth 100000 in
set_option maxHeartbeats 1000000 in
theorem lay_2 (B : Nat) (v : Value) (l : List UInt8) (p : Int) (h0 : 0 ≤ p) (h1 : p ≤ 1114111) (h2 : 128 ≤ p) (h3 : p < 2048) (w : World) (hown : w.ownsRow B 5 1 v l.length (Lib.byteCells l)) (hB : B ≤ w.heap.size) (hl : l.length ≤ 1000000000) :
    Calls Try.prog 20 #[v, .int .i64 p] w (Laid B (l ++ Utf.bytes p) w) := by
  obtain ⟨i0, hi, hz0, hz1, hz2⟩ := info_parts (P := Try.prog) (e := 5) (z := .int .u8 0) (size := 1) (bytes := 1) (by kernel_rfl)
  have hb : Utf.bytes p = [Utf.byte (192 + p / 64), Utf.byte (128 + p % 64)] := by unfold Utf.bytes; rw [if_neg (by omega), if_pos h3]
  have hw : Utf.width p = 2 := by unfold Utf.width; rw [if_neg (by omega), if_pos h3]
  have HB := Lib.hid hb
  have HC : Hid (Lib.byteCells (Utf.bytes p) = [.int .u8 (192 + p / 64), .int .u8 (128 + p % 64)]) := Lib.hid (by rw [hb, cells_two, show (192 + p / 64) % 256 = 192 + p / 64 from by omega, show (128 + p % 64) % 256 = 128 + p % 64 from by omega])
  have HL : Hid ((l ++ Utf.bytes p).length = l.length + 2) := Lib.hid (by rw [List.length_append, Utf.bytes_length, hw])
  have hor := u8_join 6 192 (p / 64) (by decide) (by decide) (by omega) (by have : ((2 ^ 6 : Nat) : Int) = 64 := rfl; omega) (by omega)
  clear hb
  go_enter Try.func20, Try.ntmps20
  go_wp2_with fail
  refine (width_walk p _).mono ?_
  rintro e w' ⟨he, rfl⟩
  rw [hw] at he
  subst he
  go_wp2_with (first | (go_at_call 27; refine (on_walk _ _).mono ?_; rintro e w' ⟨rfl, rfl⟩) | (at_builtin; refine wpList_append_own _ rfl _ _ 46 rfl B 5 i0 (.int .u8 0) 1 1 Try.underlying46 hi hz0 hz1 hz2 rfl (by decide) _ _ _ rfl (hown.alloc _) ⟨w.heap.size, 0, none⟩ 2 2 [.int .u8 (192 + p / 64), .int .u8 (128 + p % 64)] rfl rfl ?c1 ?c2 ?c3 ?c4 ?c5 ?_))
  case c1 =>
    intro i u hu
    match i, hu with
    | 0, hu => simp at hu; subst hu; simp [Addr.add]
    | 1, hu => simp at hu; subst hu; simp [Addr.add]
  case c2 => intro u hu; simp at hu; rcases hu with rfl | rfl <;> rfl
  case c3 => unfold maxLen; omega
  case c4 => omega
  case c5 => simp; omega
  intro v' w1 hown' hgrow _
  go_wp2
  go_ret
  refine ⟨v', rfl, ?_, ((Below.refl B w).alloc hB _).grown hgrow (by simp; omega) (fun k hk => (hown.lt k hk).1)⟩
  rw [HL.out, Lib.byteCells_append, HC.out]
  exact hown'

set_option maxRecDepth 100000 in
set_option maxHeartbeats 1000000 in
theorem lay_3 (B : Nat) (v : Value) (l : List UInt8) (p : Int) (h0 : 0 ≤ p) (h1 : p ≤ 1114111) (h2 : 2048 ≤ p) (h3 : p < 65536) (w : World) (hown : w.ownsRow B 5 1 v l.length (Lib.byteCells l)) (hB : B ≤ w.heap.size) (hl : l.length ≤ 1000000000) :
    Calls Try.prog 20 #[v, .int .i64 p] w (Laid B (l ++ Utf.bytes p) w) := by
  obtain ⟨i0, hi, hz0, hz1, hz2⟩ := info_parts (P := Try.prog) (e := 5) (z := .int .u8 0) (size := 1) (bytes := 1) (by kernel_rfl)
  have hb : Utf.bytes p = [Utf.byte (224 + p / 4096), Utf.byte (128 + p / 64 % 64), Utf.byte (128 + p % 64)] := by unfold Utf.bytes; rw [if_neg (by omega), if_neg (by omega), if_pos h3]
  have hw : Utf.width p = 3 := by unfold Utf.width; rw [if_neg (by omega), if_neg (by omega), if_pos h3]
  have HB := Lib.hid hb
  have HC : Hid (Lib.byteCells (Utf.bytes p) = [.int .u8 (224 + p / 4096), .int .u8 (128 + p / 64 % 64), .int .u8 (128 + p % 64)]) := Lib.hid (by rw [hb, cells_three, show (224 + p / 4096) % 256 = 224 + p / 4096 from by omega, show (128 + p / 64 % 64) % 256 = 128 + p / 64 % 64 from by omega, show (128 + p % 64) % 256 = 128 + p % 64 from by omega])
  have HL : Hid ((l ++ Utf.bytes p).length = l.length + 3) := Lib.hid (by rw [List.length_append, Utf.bytes_length, hw])
  have hor := u8_join 5 224 (p / 4096) (by decide) (by decide) (by omega) (by have : ((2 ^ 5 : Nat) : Int) = 32 := rfl; omega) (by omega)
  clear hb
  go_enter Try.func20, Try.ntmps20
  go_wp2_with fail
  refine (width_walk p _).mono ?_
  rintro e w' ⟨he, rfl⟩
  rw [hw] at he
  subst he
  go_wp2_with (first | (go_at_call 27; refine (on_walk _ _).mono ?_; rintro e w' ⟨rfl, rfl⟩) | (at_builtin; refine wpList_append_own _ rfl _ _ 46 rfl B 5 i0 (.int .u8 0) 1 1 Try.underlying46 hi hz0 hz1 hz2 rfl (by decide) _ _ _ rfl (hown.alloc _) ⟨w.heap.size, 0, none⟩ 3 3 [.int .u8 (224 + p / 4096), .int .u8 (128 + p / 64 % 64), .int .u8 (128 + p % 64)] rfl rfl ?c1 ?c2 ?c3 ?c4 ?c5 ?_))
  case c1 =>
    intro i u hu
    match i, hu with
    | 0, hu => simp at hu; subst hu; simp [Addr.add]
    | 1, hu => simp at hu; subst hu; simp [Addr.add]
    | 2, hu => simp at hu; subst hu; simp [Addr.add]
  case c2 => intro u hu; simp at hu; rcases hu with rfl | rfl | rfl <;> rfl
  case c3 => unfold maxLen; omega
  case c4 => omega
  case c5 => simp; omega
  intro v' w1 hown' hgrow _
  go_wp2
  go_ret
  refine ⟨v', rfl, ?_, ((Below.refl B w).alloc hB _).grown hgrow (by simp; omega) (fun k hk => (hown.lt k hk).1)⟩
  rw [HL.out, Lib.byteCells_append, HC.out]
  exact hown'

set_option maxRecDepth 100000 in
set_option maxHeartbeats 1000000 in
theorem lay_4 (B : Nat) (v : Value) (l : List UInt8) (p : Int) (h0 : 0 ≤ p) (h1 : p ≤ 1114111) (h2 : 65536 ≤ p) (w : World) (hown : w.ownsRow B 5 1 v l.length (Lib.byteCells l)) (hB : B ≤ w.heap.size) (hl : l.length ≤ 1000000000) :
    Calls Try.prog 20 #[v, .int .i64 p] w (Laid B (l ++ Utf.bytes p) w) := by
  obtain ⟨i0, hi, hz0, hz1, hz2⟩ := info_parts (P := Try.prog) (e := 5) (z := .int .u8 0) (size := 1) (bytes := 1) (by kernel_rfl)
  have hb : Utf.bytes p = [Utf.byte (240 + p / 262144), Utf.byte (128 + p / 4096 % 64), Utf.byte (128 + p / 64 % 64), Utf.byte (128 + p % 64)] := by unfold Utf.bytes; rw [if_neg (by omega), if_neg (by omega), if_neg (by omega)]
  have hw : Utf.width p = 4 := by unfold Utf.width; rw [if_neg (by omega), if_neg (by omega), if_neg (by omega)]
  have HB := Lib.hid hb
  have HC : Hid (Lib.byteCells (Utf.bytes p) = [.int .u8 (240 + p / 262144), .int .u8 (128 + p / 4096 % 64), .int .u8 (128 + p / 64 % 64), .int .u8 (128 + p % 64)]) := Lib.hid (by rw [hb, cells_four, show (240 + p / 262144) % 256 = 240 + p / 262144 from by omega, show (128 + p / 4096 % 64) % 256 = 128 + p / 4096 % 64 from by omega, show (128 + p / 64 % 64) % 256 = 128 + p / 64 % 64 from by omega, show (128 + p % 64) % 256 = 128 + p % 64 from by omega])
  have HL : Hid ((l ++ Utf.bytes p).length = l.length + 4) := Lib.hid (by rw [List.length_append, Utf.bytes_length, hw])
  have hor := u8_join 4 240 (p / 262144) (by decide) (by decide) (by omega) (by have : ((2 ^ 4 : Nat) : Int) = 16 := rfl; omega) (by omega)
  clear hb
  go_enter Try.func20, Try.ntmps20
  go_wp2_with fail
  refine (width_walk p _).mono ?_
  rintro e w' ⟨he, rfl⟩
  rw [hw] at he
  subst he
  go_wp2_with (first | (go_at_call 27; refine (on_walk _ _).mono ?_; rintro e w' ⟨rfl, rfl⟩) | (at_builtin; refine wpList_append_own _ rfl _ _ 46 rfl B 5 i0 (.int .u8 0) 1 1 Try.underlying46 hi hz0 hz1 hz2 rfl (by decide) _ _ _ rfl (hown.alloc _) ⟨w.heap.size, 0, none⟩ 4 4 [.int .u8 (240 + p / 262144), .int .u8 (128 + p / 4096 % 64), .int .u8 (128 + p / 64 % 64), .int .u8 (128 + p % 64)] rfl rfl ?c1 ?c2 ?c3 ?c4 ?c5 ?_))
  case c1 =>
    intro i u hu
    match i, hu with
    | 0, hu => simp at hu; subst hu; simp [Addr.add]
    | 1, hu => simp at hu; subst hu; simp [Addr.add]
    | 2, hu => simp at hu; subst hu; simp [Addr.add]
    | 3, hu => simp at hu; subst hu; simp [Addr.add]
  case c2 => intro u hu; simp at hu; rcases hu with rfl | rfl | rfl | rfl <;> rfl
  case c3 => unfold maxLen; omega
  case c4 => omega
  case c5 => simp; omega
  intro v' w1 hown' hgrow _
  go_wp2
  go_ret
  refine ⟨v', rfl, ?_, ((Below.refl B w).alloc hB _).grown hgrow (by simp; omega) (fun k hk => (hown.lt k hk).1)⟩
  rw [HL.out, Lib.byteCells_append, HC.out]
  exact hown'

theorem lay_walk (B : Nat) (v : Value) (l : List UInt8) (p : Int) (h : Utf.pt p = true) (w : World) (hown : w.ownsRow B 5 1 v l.length (Lib.byteCells l)) (hB : B ≤ w.heap.size) (hl : l.length ≤ 1000000000) :
    Calls Try.prog 20 #[v, .int .i64 p] w (Laid B (l ++ Utf.bytes p) w) := by
  obtain ⟨h0, h1, _⟩ := pt_true h
  by_cases h2 : p < 128
  · exact lay_1 B v l p h0 h1 h2 w hown hB hl
  · by_cases h3 : p < 2048
    · exact lay_2 B v l p h0 h1 (by omega) h3 w hown hB hl
    · by_cases h4 : p < 65536
      · exact lay_3 B v l p h0 h1 (by omega) h4 w hown hB hl
      · exact lay_4 B v l p h0 h1 (by omega) w hown hB hl

/-- What Encode hands back: the bytes, or nothing and the error. -/
def encR (zs : List Int) : Value := if zs.all Utf.pt then .tuple #[.string ⟨(Utf.enc zs).toArray⟩, .int .i64 0] else .tuple #[.string ByteArray.empty, .int .i64 30]

theorem all_next {zs : List Int} {k : Nat} (h : (zs.take k).all Utf.pt = true) (hk : k < zs.length) (hp : Utf.pt zs[k] = true) : (zs.take (k + 1)).all Utf.pt = true := by
  rw [List.take_succ_eq_append_getElem hk, List.all_append, h]; simp [hp]

theorem all_not {zs : List Int} {k : Nat} (hk : k < zs.length) (hp : Utf.pt zs[k] = false) : zs.all Utf.pt = false := by
  rw [List.all_eq_false]
  exact ⟨zs[k], List.getElem_mem hk, by rw [hp]; simp⟩

set_option maxRecDepth 100000 in
set_option maxHeartbeats 1000000 in
theorem encode_walk (A : Option Addr) (cap : Nat) (zs : List Int) (w : World) (hA : Ints w w.heap.size A zs) (hl : zs.length ≤ 100000000) :
    Calls Try.prog 13 #[.slice A zs.length cap] w fun e w' => e = .returned (encR zs) ∧ Below w.heap.size w w' := by
  go_enter Try.func13, Try.ntmps13
  go_wp2_with fail
  go_loopw [4, 9] (fun v i wr => ∃ k : Nat, i = .int .i64 k ∧ k ≤ zs.length ∧ Hid ((zs.take k).all Utf.pt = true) ∧ wr.ownsRow w.heap.size 5 1 v (Utf.enc (zs.take k)).length (Lib.byteCells (Utf.enc (zs.take k))) ∧ Below w.heap.size w wr)
    (fun _ i _ => zs.length - (intOf i).toNat)
  case atStart => exact ⟨0, rfl, Nat.zero_le _, Lib.hid rfl, World.ownsRow_nil _ _ _ _, Below.refl _ _⟩
  case round =>
    obtain ⟨k, rfl, hk, HP, hown, hb⟩ := hrel
    have hsz := hb.size
    have hmost := Utf.enc_most (zs.take k)
    rw [List.length_take, Nat.min_eq_left hk] at hmost
    by_cases hlt : k < zs.length
    · rcases hA with hA | ⟨b, off, rfl, hblt, hc⟩
      · omega
      · obtain ⟨x, hx⟩ : ∃ x, x = zs[k]'hlt := ⟨_, rfl⟩
        have hcell : wr.cell? ⟨b, off + k, none⟩ = some (.int .i64 x) := by rw [hx]; exact (hb.cell (p := ⟨b, off + k, none⟩) hblt).trans (hc k hlt)
        have HX := Lib.hid hx
        clear hc hx
        cases hp : Utf.pt x
        · go_wp2_with (go_at_call 19; refine (ispt_walk _ _).mono ?_; rintro e w' ⟨rfl, rfl⟩)
          go_ret2
          refine ⟨?_, hb⟩
          rw [encR, all_not hlt (by rw [← HX.out]; exact hp)]
          rfl
        · have HN : Hid ((zs.take (k + 1)).all Utf.pt = true) := Lib.hid (all_next HP.out hlt (by rw [← HX.out]; exact hp))
          have HE : Hid (Utf.enc (zs.take (k + 1)) = Utf.enc (zs.take k) ++ Utf.bytes x) := Lib.hid (by rw [List.take_succ_eq_append_getElem hlt, Utf.enc_snoc, HX.out])
          go_wp2_with (go_at_call 19; refine (ispt_walk _ _).mono ?_; rintro e w' ⟨rfl, rfl⟩)
          refine (lay_walk w.heap.size _ _ x hp _ hown hsz (by omega)).mono ?_
          rintro e w2 ⟨v', rfl, hown2, hb2⟩
          have hb3 := hb.trans hb2
          clear hb2
          go_wp2
          go_roundw
          case rel =>
            refine ⟨k + 1, by go_num, by omega, HN, ?_, hb3⟩
            rw [HE.out]
            exact hown2
          case measure => simp [intOf]; omega
    · have HK : Hid (zs.take k = zs) := Lib.hid (List.take_of_length_le (by omega))
      rw [HK.out] at HP hown
      have hconv := conv_own hown
      go_wp2
      go_ret2
      refine ⟨?_, hb⟩
      rw [encR, HP.out]
      rfl

set_option maxRecDepth 100000 in
set_option maxHeartbeats 1000000 in
theorem rencode_walk (A : Option Addr) (cap : Nat) (zs : List Int) (w : World) (hA : Ints w w.heap.size A zs) (hl : zs.length ≤ 100000000) :
    Calls Try.prog 14 #[.slice A zs.length cap] w fun e w' => e = .returned (encR zs) ∧ Below w.heap.size w w' := by
  go_enter Try.func14, Try.ntmps14
  go_wp2_with fail
  go_loopw [4, 5] (fun o i wr => ∃ k : Nat, i = .int .i64 k ∧ k ≤ zs.length ∧ Hid ((zs.take k).all Utf.pt = true) ∧ o = .string ⟨(Utf.enc (zs.take k)).toArray⟩ ∧ Below w.heap.size w wr)
    (fun _ i _ => zs.length - (intOf i).toNat)
  case atStart => exact ⟨0, rfl, Nat.zero_le _, Lib.hid rfl, rfl, Below.refl _ _⟩
  case round =>
    obtain ⟨k, rfl, hk, HP, rfl, hb⟩ := hrel
    have hsz := hb.size
    have hmost := Utf.enc_most (zs.take k)
    rw [List.length_take, Nat.min_eq_left hk] at hmost
    by_cases hlt : k < zs.length
    · rcases hA with hA | ⟨b, off, rfl, hblt, hc⟩
      · omega
      · obtain ⟨x, hx⟩ : ∃ x, x = zs[k]'hlt := ⟨_, rfl⟩
        have hcell : wr.cell? ⟨b, off + k, none⟩ = some (.int .i64 x) := by rw [hx]; exact (hb.cell (p := ⟨b, off + k, none⟩) hblt).trans (hc k hlt)
        have HX := Lib.hid hx
        clear hc hx
        cases hp : Utf.pt x
        · go_wp2_with (go_at_call 21; refine (rpoint_walk _ _).mono ?_; rintro e w' ⟨rfl, rfl⟩)
          go_ret2
          refine ⟨?_, hb⟩
          rw [encR, all_not hlt (by rw [← HX.out]; exact hp)]
          rfl
        · have HN : Hid ((zs.take (k + 1)).all Utf.pt = true) := Lib.hid (all_next HP.out hlt (by rw [← HX.out]; exact hp))
          have HE : Hid (Utf.enc (zs.take (k + 1)) = Utf.enc (zs.take k) ++ Utf.bytes x) := Lib.hid (by rw [List.take_succ_eq_append_getElem hlt, Utf.enc_snoc, HX.out])
          have hbl : (Utf.bytes x).length ≤ 4 := by rw [Utf.bytes_length]; exact (Utf.width_pos x).2
          go_wp2_with (go_at_call 21; refine (rpoint_walk _ _).mono ?_; rintro e w' ⟨rfl, rfl⟩)
          refine (rbytes_walk x _ hp).mono ?_
          rintro e w2 ⟨rfl, hb2⟩
          have hb3 := hb.trans (hb2.mono hsz)
          clear hb2
          go_wp2
          go_roundw
          case rel =>
            refine ⟨k + 1, by go_num, by omega, HN, ?_, hb3⟩
            rw [HE.out]
            exact congrArg Value.string (ba_append _ _)
          case measure => simp [intOf]; omega
    · have HK : Hid (zs.take k = zs) := Lib.hid (List.take_of_length_le (by omega))
      rw [HK.out] at HP
      go_wp2
      go_ret2
      refine ⟨?_, hb⟩
      rw [encR, HP.out, if_pos rfl, HK.out]
      rfl
end Go.Proofs.Yticfgdedlleapaa
