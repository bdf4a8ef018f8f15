/- The walk of CrcLinear: the sums of three texts of one length and of their exclusive or come to nothing. -/
import Derived.Test.YtleaeidjdjhbiaaCrcLaws
import Derived.Test.YtleaeidjdjhbiaaBytes
import Derived.Test.YtleaeidjdjhbiaaCrcBurstM
import Derived.Test.YtleaeidjdjhbiaaOrders
import Derived.Laws.MakeOwn
import Derived.Laws.OwnMore
namespace Go.Proofs.Ytleaeidjdjhbiaa
open Go.RowKit

theorem run_min4 {P : Program} (W : World) (a b c d : Int) : (Builtin.min_ #[3, 3, 3, 3] 3 #[.int .i64 a, .int .i64 b, .int .i64 c, .int .i64 d]).run P W = .ok (.int .i64 (min (min (min a b) c) d)) W := by
  have e : ∀ x y : Int, (if y < x then y else x) = min x y := fun x y => by split <;> omega
  simp only [Builtin.min_, Builtin.min2, List.foldlM, e]
  rfl

/-- The first n bytes. -/
theorem head_of (s : ByteArray) (n : Nat) (h : n ≤ s.size) : ∃ r : ByteArray, (∀ W : World, (Instr.slice 9 (.string s) none (some (.int .i64 n)) none).run Try.prog W = .ok (.string r) W) ∧ r.size = n :=
  ⟨_, fun W => slice_to s n (by omega) (by omega) W, by rw [size_list, List.length_take, ← Lib.size_eq]; omega⟩

theorem made_zero (n : Nat) : (madeCells (Value.int .u8 0).cells (n * 1)).toList = Lib.byteCells (List.replicate n 0) := by
  have h := toList_madeCells_one (Value.int .u8 0) n
  rw [Nat.mul_one, Lib.byteCells, List.map_replicate]
  exact h

def xor3 (a b c : List UInt8) : List UInt8 := List.zipWith (· ^^^ ·) (List.zipWith (· ^^^ ·) a b) c

/-- The row behind k rounds. -/
def part3 (x y z : ByteArray) (n k : Nat) : List UInt8 := (xor3 x.data.toList y.data.toList z.data.toList).take k ++ List.replicate (n - k) 0

theorem part3_zero (x y z : ByteArray) (n : Nat) : part3 x y z n 0 = List.replicate n 0 := by simp [part3]

theorem set_next (L : List UInt8) (n k : Nat) (hL : L.length = n) (hk : k < n) : (L.take k ++ List.replicate (n - k) 0).set k (L[k]'(by omega)) = L.take (k + 1) ++ List.replicate (n - (k + 1)) 0 := by
  have hl : (L.take k).length = k := by rw [List.length_take]; omega
  rw [show n - k = n - (k + 1) + 1 from by omega, List.replicate_succ, List.set_append_right _ _ (by omega), hl, Nat.sub_self, List.set_cons_zero, List.take_succ_eq_append_getElem (show k < L.length by omega), List.append_assoc]
  rfl

theorem part3_next (x y z : ByteArray) (n k : Nat) (hx : k < x.size) (hy : k < y.size) (hz : k < z.size) (hL : (xor3 x.data.toList y.data.toList z.data.toList).length = n) (hk : k < n) :
    (Lib.byteCells (part3 x y z n k)).set k (.int .u8 ((x[k]'hx ^^^ y[k]'hy ^^^ z[k]'hz).toNat)) = Lib.byteCells (part3 x y z n (k + 1)) := by
  have h := set_next _ n k hL hk
  have e : (xor3 x.data.toList y.data.toList z.data.toList)[k]'(by omega) = x[k]'hx ^^^ y[k]'hy ^^^ z[k]'hz := by
    simp only [xor3, List.getElem_zipWith]
    rfl
  rw [e] at h
  rw [part3, part3, ← h, Lib.byteCells, Lib.byteCells, List.map_set]

theorem xor3_byte (a b c : UInt8) : bits .xor .u8 (bits .xor .u8 (a.toNat : Int) (b.toNat : Int)) (c.toNat : Int) = ((a ^^^ b ^^^ c).toNat : Int) := by
  have ha := a.toNat_lt
  have hb := b.toNat_lt
  have hc := c.toNat_lt
  rw [u8_xor_nat _ _ ha hb, u8_xor_nat _ _ (Nat.xor_lt_two_pow (n := 8) ha hb) hc, UInt8.toNat_xor, UInt8.toNat_xor]

theorem linear_fact (x y z : ByteArray) (h1 : x.size = y.size) (h2 : y.size = z.size) :
    (bits .xor .u32 (bits .xor .u32 (bits .xor .u32 (Crc.sum x.data.toList : Int) (Crc.sum y.data.toList : Int)) (Crc.sum z.data.toList : Int)) (Crc.sum (xor3 x.data.toList y.data.toList z.data.toList) : Int) == 0) = true := by
  rw [Lib.size_eq, Lib.size_eq] at h1 h2
  have hx := Crc.sum_lt x.data.toList
  have hy := Crc.sum_lt y.data.toList
  have hz := Crc.sum_lt z.data.toList
  have hd := Crc.sum_lt (xor3 x.data.toList y.data.toList z.data.toList)
  have hxy := Nat.xor_lt_two_pow (n := 32) hx hy
  have hxyz := Nat.xor_lt_two_pow (n := 32) hxy hz
  have hl := Crc.linear x.data.toList y.data.toList z.data.toList h1 h2
  rw [u32_xor_nat _ _ hx hy, u32_xor_nat _ _ hxy hz, u32_xor_nat _ _ hxyz hd]
  rw [xor3, hl]
  rfl

structure LinS (w : World) (x y z : ByteArray) (n : Nat) (W : World) : Prop where
  own : W.ownsRow w.heap.size 5 1 (.slice (some ⟨w.heap.size, 0, none⟩) n n) n (Lib.byteCells (xor3 x.data.toList y.data.toList z.data.toList))
  bel : Below w.heap.size w W

theorem LinS.conv {w W : World} {x y z : ByteArray} {n : Nat} (h : LinS w x y z n W) : (convert 30 9 (.slice (some ⟨w.heap.size, 0, none⟩) n n)).run Try.prog W = .ok (.string ⟨(xor3 x.data.toList y.data.toList z.data.toList).toArray⟩) W := conv_own h.own
theorem LinS.both {w W : World} {x y z : ByteArray} {n : Nat} (h : LinS w x y z n W) : LinS w x y z n W ∧ (convert 30 9 (.slice (some ⟨w.heap.size, 0, none⟩) n n)).run Try.prog W = .ok (.string ⟨(xor3 x.data.toList y.data.toList z.data.toList).toArray⟩) W := ⟨h, h.conv⟩
theorem LinS.drew {w W : World} {x y z : ByteArray} {n : Nat} (h : LinS w x y z n W) : LinS w x y z n W.drew := ⟨h.own.drew, h.bel.drew⟩
theorem LinS.alloc {w W : World} {x y z : ByteArray} {n : Nat} (h : LinS w x y z n W) (o : Obj) : LinS w x y z n (W.alloc o) := ⟨h.own.alloc o, h.bel.alloc h.bel.size o⟩
theorem LinS.call {w W W' : World} {x y z : ByteArray} {n : Nat} (h : LinS w x y z n W) (hb : Below W.heap.size W W') : LinS w x y z n W' :=
  ⟨h.own.kept (grown_of_below hb (Nat.le_refl _) none) (Or.inr (by simp [Value.ownBlock])), h.bel.trans (hb.mono h.bel.size)⟩

theorem bcell {W w1 : World} (hb : Below W.heap.size W w1) : (∀ b o, b < W.heap.size → w1.cell? ⟨b, o, none⟩ = W.cell? ⟨b, o, none⟩) ∧ (∀ b o, b < W.heap.size → w1.frozen? ⟨b, o, none⟩ = W.frozen? ⟨b, o, none⟩) :=
  ⟨fun b o h => hb.cell (p := ⟨b, o, none⟩) h, fun b o h => hb.frozen (p := ⟨b, o, none⟩) h⟩

theorem sum_at (W : World) (g : Nat) (s : ByteArray) (hc : W.cell? ⟨g, 0, none⟩ = some (.string s)) (hs : s.size ≤ 9223372036854775807) :
    Calls Try.prog 9 #[.slice (some ⟨g, 0, none⟩) 1 1] W fun e w' => e = .returned (.int .u32 (Crc.sum s.data.toList : Nat)) ∧ Below W.heap.size W w' := by
  have hS : Strs W W.heap.size (some ⟨g, 0, none⟩) [s] := by
    refine Or.inr ⟨g, 0, rfl, lt_of_cell hc, fun i hi => ?_⟩
    match i, hi with
    | 0, _ => exact hc
  have h := sum_walk (some ⟨g, 0, none⟩) 1 [s] W hS (by simp) (by simpa using hs)
  have e : Crc.cat [s] = s.data.toList := by simp [Crc.cat]
  rw [e] at h
  exact h


/-- What the operations of the last statement leave. -/
def linT (x y z d : ByteArray) (k B : Nat) : Nat → Want
  | 0 => .val (.string x) | 1 => .arr (.string x) | 2 => .val (.int .u32 (Crc.sum x.data.toList : Nat))
  | 3 => .val (.string y) | 4 => .arr (.string y) | 5 => .val (.int .u32 (Crc.sum y.data.toList : Nat))
  | 6 => .val (.int .u32 (bits .xor .u32 (Crc.sum x.data.toList : Int) (Crc.sum y.data.toList : Int)))
  | 7 => .val (.string z) | 8 => .arr (.string z) | 9 => .val (.int .u32 (Crc.sum z.data.toList : Nat))
  | 10 => .val (.int .u32 (bits .xor .u32 (bits .xor .u32 (Crc.sum x.data.toList : Int) (Crc.sum y.data.toList : Int)) (Crc.sum z.data.toList : Int)))
  | 11 => .val (.slice (some ⟨B, 0, none⟩) k k)
  | 12 => .val (.string d) | 13 => .arr (.string d) | 14 => .val (.int .u32 (Crc.sum d.data.toList : Nat))
  | 15 => .val (.int .u32 (bits .xor .u32 (bits .xor .u32 (bits .xor .u32 (Crc.sum x.data.toList : Int) (Crc.sum y.data.toList : Int)) (Crc.sum z.data.toList : Int)) (Crc.sum d.data.toList : Int)))
  | 16 => .val (.bool true) | 17 => .val (.bool true) | 18 => .val (.bool true) | 19 => .val (.bool true) | 20 => .val (.bool true)
  | _ => .any

set_option maxRecDepth 100000 in
set_option maxHeartbeats 40000000 in
theorem linear_walk (a b c : ByteArray) (w : World) (ha : a.size ≤ 9223372036854775807) (hb : b.size ≤ 9223372036854775807) (hc : c.size ≤ 9223372036854775807) :
    Calls Try.prog 7 #[.string a, .string b, .string c] w fun e w' => e = .returned (.bool true) ∧ Below w.heap.size w w' := by
  obtain ⟨n, hn⟩ : ∃ n : Nat, (n : Int) = min (min (min (a.size : Int) (b.size : Int)) (c.size : Int)) 50000 := ⟨(min (min (min a.size b.size) c.size) 50000), by omega⟩
  have hmin := fun W => run_min4 (P := Try.prog) W (a.size : Int) (b.size : Int) (c.size : Int) 50000
  rw [← hn] at hmin
  have hn5 : n ≤ 50000 := by omega
  obtain ⟨x, hsx, hxn⟩ := head_of a n (by omega)
  obtain ⟨y, hsy, hyn⟩ := head_of b n (by omega)
  obtain ⟨z, hsz, hzn⟩ := head_of c n (by omega)
  have na : n ≤ a.size := by omega
  have nb : n ≤ b.size := by omega
  have nc : n ≤ c.size := by omega
  have na' : (n : Int) ≤ (a.size : Int) := by omega
  have nb' : (n : Int) ≤ (b.size : Int) := by omega
  have nc' : (n : Int) ≤ (c.size : Int) := by omega
  have HX := Lib.hid hxn
  have HY := Lib.hid hyn
  have HZ := Lib.hid hzn
  obtain ⟨i0, hi, hz0, hz1, hz2⟩ := info_parts (P := Try.prog) (e := 5) (z := .int .u8 0) (size := 1) (bytes := 1) (by kernel_rfl)
  have hmk : ∀ W : World, (Instr.makeSlice 30 (.int .i64 (n : Int)) (.int .i64 (n : Int))).run Try.prog W = .ok (.slice (some ⟨W.heap.size, 0, none⟩) n n) (W.alloc (.cells (madeCells (Value.int .u8 0).cells (n * 1)) 5)) := fun W => by
    have h := run_make (P := Try.prog) W 30 5 i0 (.int .u8 0) Try.underlying30 hi hz0 .i64 .i64 (n : Int) (n : Int) (by omega) (by omega) (by rw [hz2]; omega) (by omega)
    rw [hz1] at h
    simpa using h
  obtain ⟨M, hM⟩ : ∃ M, M = madeCells (Value.int .u8 0).cells (n * 1) := ⟨_, rfl⟩
  rw [← hM] at hmk
  have hMl : M.toList = Lib.byteCells (List.replicate n 0) := by rw [hM]; exact made_zero n
  have hMs : M.size = n * 1 := by rw [hM, size_madeCells]
  have HM := Lib.hid hMl
  have HMS := Lib.hid hMs
  clear hn hxn hyn hzn hM hMl hMs
  go_enter Try.func7, Try.ntmps7
  go_wp2_with fail
  go_quiet (fail)
  go_wp2_with fail
  go_loopw [9] (fun i wr => ∃ k : Nat, i = .int .i64 k ∧ k ≤ n ∧ wr.ownsRow w.heap.size 5 1 (.slice (some ⟨w.heap.size, 0, none⟩) n n) n (Lib.byteCells (part3 x y z n k)) ∧ Below w.heap.size w wr)
    (fun i _ => n - (intOf i).toNat)
  case atStart =>
    refine ⟨0, rfl, Nat.zero_le _, ?_, (below_drewN (Below.refl _ _) _).alloc (Nat.le_refl _) _⟩
    have := World.ownsRow_lit (base := w.heap.size) (e := 5) (size := 1) (w.drewN nq) M n (Nat.le_refl _) (by unfold maxLen; omega) HMS.out
    rw [HM.out] at this
    rw [part3_zero]
    exact this
  case round =>
    obtain ⟨k, rfl, hk, hown, hb2⟩ := hrel
    by_cases hlt : k < n
    · have hkx : k < x.size := by rw [HX.out]; exact hlt
      have hky : k < y.size := by rw [HY.out]; exact hlt
      have hkz : k < z.size := by rw [HZ.out]; exact hlt
      have hcell : ∃ v, wr.cell? ⟨w.heap.size, k, none⟩ = some v := by
        rw [hown.cellAt k (by omega)]
        have : k < (Lib.byteCells (part3 x y z n k)).length := by rw [hown.1]; omega
        exact ⟨_, List.getElem?_eq_getElem this⟩
      obtain ⟨v, hcell⟩ := hcell
      have hfz := hown.frozenAt k
      have HS := Lib.hid (hown.stored k (.int .u8 ((x[k]'hkx ^^^ y[k]'hky ^^^ z[k]'hkz).toNat)))
      have HB := Lib.hid hb2
      have HO := Lib.hid (xor3_byte (x[k]'hkx) (y[k]'hky) (z[k]'hkz))
      clear hown hb2
      have HL : Hid ((xor3 x.data.toList y.data.toList z.data.toList).length = n) := Lib.hid (by
        have h1 := HX.out
        have h2 := HY.out
        have h3 := HZ.out
        rw [Lib.size_eq] at h1 h2 h3
        simp [xor3, h1, h2, h3])
      have HP := Lib.hid (part3_next x y z n k hkx hky hkz HL.out hlt)
      go_wp2_with fail
      go_region
      all_goals go_wp2_with fail
      go_roundw
      case rel =>
        rw [HO.out]
        refine ⟨k + 1, by go_num, by omega, ?_, ((HB.out.grown HS.out.2 (HB.out.size) (fun k hk => by simp at hk; omega))).drew⟩
        rw [← HP.out]
        exact HS.out.1.drew
      case measure => simp [intOf]; omega
    · have hk2 : k = n := by omega
      subst hk2
      have HL : Hid (part3 x y z k k = xor3 x.data.toList y.data.toList z.data.toList) := Lib.hid (by
        have h1 := HX.out
        have h2 := HY.out
        have h3 := HZ.out
        rw [Lib.size_eq] at h1 h2 h3
        rw [part3, Nat.sub_self, List.replicate_zero, List.append_nil, List.take_of_length_le]
        simp [xor3, h1, h2, h3])
      rw [HL.out] at hown
      have hszz := hb2.size
      have hS : LinS w x y z k wr := ⟨hown, hb2⟩
      have hcv := hS.conv
      have hxs : x.size ≤ 9223372036854775807 := by have := HX.out; omega
      have hys : y.size ≤ 9223372036854775807 := by have := HY.out; omega
      have hzs : z.size ≤ 9223372036854775807 := by have := HZ.out; omega
      have hds : (⟨(xor3 x.data.toList y.data.toList z.data.toList).toArray⟩ : ByteArray).size ≤ 9223372036854775807 := by
        have h1 := HX.out
        rw [Lib.size_eq] at h1
        rw [size_list, xor3, List.length_zipWith, List.length_zipWith]
        omega
      have hfin := linear_fact x y z (by rw [HX.out, HY.out]) (by rw [HY.out, HZ.out])
      have HXS := Lib.hid hxs
      have HYS := Lib.hid hys
      have HZS := Lib.hid hzs
      have HDS := Lib.hid hds
      clear hxs hys hzs hds hown hb2 hszz
      go_wp2_with fail
      obtain ⟨d, hd⟩ : ∃ d : ByteArray, d = ⟨(xor3 x.data.toList y.data.toList z.data.toList).toArray⟩ := ⟨_, rfl⟩
      have hDT : d.data.toList = xor3 x.data.toList y.data.toList z.data.toList := by rw [hd]
      rw [← hDT] at hfin
      have HFIN := Lib.hid hfin
      have HDS' : Hid (d.size ≤ 9223372036854775807) := Lib.hid (by rw [hd]; exact HDS.out)
      have HCV : ∀ W, LinS w x y z k W → (convert 30 9 (.slice (some ⟨w.heap.size, 0, none⟩) k k)).run Try.prog W = .ok (.string d) W := fun W h => by rw [hd]; exact h.conv
      clear hd hDT hfin HDS hcv
      refine wp_orders (rs := [0, 1, 2, 3, 4, 5, 6, 7, 8, 9, 10, 11, 12, 13, 14, 15, 16, 17, 18, 19, 20])
        (fun u => { tmps := #[.string x, .string y, .string z, undef, undef, undef, u 20, .int .i64 k, .slice (some ⟨w.heap.size, 0, none⟩) k k, .int .i64 k,
          .string a, .int .i64 a.size, .string b, .int .i64 b.size, .string c, .int .i64 c.size, .int .i64 k, .string a, .int .i64 k,
          .string x, .string b, .int .i64 k, .string y, .string c, .int .i64 k, .string z, .int .i64 k,
          .slice (some ⟨w.heap.size, 0, none⟩) k k, .int .i64 k, .int .i64 k, .bool false, u31, u32, u33, u34, u35, u36, u37, u38, u39, u40, u41, u42, u43, u44, u45, u46,
          u 0, u 1, u 2, u 3, u 4, u 5, u 6, u 7, u 8, u 9, u 10, u 11, u 12, u 13, u 14, u 15, u 16, u 17, u 18, u 19], defers := [] })
        (fun j => cond (Nat.beq j 20) (.bool false) undef) (linT x y z d k w.heap.size) (LinS w x y z k) (by kernel_rfl) (by kernel_rfl) (by kernel_rfl) hS.drew ?_ ?_
      refine StepsAt.cons _ rfl (fun u W K' hJ hd hK => step_value rfl (run_mv (.tmp 0) rfl W) (hK.out _ _ rfl hJ (Below.refl _ _))) ?_
      refine StepsAt.cons _ rfl (fun u W K' hJ hd hK => ?_) ?_
      · have d1 : u 0 = .string x := hd 0 (by kernel_rfl)
        refine step_value (v := .slice (some ⟨W.heap.size, 0, none⟩) 1 1) (W' := W.alloc (.cells #[.string x] 9)) rfl ?_ (hK.out _ _ ⟨W.heap.size, rfl, by simp⟩ (hJ.alloc _) ((Below.refl _ _).alloc (Nat.le_refl _) _))
        dsimp only
        go_simp
      refine StepsAt.cons _ rfl (fun u W K' hJ hd hK => ?_) ?_
      · obtain ⟨g, d1, hcell⟩ : ∃ g : Nat, u 1 = .slice (some ⟨g, 0, none⟩) 1 1 ∧ W.cell? ⟨g, 0, none⟩ = some (.string x) := hd 1 (by kernel_rfl)
        refine step_enter (f := 9) (args := #[.slice (some ⟨g, 0, none⟩) 1 1]) (W' := W) rfl ?_ ((sum_at W g x hcell HXS.out).mono fun e w' h => ⟨_, h.1, hK.out _ _ rfl (hJ.call h.2) h.2⟩)
        dsimp only
        go_simp
      refine StepsAt.cons _ rfl (fun u W K' hJ hd hK => step_value rfl (run_mv (.tmp 1) rfl W) (hK.out _ _ rfl hJ (Below.refl _ _))) ?_
      refine StepsAt.cons _ rfl (fun u W K' hJ hd hK => ?_) ?_
      · have d1 : u 3 = .string y := hd 3 (by kernel_rfl)
        refine step_value (v := .slice (some ⟨W.heap.size, 0, none⟩) 1 1) (W' := W.alloc (.cells #[.string y] 9)) rfl ?_ (hK.out _ _ ⟨W.heap.size, rfl, by simp⟩ (hJ.alloc _) ((Below.refl _ _).alloc (Nat.le_refl _) _))
        dsimp only
        go_simp
      refine StepsAt.cons _ rfl (fun u W K' hJ hd hK => ?_) ?_
      · obtain ⟨g, d1, hcell⟩ : ∃ g : Nat, u 4 = .slice (some ⟨g, 0, none⟩) 1 1 ∧ W.cell? ⟨g, 0, none⟩ = some (.string y) := hd 4 (by kernel_rfl)
        refine step_enter (f := 9) (args := #[.slice (some ⟨g, 0, none⟩) 1 1]) (W' := W) rfl ?_ ((sum_at W g y hcell HYS.out).mono fun e w' h => ⟨_, h.1, hK.out _ _ rfl (hJ.call h.2) h.2⟩)
        dsimp only
        go_simp
      refine StepsAt.cons _ rfl (fun u W K' hJ hd hK => ?_) ?_
      · have d1 : u 2 = .int .u32 (Crc.sum x.data.toList : Nat) := hd 2 (by kernel_rfl)
        have d2 : u 5 = .int .u32 (Crc.sum y.data.toList : Nat) := hd 5 (by kernel_rfl)
        refine step_value (v := .int .u32 (bits .xor .u32 (Crc.sum x.data.toList : Int) (Crc.sum y.data.toList : Int))) (W' := W) rfl ?_ (hK.out _ _ rfl hJ (Below.refl _ _))
        dsimp only
        go_simp
      refine StepsAt.cons _ rfl (fun u W K' hJ hd hK => step_value rfl (run_mv (.tmp 2) rfl W) (hK.out _ _ rfl hJ (Below.refl _ _))) ?_
      refine StepsAt.cons _ rfl (fun u W K' hJ hd hK => ?_) ?_
      · have d1 : u 7 = .string z := hd 7 (by kernel_rfl)
        refine step_value (v := .slice (some ⟨W.heap.size, 0, none⟩) 1 1) (W' := W.alloc (.cells #[.string z] 9)) rfl ?_ (hK.out _ _ ⟨W.heap.size, rfl, by simp⟩ (hJ.alloc _) ((Below.refl _ _).alloc (Nat.le_refl _) _))
        dsimp only
        go_simp
      refine StepsAt.cons _ rfl (fun u W K' hJ hd hK => ?_) ?_
      · obtain ⟨g, d1, hcell⟩ : ∃ g : Nat, u 8 = .slice (some ⟨g, 0, none⟩) 1 1 ∧ W.cell? ⟨g, 0, none⟩ = some (.string z) := hd 8 (by kernel_rfl)
        refine step_enter (f := 9) (args := #[.slice (some ⟨g, 0, none⟩) 1 1]) (W' := W) rfl ?_ ((sum_at W g z hcell HZS.out).mono fun e w' h => ⟨_, h.1, hK.out _ _ rfl (hJ.call h.2) h.2⟩)
        dsimp only
        go_simp
      refine StepsAt.cons _ rfl (fun u W K' hJ hd hK => ?_) ?_
      · have d1 : u 6 = .int .u32 (bits .xor .u32 (Crc.sum x.data.toList : Int) (Crc.sum y.data.toList : Int)) := hd 6 (by kernel_rfl)
        have d2 : u 9 = .int .u32 (Crc.sum z.data.toList : Nat) := hd 9 (by kernel_rfl)
        refine step_value (v := .int .u32 (bits .xor .u32 (bits .xor .u32 (Crc.sum x.data.toList : Int) (Crc.sum y.data.toList : Int)) (Crc.sum z.data.toList : Int))) (W' := W) rfl ?_ (hK.out _ _ rfl hJ (Below.refl _ _))
        dsimp only
        go_simp
      refine StepsAt.cons _ rfl (fun u W K' hJ hd hK => step_value rfl (run_mv (.tmp 8) rfl W) (hK.out _ _ rfl hJ (Below.refl _ _))) ?_
      refine StepsAt.cons _ rfl (fun u W K' hJ hd hK => ?_) ?_
      · have d1 : u 11 = .slice (some ⟨w.heap.size, 0, none⟩) k k := hd 11 (by kernel_rfl)
        have hcv := HCV W hJ
        refine step_value (v := .string d) (W' := W) rfl ?_ (hK.out _ _ rfl hJ (Below.refl _ _))
        dsimp only
        go_simp
      refine StepsAt.cons _ rfl (fun u W K' hJ hd hK => ?_) ?_
      · have d1 : u 12 = .string d := hd 12 (by kernel_rfl)
        refine step_value (v := .slice (some ⟨W.heap.size, 0, none⟩) 1 1) (W' := W.alloc (.cells #[.string d] 9)) rfl ?_ (hK.out _ _ ⟨W.heap.size, rfl, by simp⟩ (hJ.alloc _) ((Below.refl _ _).alloc (Nat.le_refl _) _))
        dsimp only
        go_simp
      refine StepsAt.cons _ rfl (fun u W K' hJ hd hK => ?_) ?_
      · obtain ⟨g, d1, hcell⟩ : ∃ g : Nat, u 13 = .slice (some ⟨g, 0, none⟩) 1 1 ∧ W.cell? ⟨g, 0, none⟩ = some (.string d) := hd 13 (by kernel_rfl)
        refine step_enter (f := 9) (args := #[.slice (some ⟨g, 0, none⟩) 1 1]) (W' := W) rfl ?_ ((sum_at W g d hcell HDS'.out).mono fun e w' h => ⟨_, h.1, hK.out _ _ rfl (hJ.call h.2) h.2⟩)
        dsimp only
        go_simp
      refine StepsAt.cons _ rfl (fun u W K' hJ hd hK => ?_) ?_
      · have d1 : u 10 = .int .u32 (bits .xor .u32 (bits .xor .u32 (Crc.sum x.data.toList : Int) (Crc.sum y.data.toList : Int)) (Crc.sum z.data.toList : Int)) := hd 10 (by kernel_rfl)
        have d2 : u 14 = .int .u32 (Crc.sum d.data.toList : Nat) := hd 14 (by kernel_rfl)
        refine step_value (v := .int .u32 (bits .xor .u32 (bits .xor .u32 (bits .xor .u32 (Crc.sum x.data.toList : Int) (Crc.sum y.data.toList : Int)) (Crc.sum z.data.toList : Int)) (Crc.sum d.data.toList : Int))) (W' := W) rfl ?_ (hK.out _ _ rfl hJ (Below.refl _ _))
        dsimp only
        go_simp
      refine StepsAt.cons _ rfl (fun u W K' hJ hd hK => ?_) ?_
      · have d1 : u 15 = .int .u32 (bits .xor .u32 (bits .xor .u32 (bits .xor .u32 (Crc.sum x.data.toList : Int) (Crc.sum y.data.toList : Int)) (Crc.sum z.data.toList : Int)) (Crc.sum d.data.toList : Int)) := hd 15 (by kernel_rfl)
        have hfin := HFIN.out
        refine step_value (v := .bool true) (W' := W) rfl ?_ (hK.out _ _ rfl hJ (Below.refl _ _))
        dsimp only
        go_simp
      refine StepsAt.cons _ rfl (fun u W K' hJ hd hK => ?_) ?_
      · have d1 : u 16 = .bool true := hd 16 (by kernel_rfl)
        exact step_value rfl (run_mv (.tmp 63) rfl W) (hK.out _ _ d1 hJ (Below.refl _ _))
      refine StepsAt.cons _ rfl (fun u W K' hJ hd hK => ?_) ?_
      · have d1 : u 17 = .bool true := hd 17 (by kernel_rfl)
        refine step_enter (f := 11) (args := #[]) (W' := W) ?_ ?_ ((cawake W).mono fun e w' h => ⟨_, h.1, hK.out _ _ rfl (hJ.call h.2) h.2⟩)
        · dsimp only
          simp [Region.wanted, yielded, d1]
        · dsimp only
          go_simp
      refine StepsAt.cons _ rfl (fun u W K' hJ hd hK => ?_) ?_
      · have d1 : u 17 = .bool true := hd 17 (by kernel_rfl)
        have d2 : u 18 = .bool true := hd 18 (by kernel_rfl)
        refine step_value (v := .bool true) (W' := W) rfl ?_ (hK.out _ _ rfl hJ (Below.refl _ _))
        dsimp only
        go_simp
      refine StepsAt.cons _ rfl (fun u W K' hJ hd hK => ?_) StepsAt.nil
      · have d1 : u 19 = .bool true := hd 19 (by kernel_rfl)
        exact step_value rfl (run_as (.tmp 66) rfl W) (hK.out _ _ d1 hJ (Below.refl _ _))
      intro u W hJ hok
      have d1 : u 20 = .bool true := hok 20 (by decide)
      have hbel := hJ.bel
      dsimp only
      rw [d1]
      go_wp2
      go_ret
      exact ⟨rfl, hbel⟩
end Go.Proofs.Ytleaeidjdjhbiaa
