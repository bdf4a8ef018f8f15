/- ShpS0, ShpS1, ShpS1h, ShpS2, ShelfLen, ShpS2b, ShpS3, together. -/
import Derived.Test.YtkehnmapnckdgaaDoorGC
import Derived.Sort.AssemblyPlain
import Derived.Sort.WalkA6
import Derived.Sort.WalkB2
import Derived.Sort.WalkC4
import Derived.Deep.LoopGhost
import Derived.Shelf.LaysM
import Derived.Shelf.Strings.Builder1
import Derived.Shelf.Strconv.Itoa0
import Derived.Test.YtkehnmapnckdgaaDoorGBase
import Derived.Sort.Walk7a
/- sort.Sort over methods that are asked for no more than they say: the frame, and its first body. -/
namespace Go.Proofs.YtkehnmapnckdgaaDoor
open Go.RowKit Go.Sort
set_option linter.unusedVariables false

/-- Memory from B on that reads as it did. -/
def Kpt (B : Nat) (w w' : World) : Prop := w.heap.size ≤ w'.heap.size ∧ ∀ b, B ≤ b → b < w.heap.size → w'.heap[b]? = w.heap[b]?
theorem Kpt.next {B : Nat} {a b c : World} (h : Kpt B a b) (k : Kpt B b c) : Kpt B a c := ⟨Nat.le_trans h.1 k.1, fun x h1 h2 => (k.2 x h1 (Nat.lt_of_lt_of_le h2 h.1)).trans (h.2 x h1 h2)⟩

/-- What is asked of the methods Less and Swap, of what a world holds (St), and of the memory that is left alone. -/
structure Srt {α : Type} [Inhabited α] (N B : Nat) (rv : Value) (lt : α → α → Bool) (St : Array α → World → Prop) : Prop where
  less : ∀ d w (i j : Int), St d w → 0 ≤ i → i < N → 0 ≤ j → j < N → Calls Tryd.prog 124 #[rv, .int .i64 i, .int .i64 j] w fun e w' => e = .returned (.bool (lt d[i.toNat]! d[j.toNat]!)) ∧ St d w' ∧ Kpt B w w'
  swap : ∀ d w (i j : Int), St d w → 0 ≤ i → i < N → 0 ≤ j → j < N → Calls Tryd.prog 125 #[rv, .int .i64 i, .int .i64 j] w fun e w' => e = .returned (.tuple #[]) ∧ St (swp d i.toNat j.toNat) w' ∧ Kpt B w w'
  size : ∀ d w, St d w → d.size = N
  big : N < 1000000
  base : ∀ d w, St d w → B ≤ w.heap.size
  keep : ∀ d w w', St d w → Below B w w' → St d w'
  mL : ∀ w, Sem.run Tryd.prog (method (Tryd.prog.types.size + 100) 53 rv "Less") w = .ok (124, rv) w
  mS : ∀ w, Sem.run Tryd.prog (method (Tryd.prog.types.size + 100) 53 rv "Swap") w = .ok (125, rv) w

variable {α : Type} [Inhabited α] {N B : Nat} {rv : Value} {lt : α → α → Bool} {St : Array α → World → Prop}

theorem Srt.lessAt (H : Srt N B rv lt St) {d : Array α} {w : World} (h : St d w) (i j : Nat) {x y : Int} {v : Bool} (hv : lt d[i]! d[j]! = v) (hi : i < N) (hj : j < N) (hx : x = i) (hy : y = j) :
    Calls Tryd.prog 124 #[rv, .int .i64 x, .int .i64 y] w fun e w' => e = .returned (.bool v) ∧ St d w' ∧ Kpt B w w' := by
  subst hx; subst hy; subst hv
  exact H.less d w i j h (by omega) (by omega) (by omega) (by omega)
theorem Srt.swapAt (H : Srt N B rv lt St) {d : Array α} {w : World} (h : St d w) (i j : Nat) {x y : Int} (hi : i < N) (hj : j < N) (hx : x = i) (hy : y = j) :
    Calls Tryd.prog 125 #[rv, .int .i64 x, .int .i64 y] w fun e w' => e = .returned (.tuple #[]) ∧ St (swp d i j) w' ∧ Kpt B w w' := by
  subst hx; subst hy
  exact H.swap d w i j h (by omega) (by omega) (by omega) (by omega)

set_option maxHeartbeats 2000000 in
set_option maxRecDepth 100000 in
theorem sins_walk (H : Srt N B rv lt St) (a b : Nat) (d : Array α) (w : World) (hH : St d w) (hab : a ≤ b) (hb : b ≤ N) :
    Calls Tryd.prog 83 #[.iface 53 rv, .int .i64 a, .int .i64 b] w fun e w' => e = .returned (.tuple #[]) ∧ St (Sort.insertionSort lt d a b) w' := by
  have mL := H.mL
  have mS := H.mS
  have hbig := H.big
  have hsz := H.size d w hH
  go_enter Tryd.func83, Tryd.ntmps83
  go_wp2
  go_loopw [6] (fun vi wr => ∃ (i : Nat) (dk : Array α), vi = .int .i64 i ∧ a < i ∧ i ≤ b + 1 ∧ St dk wr ∧ insOuter lt a b i dk = insOuter lt a b (a + 1) d) (fun vi _ => b + 1 - (intOf vi).toNat)
  case atStart => exact ⟨a + 1, d, by go_num, by omega, by omega, hH, rfl⟩
  case round =>
    obtain ⟨i, dk, rfl, hai, hib, hwr, hO⟩ := hrel
    have HO : Hid (insOuter lt a b i dk = insOuter lt a b (a + 1) d) := hO
    clear hO
    go_wp2
    · go_loopw [7] (fun vj wr2 => ∃ (j : Nat) (dj : Array α), vj = .int .i64 j ∧ a ≤ j ∧ j ≤ i ∧ St dj wr2 ∧ insInner lt a j dj = insInner lt a i dk) (fun vj _ => (intOf vj).toNat)
      case atStart => exact ⟨i, dk, rfl, by omega, Nat.le_refl _, hwr, rfl⟩
      case round =>
        obtain ⟨j, dj, rfl, haj, hji, hw2, hI⟩ := hrel
        have hlt : i < b := by assumption
        have HI : Hid (insInner lt a j dj = insInner lt a i dk) := hI
        clear hI hwr
        have out : (j ≤ a ∨ lt dj[j]! dj[j - 1]! = false) → ∀ w2, St dj w2 → ∃ i' dk', Value.int .i64 ((i : Int) + 1) = .int .i64 (i' : Nat) ∧ a < i' ∧ i' ≤ b + 1 ∧ St dk' w2 ∧ insOuter lt a b i' dk' = insOuter lt a b (a + 1) d := fun hs w2 h2 =>
          ⟨i + 1, dj, by go_num, by omega, by omega, h2, by rw [← HO.out, insOuter_go _ _ _ _ _ hlt, ← HI.out, insInner_stop _ _ _ _ hs]⟩
        have OUT : Hid _ := out
        clear out
        by_cases hja : a < j
        · cases hlv : lt dj[j]! dj[j - 1]! with
          | true =>
            go_wp2_with fail
            refine (H.less dj _ _ _ hw2 (by omega) (by omega) (by omega) (by omega)).mono ?_
            rintro e w' ⟨rfl, hS, -⟩
            rw [show ((j : Int)).toNat = j by omega, show ((j : Int) - 1).toNat = j - 1 by omega, hlv]
            go_wp2_with fail
            refine (H.swap dj _ _ _ hS (by omega) (by omega) (by omega) (by omega)).mono ?_
            rintro e w2 ⟨rfl, hS2, -⟩
            rw [show ((j : Int)).toNat = j by omega, show ((j : Int) - 1).toNat = j - 1 by omega] at hS2
            go_wp2_with fail
            go_roundw
            case rel =>
              (repeat apply Exists.intro)
              exact ⟨⟨j - 1, swp dj j (j - 1), by congr 1 <;> omega, by omega, by omega, hS2, by rw [← HI.out, insInner_go lt a j dj hja hlv]⟩, by rw [decide_eq_true hlt, show ((j - 1 : Nat) : Int) = (j : Int) - 1 by omega]⟩
            case measure => simp [intOf]; omega
          | false =>
            go_wp2_with fail
            refine (H.less dj _ _ _ hw2 (by omega) (by omega) (by omega) (by omega)).mono ?_
            rintro e w' ⟨rfl, hS, -⟩
            rw [show ((j : Int)).toNat = j by omega, show ((j : Int) - 1).toNat = j - 1 by omega, hlv]
            go_wp2_with fail
            go_roundw
            case rel => exact OUT.out (Or.inr hlv) _ hS
            case measure => simp [intOf]; omega
        · go_wp2
          go_roundw
          case rel => exact OUT.out (Or.inl (by omega)) _ hw2
          case measure => simp [intOf]; omega
    · have hge : ¬ i < b := by assumption
      go_end0
      exact ⟨rfl, by unfold Sort.insertionSort; rw [← HO.out, insOuter_stop _ _ _ _ _ hge]; exact hwr⟩
end Go.Proofs.YtkehnmapnckdgaaDoor

/- The heap. -/
namespace Go.Proofs.YtkehnmapnckdgaaDoor
open Go.RowKit Go.Sort
set_option linter.unusedVariables false
variable {α : Type} [Inhabited α] {N B : Nat} {rv : Value} {lt : α → α → Bool} {St : Array α → World → Prop}

set_option maxHeartbeats 12800000 in
set_option maxRecDepth 100000 in
theorem ssift_walk (H : Srt N B rv lt St) (lo hi first : Nat) (d : Array α) (w : World) (hH : St d w) (hlo : lo ≤ hi) (hb : first + hi ≤ N) :
    Calls Tryd.prog 96 #[.iface 53 rv, .int .i64 lo, .int .i64 hi, .int .i64 first] w fun e w' => e = .returned (.tuple #[]) ∧ St (siftDown lt hi first lo d) w' := by
  have mL := H.mL
  have mS := H.mS
  have hbig := H.big
  go_enter Tryd.func96, Tryd.ntmps96
  go_wp2
  go_loopg [8] (hi - lo) (fun kx s8 wr => ∃ (root : Nat) (dk : Array α), s8 = .int .i64 root ∧ root ≤ hi ∧ hi - root ≤ kx ∧ St dk wr ∧ Hid (siftDown lt hi first root dk = siftDown lt hi first lo d))
  case atStart => exact ⟨lo, d, rfl, hlo, Nat.le_refl _, hH, rfl⟩
  case round =>
    obtain ⟨root, dk, rfl, hr, hkx, hS, HE⟩ := hrel
    clear hH
    by_cases h0 : hi ≤ 2 * root + 1
    · have h0z : (hi : Int) ≤ 2 * (root : Int) + 1 := by omega
      go_wp2
      go_end0
      exact ⟨rfl, by rw [← HE.out, sd_end lt dk h0]; exact hS⟩
    · have h0z : ¬ ((hi : Int) ≤ 2 * (root : Int) + 1) := by omega
      go_upto_region 3 with fail
      go_cut [31] (fun p wx => ∃ v : Bool, p = .bool v ∧ St dk wx ∧ Hid (v = true → 2 * root + 2 < hi ∧ lt dk[first + (2 * root + 1)]! dk[first + (2 * root + 2)]! = true) ∧ Hid (v = false → 2 * root + 2 < hi → lt dk[first + (2 * root + 1)]! dk[first + (2 * root + 2)]! = false))
      case first =>
        clear HE
        by_cases h1 : 2 * root + 2 < hi
        · have h1z : 2 * (root : Int) + 1 + 1 < (hi : Int) := by omega
          cases hL : lt dk[first + (2 * root + 1)]! dk[first + (2 * root + 2)]! <;>
          · go_wp2_with fail
            refine (H.lessAt hS (first + (2 * root + 1)) (first + (2 * root + 2)) hL (by omega) (by omega) (by omega) (by omega)).mono ?_
            rintro e w1 ⟨rfl, hS1, -⟩
            go_wp2_with fail
            go_meet
            exact ⟨_, rfl, hS1, (show Hid _ from fun h => by first | exact ⟨h1, hL⟩ | cases h), (show Hid _ from fun h _ => by first | exact hL | cases h)⟩
        · have h1z : ¬ (2 * (root : Int) + 1 + 1 < (hi : Int)) := by omega
          go_wp2_with fail
          go_meet
          exact ⟨_, rfl, hS, (show Hid _ from fun h => by cases h), (show Hid _ from fun h h2 => absurd h2 h1)⟩
      case rest =>
        clear hS
        obtain ⟨v, rfl, hS, V1, V2⟩ := hcut
        go_upto_if 31 with fail
        go_cut [9] (fun p wx => ∃ c : Nat, p = .int .i64 c ∧ root < c ∧ c < hi ∧ St dk wx ∧ Hid ((lt dk[first + root]! dk[first + c]! = false → siftDown lt hi first root dk = dk) ∧
          (lt dk[first + root]! dk[first + c]! = true → siftDown lt hi first root dk = siftDown lt hi first c (swp dk (first + root) (first + c)))))
        case first =>
          clear HE
          cases v with
          | true =>
            have h1 := V1.out rfl
            have h1z : 2 * (root : Int) + 1 + 1 < (hi : Int) := by omega
            go_wp2_with fail
            go_meet
            exact ⟨2 * root + 2, by go_num, by omega, by omega, hS, fun hG => sd_right_stop lt dk h1.1 h1.2 hG, fun hG => sd_right_go lt dk h1.1 h1.2 hG⟩
          | false =>
            go_wp2_with fail
            go_meet
            exact ⟨2 * root + 1, by go_num, by omega, by omega, hS, fun hG => sd_left_stop lt dk (by omega) (fun h => V2.out (by first | trivial | rfl) h) hG, fun hG => sd_left_go lt dk (by omega) (fun h => V2.out (by first | trivial | rfl) h) hG⟩
        case rest =>
          clear hS
          obtain ⟨c, rfl, hc1, hc2, hS, hC⟩ := hcut
          cases hG : lt dk[first + root]! dk[first + c]! with
          | true =>
            go_wp2_with fail
            refine (H.lessAt hS (first + root) (first + c) hG (by omega) (by omega) (by omega) (by omega)).mono ?_
            rintro e w2 ⟨rfl, hS2, -⟩
            go_wp2_with fail
            refine (H.swapAt hS2 (first + root) (first + c) (by omega) (by omega) (by omega) (by omega)).mono ?_
            rintro e w3 ⟨rfl, hS3, -⟩
            go_wp2_with fail
            go_roundg (hi - c)
            case measure => omega
            case rel => exact ⟨c, swp dk (first + root) (first + c), rfl, by omega, Nat.le_refl _, hS3, (show Hid _ from by rw [← HE.out, hC.out.2 hG]; exact rfl)⟩
          | false =>
            go_wp2_with fail
            refine (H.lessAt hS (first + root) (first + c) hG (by omega) (by omega) (by omega) (by omega)).mono ?_
            rintro e w2 ⟨rfl, hS2, -⟩
            go_wp2_with fail
            (try simp only [Exit.inBlock, Exit.then]); refine bodyPost_ret (results_none rfl _ _ _) rfl ?_
            exact ⟨rfl, by rw [← HE.out, hC.out.1 hG]; exact hS2⟩

end Go.Proofs.YtkehnmapnckdgaaDoor

/- The heap's sort. -/
namespace Go.Proofs.YtkehnmapnckdgaaDoor
open Go.RowKit Go.Sort
set_option linter.unusedVariables false
variable {α : Type} [Inhabited α] {N B : Nat} {rv : Value} {lt : α → α → Bool} {St : Array α → World → Prop}

set_option maxHeartbeats 12800000 in
set_option maxRecDepth 100000 in
theorem sheap_walk (H : Srt N B rv lt St) (a b : Nat) (d : Array α) (w : World) (hH : St d w) (hab : a < b) (hb : b ≤ N) :
    Calls Tryd.prog 84 #[.iface 53 rv, .int .i64 a, .int .i64 b] w fun e w' => e = .returned (.tuple #[]) ∧ St (heapSort lt d a b) w' := by
  have mL := H.mL
  have mS := H.mS
  have hbig := H.big
  go_enter Tryd.func84, Tryd.ntmps84
  go_wp2
  go_loopg [9] ((b - a - 1) / 2 + 1) (fun kx s9 wr => ∃ (k : Nat) (dk : Array α), s9 = .int .i64 ((k : Int) - 1) ∧ k ≤ (b - a - 1) / 2 + 1 ∧ k ≤ kx ∧ St dk wr ∧ Hid (heapBuild lt (b - a) a k dk = heapBuild lt (b - a) a ((b - a - 1) / 2 + 1) d))
  case atStart => exact ⟨(b - a - 1) / 2 + 1, d, by congr 1; omega, Nat.le_refl _, Nat.le_refl _, hH, rfl⟩
  case round =>
    obtain ⟨k, dk, rfl, hk, hkx, hS, HE⟩ := hrel
    clear hH
    cases k with
    | succ k =>
      have hz : (0 : Int) ≤ ((k + 1 : Nat) : Int) - 1 := by omega
      go_wp2_with fail
      have hc := ssift_walk H k (b - a) a dk _ hS (by omega) (by omega)
      rw [show (((b - a : Nat)) : Int) = (b : Int) - (a : Int) by omega] at hc
      refine hc.mono ?_
      rintro e w1 ⟨rfl, hS1⟩
      clear hc
      go_wp2_with fail
      go_roundg k
      case measure => omega
      case rel => exact ⟨k, _, rfl, by omega, Nat.le_refl _, hS1, (show Hid _ from by rw [← HE.out]; exact rfl)⟩
    | zero =>
      have hD : heapBuild lt (b - a) a ((b - a - 1) / 2 + 1) d = dk := HE.out.symm
      have HD : Hid _ := hD
      clear hD HE
      go_wp2
      go_loopg [10] (b - a) (fun kx s10 wr => ∃ (k : Nat) (dj : Array α), s10 = .int .i64 ((k : Int) - 1) ∧ k ≤ b - a ∧ k ≤ kx ∧ St dj wr ∧ Hid (heapPop lt a k dj = heapPop lt a (b - a) dk))
      case atStart => exact ⟨b - a, dk, by congr 1; omega, Nat.le_refl _, Nat.le_refl _, hS, rfl⟩
      case round =>
        clear hS
        obtain ⟨k, dj, rfl, hk2, hkx2, hS, HE⟩ := hrel
        cases k with
        | succ k =>
          have hz : (0 : Int) ≤ ((k + 1 : Nat) : Int) - 1 := by omega
          go_wp2_with fail
          refine (H.swapAt hS a (a + k) (by omega) (by omega) (by omega) (by omega)).mono ?_
          rintro e w1 ⟨rfl, hS1, -⟩
          go_wp2_with fail
          have hc := ssift_walk H 0 k a _ _ hS1 (by omega) (by omega)
          refine hc.mono ?_
          rintro e w2 ⟨rfl, hS2⟩
          clear hc
          go_wp2_with fail
          go_roundg k
          case measure => omega
          case rel => exact ⟨k, _, rfl, by omega, Nat.le_refl _, hS2, (show Hid _ from by rw [← HE.out]; exact rfl)⟩
        | zero =>
          go_wp2
          go_end0
          exact ⟨rfl, by unfold heapSort; rw [HD.out, ← HE.out]; exact hS⟩
end Go.Proofs.YtkehnmapnckdgaaDoor

/- Reversing a range. -/
namespace Go.Proofs.YtkehnmapnckdgaaDoor
open Go.RowKit Go.Sort
set_option linter.unusedVariables false
variable {α : Type} [Inhabited α] {N B : Nat} {rv : Value} {lt : α → α → Bool} {St : Array α → World → Prop}

set_option maxHeartbeats 12800000 in
set_option maxRecDepth 100000 in
theorem srev_walk (H : Srt N B rv lt St) (a b : Nat) (d : Array α) (w : World) (hH : St d w) (hab : a < b) (hb : b ≤ N) :
    Calls Tryd.prog 87 #[.iface 53 rv, .int .i64 a, .int .i64 b] w fun e w' => e = .returned (.tuple #[]) ∧ ∃ d', PermIn a b d d' ∧ St d' w' := by
  have mL := H.mL
  have mS := H.mS
  have hbig := H.big
  have hsz := H.size d w hH
  go_enter Tryd.func87, Tryd.ntmps87
  go_wp2
  go_loopg [6, 7] (b - a) (fun k s6 s7 wr => ∃ (i j : Int) (dk : Array α), s6 = .int .i64 i ∧ s7 = .int .i64 j ∧ (a : Int) ≤ i ∧ i ≤ b ∧ (a : Int) - 1 ≤ j ∧ j < b ∧ (j - i).toNat ≤ k ∧ St dk wr ∧ Hid (PermIn a b d dk))
  case atStart => exact ⟨a, (b : Int) - 1, d, rfl, rfl, by omega, by omega, by omega, by omega, by omega, hH, permIn_refl _ _ _⟩
  case round =>
    obtain ⟨i, j, dk, rfl, rfl, h1, h2, h3, h4, hk, hS, HP⟩ := hrel
    clear hH
    by_cases hlt : i < j
    · have hsk := H.size _ _ hS
      go_wp2_with fail
      refine (H.swapAt hS i.toNat j.toNat (by omega) (by omega) (by omega) (by omega)).mono ?_
      rintro e w1 ⟨rfl, hS1, -⟩
      go_wp2_with fail
      go_roundg ((j - 1) - (i + 1)).toNat
      case measure => omega
      case rel => exact ⟨i + 1, j - 1, _, rfl, rfl, by omega, by omega, by omega, by omega, Nat.le_refl _, hS1, (show Hid _ from permIn_trans _ _ _ a b HP.out (swp_permIn _ _ _ _ _ (by omega) (by omega) (by omega) (by omega) (by omega)))⟩
    · go_wp2
      go_end0
      exact ⟨rfl, dk, HP.out, hS⟩
end Go.Proofs.YtkehnmapnckdgaaDoor

/- The library contract that sort.Sort uses (bits.Len64), stated at this translation's numbers. -/
namespace Go.Proofs
open Go.Shelf
def Tryd.lays129_ren : Go.Shelf.Ren := ⟨fun | 129 => 82 | n => n, fun | 3 => 3 | 4 => 4 | 5 => 5 | 9 => 9 | 46 => 76 | 53 => 101 | n => n, fun | n => n⟩
theorem Tryd.lays129 : Go.Proofs.Lays.n129 Tryd.prog Tryd.lays129_ren := {
  mixed := by kernel_rfl
  f129 := Tryd.func82.trans (congrArg some (by kernel_rfl))
  t3 := Tryd.underlying3
  a3 := Tryd.isAgg3
  z3 := Tryd.sizeOf3
  v3 := Tryd.zeroValue3
  t4 := Tryd.underlying4
  a4 := Tryd.isAgg4
  z4 := Tryd.sizeOf4
  v4 := Tryd.zeroValue4
  t5 := Tryd.underlying5
  a5 := Tryd.isAgg5
  z5 := Tryd.sizeOf5
  v5 := Tryd.zeroValue5
  t9 := Tryd.underlying9
  a9 := Tryd.isAgg9
  z9 := Tryd.sizeOf9
  v9 := Tryd.zeroValue9
  t46 := Tryd.underlying76
  a46 := Tryd.isAgg76
  z46 := Tryd.sizeOf76
  v46 := Tryd.zeroValue76
  t53 := Tryd.underlying101
  a53 := Tryd.isAgg101
  z53 := Tryd.sizeOf101
  v53 := Tryd.zeroValue101 }
section
open Go.RowKit
/-- Len64: the number of halvings till nothing is left. -/
theorem Tryd.len64 (x : Int) (w : World) (h0 : 0 ≤ x) (h1 : x ≤ 18446744073709551615) :
    Calls Tryd.prog 82 #[.int .u64 x] w fun e w' => e = .returned (.int .i64 (Lib.bitLen x.toNat)) ∧ w' = w :=
  Any.bits_Len64 Tryd.lays129 x w h0 h1
end
end Go.Proofs

/- Three places changed for places that a little number tells. -/
namespace Go.Proofs.YtkehnmapnckdgaaDoor
open Go.RowKit Go.Sort
set_option linter.unusedVariables false
variable {α : Type} [Inhabited α] {N B : Nat} {rv : Value} {lt : α → α → Bool} {St : Array α → World → Prop}

set_option maxHeartbeats 12800000 in
set_option maxRecDepth 100000 in
theorem snext_walk (b0 X : Nat) (hX : X < 18446744073709551616) (w : World) (hc : w.cell? ⟨b0, 0, none⟩ = some (.int .u64 X)) (hf : w.frozen? ⟨b0, 0, none⟩ = false) :
    Calls Tryd.prog 98 #[.pointer (some ⟨b0, 0, none⟩)] w fun e w' => e = .returned (.int .u64 (xorNextN X : Nat)) ∧ w' = (w.setCell ⟨b0, 0, none⟩ (.int .u64 (xorNextN X : Nat))).drewN 3 := by
  obtain ⟨x1, h1⟩ : ∃ x1 : Nat, x1 = X ^^^ (X * 8192 % 18446744073709551616) := ⟨_, rfl⟩
  obtain ⟨x2, h2⟩ : ∃ x2 : Nat, x2 = x1 ^^^ (x1 / 128) := ⟨_, rfl⟩
  obtain ⟨x3, h3⟩ : ∃ x3 : Nat, x3 = x2 ^^^ (x2 * 131072 % 18446744073709551616) := ⟨_, rfl⟩
  have l1 : x1 < 18446744073709551616 := by rw [h1]; exact Nat.xor_lt_two_pow (n := 64) (by omega) (by omega)
  have l2 : x2 < 18446744073709551616 := by rw [h2]; exact Nat.xor_lt_two_pow (n := 64) (by omega) (by omega)
  have e1 : bits .xor .u64 (X : Int) (IntKind.u64.wrap ((X : Int) * 8192)) = (x1 : Int) := by
    rw [IntKind.wrap_u64, show ((X : Int) * 8192 % 18446744073709551616) = ((X * 8192 % 18446744073709551616 : Nat) : Int) by omega, bits_xor_u64_nat _ _ hX (by omega), h1]
  have e2 : bits .xor .u64 (x1 : Int) ((x1 : Int) / 128) = (x2 : Int) := by
    rw [show ((x1 : Int) / 128) = ((x1 / 128 : Nat) : Int) by omega, bits_xor_u64_nat _ _ l1 (by omega), h2]
  have e3 : bits .xor .u64 (x2 : Int) (IntKind.u64.wrap ((x2 : Int) * 131072)) = (x3 : Int) := by
    rw [IntKind.wrap_u64, show ((x2 : Int) * 131072 % 18446744073709551616) = ((x2 * 131072 % 18446744073709551616 : Nat) : Int) by omega, bits_xor_u64_nat _ _ l2 (by omega), h3]
  have hv : xorNextN X = x3 := by unfold xorNextN; simp only []; rw [← h1, ← h2, ← h3]
  rw [hv]
  clear h1 h2 h3 hv
  have hss : ∀ v v', (w.setCell ⟨b0, 0, none⟩ v).setCell ⟨b0, 0, none⟩ v' = w.setCell ⟨b0, 0, none⟩ v' := setCell_setCell w b0 0
  go_enter Tryd.func98, Tryd.ntmps98
  go_wp2
  go_region
  all_goals go_wp2
  all_goals go_region
  all_goals go_wp2
  all_goals go_region
  all_goals go_wp2
  go_ret
  exact ⟨rfl, rfl⟩

theorem slen_walk (n : Nat) (hn : n < 4611686018427387904) (w : World) : Calls Tryd.prog 66 #[.int .u64 (n : Int)] w fun e w' => e = .returned (.int .i64 (bitsLen n : Nat)) ∧ w' = w := by
  have h := fun w => Tryd.len64 (n : Int) w (by omega) (by omega)
  rw [Int.toNat_natCast, bitLen_eq _ (by omega)] at h
  go_enter Tryd.func66, Tryd.ntmps66
  go_wp2_with fail
  refine (h _).mono ?_
  rintro e w' ⟨rfl, rfl⟩
  clear h
  go_wp2_with fail
  go_ret
  exact ⟨rfl, rfl⟩

theorem spower_walk (n : Nat) (hn : n < 4611686018427387904) (w : World) : Calls Tryd.prog 97 #[.int .i64 n] w fun e w' => e = .returned (.int .u64 ((1 <<< bitsLen n : Nat) : Int)) ∧ w' = w := by
  have hk : bitsLen n ≤ 62 := (bitsLen_le_iff n 62).2 (by omega)
  have hp := wrap_two_pow (bitsLen n) hk
  go_enter Tryd.func97, Tryd.ntmps97
  go_wp2_with fail
  refine (slen_walk n hn _).mono ?_
  rintro e w' ⟨rfl, rfl⟩
  go_wp2_with fail
  go_ret
  exact ⟨rfl, rfl⟩

set_option maxHeartbeats 12800000 in
set_option maxRecDepth 100000 in
theorem sbreak_walk (H : Srt N B rv lt St) (a b : Nat) (d : Array α) (w : World) (hH : St d w) (hab : a + 8 ≤ b) (hb : b ≤ N) :
    Calls Tryd.prog 85 #[.iface 53 rv, .int .i64 a, .int .i64 b] w fun e w' => e = .returned (.tuple #[]) ∧ ∃ d', PermIn a b d d' ∧ St d' w' := by
  have mS := H.mS
  have hbig := H.big
  have hB := H.base _ _ hH
  obtain ⟨L, hL⟩ : ∃ L : Nat, L = b - a := ⟨_, rfl⟩
  obtain ⟨M, hM⟩ : ∃ M : Nat, M = 1 <<< bitsLen L := ⟨_, rfl⟩
  have hM1 : 1 ≤ M := by rw [hM, Nat.one_shiftLeft]; exact Nat.two_pow_pos _
  have hM2 : M ≤ 2 * L := by rw [hM, Nat.one_shiftLeft]; exact two_pow_bitsLen_le (by omega)
  have hLz : ((b : Int) - (a : Int)) = (L : Int) := by omega
  have h8z : (8 : Int) ≤ (L : Int) := by omega
  have hNP : ∀ w, Calls Tryd.prog 97 #[.int .i64 (L : Int)] w fun e w' => e = .returned (.int .u64 (M : Int)) ∧ w' = w := by rw [hM]; exact fun w => spower_walk L (by omega) w
  have HL : Hid (L = b - a) := hL
  clear hM hL
  have hC0 : ∃ R : Nat, R < 18446744073709551616 ∧ (w.alloc (.cells #[.int .u64 (L : Int)] 114)).cell? ⟨w.heap.size, 0, none⟩ = some (.int .u64 (R : Int)) := ⟨L, by omega, by rw [World.cell?_alloc_at _ _ _ _ rfl]; rfl⟩
  have hF0 : (w.alloc (.cells #[.int .u64 (L : Int)] 114)).frozen? ⟨w.heap.size, 0, none⟩ = false := World.frozen?_alloc_at _ _ _ _ rfl
  have hS0 : St d (w.alloc (.cells #[.int .u64 (L : Int)] 114)) := H.keep _ _ _ hH ((Below.refl _ _).alloc hB _)
  have hZ0 : w.heap.size < (w.alloc (.cells #[.int .u64 (L : Int)] 114)).heap.size := by simp
  clear hH
  go_enter Tryd.func85, Tryd.ntmps85
  go_wp2_with fail
  refine (hNP _).mono ?_
  rintro e w' ⟨rfl, rfl⟩
  clear hNP
  go_wp2_with fail
  generalize hW0 : w.alloc (.cells #[.int .u64 (L : Int)] 114) = W0 at hC0 hF0 hS0 hZ0 ⊢
  generalize w.heap.size = b0 at hC0 hF0 hZ0 hB ⊢
  clear hW0
  go_loopg [9] 3 (fun g1 vi wr => ∃ (t R : Nat) (dk : Array α), vi = .int .i64 ((a : Int) + (L : Int) / 4 * 2 - 1 + (t : Int)) ∧ t ≤ 3 ∧ 3 - t ≤ g1 ∧ St dk wr ∧ Hid (PermIn a b d dk) ∧ R < 18446744073709551616 ∧
      b0 < wr.heap.size ∧ wr.cell? ⟨b0, 0, none⟩ = some (.int .u64 (R : Int)) ∧ wr.frozen? ⟨b0, 0, none⟩ = false)
  case atStart =>
    obtain ⟨R, h1, h2⟩ := hC0
    exact ⟨0, R, d, by simp, by omega, by omega, hS0, permIn_refl _ _ _, h1, hZ0, h2, hF0⟩
  case round =>
    clear hC0 hF0 hS0 hZ0
    obtain ⟨t, R, dk, rfl, ht, hg1, hS, HP, lR, hz, cR, fR⟩ := hrel
    have hsk := H.size _ _ hS
    have hLg : 8 ≤ L := by have := HL.out; omega
    by_cases ht3 : t < 3
    · have hle : (a : Int) + (L : Int) / 4 * 2 - 1 + (t : Int) ≤ (a : Int) + (L : Int) / 4 * 2 + 1 := by omega
      obtain ⟨R', hR'⟩ : ∃ R' : Nat, R' = xorNextN R := ⟨_, rfl⟩
      have lR' : R' < 18446744073709551616 := by rw [hR']; exact xorNextN_lt R lR
      obtain ⟨O, hO⟩ : ∃ O : Nat, O = R' &&& (M - 1) := ⟨_, rfl⟩
      have lO : O ≤ M - 1 := by rw [hO]; exact Nat.and_le_right
      have eAnd : bits .and .u64 (R' : Int) ((M : Int) - 1) = (O : Int) := by
        rw [show ((M : Int) - 1) = ((M - 1 : Nat) : Int) by omega, bits_and_u64_nat _ _ lR' (by omega), hO]
      have hN := snext_walk b0 R lR wr cR fR
      rw [← hR'] at hN
      have hS2 : St dk ((wr.setCell ⟨b0, 0, none⟩ (.int .u64 (R' : Int))).drewN 3) := H.keep _ _ _ hS (below_drewN ((Below.refl _ _).setCell hB _) 3)
      have c2 : ((wr.setCell ⟨b0, 0, none⟩ (.int .u64 (R' : Int))).drewN 3).cell? ⟨b0, 0, none⟩ = some (.int .u64 (R' : Int)) := by rw [World.cell?_drewN]; exact World.cell?_setCell_same _ _ _ cR
      have f2 : ((wr.setCell ⟨b0, 0, none⟩ (.int .u64 (R' : Int))).drewN 3).frozen? ⟨b0, 0, none⟩ = false := by rw [World.frozen?_drewN]; simpa using fR
      have z2 : b0 < ((wr.setCell ⟨b0, 0, none⟩ (.int .u64 (R' : Int))).drewN 3).heap.size := by simpa [World.setCell] using hz
      generalize (wr.setCell ⟨b0, 0, none⟩ (.int .u64 (R' : Int))).drewN 3 = w2 at hN hS2 c2 f2 z2
      clear hR' hO cR fR hz hS
      have hLn : a + L ≤ b := by have := HL.out; omega
      have hLn' : b ≤ a + L := by have := HL.out; omega
      by_cases hLO : L ≤ O
      · have hLOz : (L : Int) ≤ (O : Int) := by omega
        go_wp2_with fail
        refine hN.mono ?_
        rintro e w1 ⟨rfl, h1⟩
        have hS1 : St dk w1 := by rw [h1]; exact hS2
        have c1 : w1.cell? ⟨b0, 0, none⟩ = some (.int .u64 (R' : Int)) := by rw [h1]; exact c2
        have f1 : w1.frozen? ⟨b0, 0, none⟩ = false := by rw [h1]; exact f2
        have z1 : b0 < w1.heap.size := by rw [h1]; exact z2
        clear h1 hN c2 f2 z2 hS2
        go_wp2_with fail
        refine (H.swapAt hS1 (a + L / 4 * 2 - 1 + t) (a + (O - L)) (by omega) (by omega) (by omega) (by omega)).mono ?_
        rintro e w3 ⟨rfl, hS3, hk⟩
        go_wp2_with fail
        go_roundg (3 - (t + 1))
        case measure => omega
        case rel => exact ⟨t + 1, R', _, by congr 1; push_cast; omega, by omega, Nat.le_refl _, hS3, (show Hid _ from permIn_trans _ _ _ a b HP.out (swp_permIn _ _ _ _ _ (by omega) (by omega) (by omega) (by omega) (by omega))), lR', Nat.lt_of_lt_of_le z1 hk.1, (World.cell?_of_block (w := w1) (hk.2 _ hB z1)).trans c1, (World.frozen?_of_block (w := w1) (hk.2 _ hB z1)).trans f1⟩
      · have hLOz : ¬ (L : Int) ≤ (O : Int) := by omega
        go_wp2_with fail
        refine hN.mono ?_
        rintro e w1 ⟨rfl, h1⟩
        have hS1 : St dk w1 := by rw [h1]; exact hS2
        have c1 : w1.cell? ⟨b0, 0, none⟩ = some (.int .u64 (R' : Int)) := by rw [h1]; exact c2
        have f1 : w1.frozen? ⟨b0, 0, none⟩ = false := by rw [h1]; exact f2
        have z1 : b0 < w1.heap.size := by rw [h1]; exact z2
        clear h1 hN c2 f2 z2 hS2
        go_wp2_with fail
        refine (H.swapAt hS1 (a + L / 4 * 2 - 1 + t) (a + O) (by omega) (by omega) (by omega) (by omega)).mono ?_
        rintro e w3 ⟨rfl, hS3, hk⟩
        go_wp2_with fail
        go_roundg (3 - (t + 1))
        case measure => omega
        case rel => exact ⟨t + 1, R', _, by congr 1; push_cast; omega, by omega, Nat.le_refl _, hS3, (show Hid _ from permIn_trans _ _ _ a b HP.out (swp_permIn _ _ _ _ _ (by omega) (by omega) (by omega) (by omega) (by omega))), lR', Nat.lt_of_lt_of_le z1 hk.1, (World.cell?_of_block (w := w1) (hk.2 _ hB z1)).trans c1, (World.frozen?_of_block (w := w1) (hk.2 _ hB z1)).trans f1⟩
    · obtain rfl : t = 3 := by omega
      have hle : ¬ ((a : Int) + (L : Int) / 4 * 2 - 1 + ((3 : Nat) : Int) ≤ (a : Int) + (L : Int) / 4 * 2 + 1) := by omega
      go_wp2
      go_end0
      exact ⟨rfl, dk, HP.out, hS⟩
end Go.Proofs.YtkehnmapnckdgaaDoor

/- Three of them, and the one in the middle. -/
namespace Go.Proofs.YtkehnmapnckdgaaDoor
open Go.RowKit Go.Sort
set_option linter.unusedVariables false
variable {α : Type} [Inhabited α] {N B : Nat} {rv : Value} {lt : α → α → Bool} {St : Array α → World → Prop}

/-- A counter in memory of its own. -/
structure Cntr (B : Nat) (w : World) (p : Addr) (s : Int) : Prop where
  lo : B ≤ p.block
  lt : p.block < w.heap.size
  at_ : w.cell? p = some (.int .i64 s)
  fz : w.frozen? p = false
theorem Cntr.kpt {w w' : World} {p : Addr} {s : Int} (h : Cntr B w p s) (hk : Kpt B w w') : Cntr B w' p s :=
  ⟨h.lo, Nat.lt_of_lt_of_le h.lt hk.1, (World.cell?_of_block (w := w) (hk.2 _ h.lo h.lt)).trans h.at_, (World.frozen?_of_block (w := w) (hk.2 _ h.lo h.lt)).trans h.fz⟩

set_option maxHeartbeats 12800000 in
set_option maxRecDepth 100000 in
theorem sorder_walk (H : Srt N B rv lt St) (a b : Nat) (b0 : Nat) (s : Int) (d : Array α) (w : World) (hH : St d w) (ha : a < N) (hb : b < N) (hC : Cntr B w ⟨b0, 0, none⟩ s) (hs0 : 0 ≤ s) (hs : s < 1000) :
    Calls Tryd.prog 105 #[.iface 53 rv, .int .i64 a, .int .i64 b, .pointer (some ⟨b0, 0, none⟩)] w fun e w' => ∃ (x y : Nat) (s' : Int), e = .returned (.tuple #[.int .i64 x, .int .i64 y]) ∧ (x = a ∧ y = b ∨ x = b ∧ y = a) ∧ St d w' ∧ Cntr B w' ⟨b0, 0, none⟩ s' ∧ 0 ≤ s' ∧ s' ≤ s + 1 := by
  have mL := H.mL
  have mS := H.mS
  have hbig := H.big
  go_enter Tryd.func105, Tryd.ntmps105
  cases hlv : lt d[b]! d[a]! with
  | true =>
    go_wp2_with fail
    refine (H.lessAt hH b a hlv hb ha rfl rfl).mono ?_
    rintro e w1 ⟨rfl, hS1, hk⟩
    have hC1 := hC.kpt hk
    have c0 := hC1.at_
    have f0 := hC1.fz
    have HC : Hid (Cntr B w1 ⟨b0, 0, none⟩ s) := hC1
    clear hC hC1 hk
    go_wp2_with fail
    go_ret2
    have hC1 := HC.out
    refine ⟨b, a, s + 1, rfl, Or.inr ⟨rfl, rfl⟩, H.keep _ _ _ hS1 ((Below.refl _ _).setCell hC1.lo _), ⟨hC1.lo, by simpa [World.setCell] using hC1.lt, World.cell?_setCell_same _ _ _ c0, by simpa [World.frozen?_setCell] using f0⟩, by omega, by omega⟩
  | false =>
    go_wp2_with fail
    refine (H.lessAt hH b a hlv hb ha rfl rfl).mono ?_
    rintro e w1 ⟨rfl, hS1, hk⟩
    have hC1 := hC.kpt hk
    go_wp2_with fail
    go_ret2
    exact ⟨a, b, s, rfl, Or.inl ⟨rfl, rfl⟩, hS1, hC1, hs0, by omega⟩

set_option maxHeartbeats 12800000 in
set_option maxRecDepth 100000 in
theorem smedian_walk (H : Srt N B rv lt St) (a b c : Nat) (b0 : Nat) (s : Int) (d : Array α) (w : World) (hH : St d w) (ha : a < N) (hb : b < N) (hc : c < N) (hC : Cntr B w ⟨b0, 0, none⟩ s) (hs0 : 0 ≤ s) (hs : s < 900) :
    Calls Tryd.prog 100 #[.iface 53 rv, .int .i64 a, .int .i64 b, .int .i64 c, .pointer (some ⟨b0, 0, none⟩)] w fun e w' => ∃ (x : Nat) (s' : Int), e = .returned (.int .i64 x) ∧ (x = a ∨ x = b ∨ x = c) ∧ St d w' ∧ Cntr B w' ⟨b0, 0, none⟩ s' ∧ 0 ≤ s' ∧ s' ≤ s + 3 := by
  go_enter Tryd.func100, Tryd.ntmps100
  go_wp2_with fail
  refine (sorder_walk H a b b0 s d w hH ha hb hC hs0 (by omega)).mono ?_
  rintro e w1 ⟨x1, y1, s1, rfl, h1, hS1, hC1, p1, q1⟩
  go_wp2_with fail
  refine (sorder_walk H y1 c b0 s1 d w1 hS1 (by omega) hc hC1 p1 (by omega)).mono ?_
  rintro e w2 ⟨x2, y2, s2, rfl, h2, hS2, hC2, p2, q2⟩
  go_wp2_with fail
  refine (sorder_walk H x1 x2 b0 s2 d w2 hS2 (by omega) (by omega) hC2 p2 (by omega)).mono ?_
  rintro e w3 ⟨x3, y3, s3, rfl, h3, hS3, hC3, p3, q3⟩
  go_wp2_with fail
  go_ret
  exact ⟨y3, s3, rfl, by omega, hS3, hC3, p3, by omega⟩

set_option maxHeartbeats 12800000 in
set_option maxRecDepth 100000 in
theorem smedadj_walk (H : Srt N B rv lt St) (a : Nat) (b0 : Nat) (s : Int) (d : Array α) (w : World) (hH : St d w) (ha : 1 ≤ a) (hb : a + 1 < N) (hC : Cntr B w ⟨b0, 0, none⟩ s) (hs0 : 0 ≤ s) (hs : s < 900) :
    Calls Tryd.prog 99 #[.iface 53 rv, .int .i64 a, .pointer (some ⟨b0, 0, none⟩)] w fun e w' => ∃ (x : Nat) (s' : Int), e = .returned (.int .i64 x) ∧ (a - 1 ≤ x ∧ x ≤ a + 1) ∧ St d w' ∧ Cntr B w' ⟨b0, 0, none⟩ s' ∧ 0 ≤ s' ∧ s' ≤ s + 3 := by
  have hbig := H.big
  have hm := smedian_walk H (a - 1) a (a + 1) b0 s d w hH (by omega) (by omega) (by omega) hC hs0 hs
  rw [show ((a - 1 : Nat) : Int) = (a : Int) - 1 by omega, show ((a + 1 : Nat) : Int) = (a : Int) + 1 by omega] at hm
  go_enter Tryd.func99, Tryd.ntmps99
  go_wp2_with fail
  refine hm.mono ?_
  rintro e w3 ⟨x3, s3, rfl, h3, hS3, hC3, p3, q3⟩
  clear hm
  go_wp2_with fail
  go_ret
  exact ⟨x3, s3, rfl, by omega, hS3, hC3, p3, by omega⟩

set_option maxHeartbeats 12800000 in
set_option maxRecDepth 100000 in
theorem spivot_walk (H : Srt N B rv lt St) (a b : Nat) (d : Array α) (w : World) (hH : St d w) (hab : a + 8 ≤ b) (hb : b ≤ N) :
    Calls Tryd.prog 86 #[.iface 53 rv, .int .i64 a, .int .i64 b] w fun e w' => ∃ (p : Nat) (h : Int), e = .returned (.tuple #[.int .i64 p, .int .i64 h]) ∧ a ≤ p ∧ p < b ∧ 0 ≤ h ∧ h ≤ 2 ∧ St d w' := by
  have hbig := H.big
  have hB := H.base _ _ hH
  have hC0 : Cntr B (w.alloc (.cells #[.int .i64 0] 3)) ⟨w.heap.size, 0, none⟩ 0 := ⟨hB, by simp, by rw [World.cell?_alloc_at _ _ _ _ rfl]; rfl, World.frozen?_alloc_at _ _ _ _ rfl⟩
  have hS0 : St d (w.alloc (.cells #[.int .i64 0] 3)) := H.keep _ _ _ hH ((Below.refl _ _).alloc hB _)
  obtain ⟨I, hI⟩ : ∃ I : Nat, I = a + (b - a) / 4 * 1 := ⟨_, rfl⟩
  obtain ⟨J, hJ⟩ : ∃ J : Nat, J = a + (b - a) / 4 * 2 := ⟨_, rfl⟩
  obtain ⟨K, hK⟩ : ∃ K : Nat, K = a + (b - a) / 4 * 3 := ⟨_, rfl⟩
  have eI : ((a : Int) + ((b : Int) - (a : Int)) / 4) = (I : Int) := by omega
  have eJ : ((a : Int) + ((b : Int) - (a : Int)) / 4 * 2) = (J : Int) := by omega
  have eK : ((a : Int) + ((b : Int) - (a : Int)) / 4 * 3) = (K : Int) := by omega
  have h8z : (8 : Int) ≤ (b : Int) - (a : Int) := by omega
  have HI : Hid (I = a + (b - a) / 4 * 1) := hI
  have HJ : Hid (J = a + (b - a) / 4 * 2) := hJ
  have HK : Hid (K = a + (b - a) / 4 * 3) := hK
  clear hI hJ hK hH
  have cS := hC0.at_
  go_enter Tryd.func86, Tryd.ntmps86
  go_upto_region 3 with fail
  generalize hW0 : w.alloc (.cells #[.int .i64 0] 3) = W0 at hC0 hS0 cS ⊢
  generalize w.heap.size = b0 at hC0 cS ⊢
  clear hW0 hB w cS
  by_cases h50 : b - a ≥ 50
  · have h50z : (50 : Int) ≤ (b : Int) - (a : Int) := by omega
    have g : 1 ≤ I ∧ K + 2 ≤ b ∧ I + 2 ≤ J ∧ J + 2 ≤ K ∧ a + 1 ≤ I := by have := HI.out; have := HJ.out; have := HK.out; omega
    go_upto_region 8 with fail
    (try rw [eI]); (try rw [eJ]); (try rw [eK])
    clear eI eJ eK
    go_wp2_with fail
    refine (smedadj_walk H I b0 0 d W0 hS0 (by omega) (by omega) hC0 (by omega) (by omega)).mono ?_
    rintro e w1 ⟨x1, s1, rfl, h1, hS1, hC1, p1, q1⟩
    go_wp2_with fail
    refine (smedadj_walk H J b0 s1 d w1 hS1 (by omega) (by omega) hC1 (by omega) (by omega)).mono ?_
    rintro e w2 ⟨x2, s2, rfl, h2, hS2, hC2, p2, q2⟩
    go_wp2_with fail
    refine (smedadj_walk H K b0 s2 d w2 hS2 (by omega) (by omega) hC2 (by omega) (by omega)).mono ?_
    rintro e w3 ⟨x3, s3, rfl, h3, hS3, hC3, p3, q3⟩
    go_wp2_with fail
    refine (smedian_walk H x1 x2 x3 b0 s3 d w3 hS3 (by omega) (by omega) (by omega) hC3 (by omega) (by omega)).mono ?_
    rintro e w4 ⟨x4, s4, rfl, h4, hS4, hC4, p4, q4⟩
    have c4 := hC4.at_
    have hx : a ≤ x4 ∧ x4 < b := by omega
    clear hC4 hC3 hC2 hC1 hC0
    by_cases z0 : s4 = 0
    · subst z0
      go_wp2_with fail
      go_ret2
      exact ⟨x4, 1, rfl, hx.1, hx.2, by omega, by omega, hS4⟩
    · by_cases z1 : s4 = 12
      · subst z1
        go_wp2_with fail
        go_ret2
        exact ⟨x4, 2, rfl, hx.1, hx.2, by omega, by omega, hS4⟩
      · go_wp2_with fail
        go_ret2
        exact ⟨x4, 0, rfl, hx.1, hx.2, by omega, by omega, hS4⟩
  · have h50z : ¬ (50 : Int) ≤ (b : Int) - (a : Int) := by omega
    have g : a ≤ I ∧ K < b ∧ I ≤ J ∧ J ≤ K := by have := HI.out; have := HJ.out; have := HK.out; omega
    go_upto_region 11 with fail
    (try rw [eI]); (try rw [eJ]); (try rw [eK])
    clear eI eJ eK
    go_wp2_with fail
    refine (smedian_walk H I J K b0 0 d W0 hS0 (by omega) (by omega) (by omega) hC0 (by omega) (by omega)).mono ?_
    rintro e w4 ⟨x4, s4, rfl, h4, hS4, hC4, p4, q4⟩
    have c4 := hC4.at_
    have hx : a ≤ x4 ∧ x4 < b := by omega
    clear hC4 hC0
    by_cases z0 : s4 = 0
    · subst z0
      go_wp2_with fail
      go_ret2
      exact ⟨x4, 1, rfl, hx.1, hx.2, by omega, by omega, hS4⟩
    · have z1 : s4 ≠ 12 := by omega
      go_wp2_with fail
      go_ret2
      exact ⟨x4, 0, rfl, hx.1, hx.2, by omega, by omega, hS4⟩

end Go.Proofs.YtkehnmapnckdgaaDoor
