/- The program's comparison of what stands behind the dash, Core and Cmp. -/
import Derived.Test.YtifblpbikngjeaaDoorSemCmpOwn
namespace Go.Proofs.YtifblpbikngjeaaDoor
open Go.RowKit
set_option linter.unusedVariables false

theorem cutL_walk (x : List UInt8) (hx : x.length ≤ 1000000) (w : World) :
    Calls Tryd.prog 23 #[.string ⟨x.toArray⟩, .string ⟨#[46]⟩] w fun e w' => e = .returned (.tuple #[.string ⟨(Sem.cut 46 x).1.toArray⟩, .string ⟨(Sem.cut 46 x).2.1.toArray⟩, .bool (Sem.cut 46 x).2.2]) ∧ Below w.heap.size w w' :=
  cut_walk ⟨x.toArray⟩ 46 (by rw [size_list]; omega) w

/-- A text at its first dot. -/
theorem cut_split (x : List UInt8) : ∃ x1 x2 m, Sem.cut 46 x = (x1, x2, m) ∧ Sem.parts x = (if m = true then x1 :: Sem.parts x2 else [x1]) ∧ x1.length ≤ x.length ∧ x2.length ≤ x.length ∧ (m = true → x2.length < x.length) := by
  obtain ⟨h1, h2, h3⟩ := Sem.cut_len 46 x
  have hp := Sem.parts_cut x
  have hf := Sem.cut_first 46 x
  rcases h : Sem.cut 46 x with ⟨x1, x2, m⟩
  rw [h] at h1 h2 h3 hp hf
  refine ⟨x1, x2, m, rfl, ?_, h1, h2, h3⟩
  rw [hp]
  cases m
  · rw [if_neg (by simp), if_neg (by simp), show x1 = x from hf (by simp)]
  · rw [if_pos rfl, if_pos rfl]

set_option maxRecDepth 100000 in
set_option maxHeartbeats 2000000 in
theorem cmpPre_walk (p q : List UInt8) (hp : p.length ≤ 1000000) (hq : q.length ≤ 1000000) (w : World) :
    Calls Tryd.prog 33 #[.string ⟨p.toArray⟩, .string ⟨q.toArray⟩] w fun e w' => e = .returned (.int .i64 (Sem.three (Sem.preKey p) (Sem.preKey q))) ∧ Below w.heap.size w w' := by
  have hpk := Sem.preKey_cases p q
  have lp : (⟨p.toArray⟩ : ByteArray).toList = p := by rw [tx_list]
  have lq : (⟨q.toArray⟩ : ByteArray).toList = q := by rw [tx_list]
  by_cases e1 : p = q
  · subst e1
    have HE : Hid (Sem.three (Sem.preKey p) (Sem.preKey p) = 0) := Lib.hid (Sem.three_zero.2 rfl)
    have h1 : (p == p) = true := by simp
    clear hpk
    go_enter Tryd.func33, Tryd.ntmps33
    go_wp2
    go_ret
    exact ⟨by rw [HE.out]; rfl, Below.refl _ _⟩
  · have h1 : (p == q) = false := by simpa using e1
    by_cases e2 : p = []
    · have h2 : p.isEmpty = true := by rw [e2]; rfl
      have HE : Hid (Sem.three (Sem.preKey p) (Sem.preKey q) = 1) := Lib.hid (by rw [hpk, if_pos e2, if_neg (fun h => e1 (by rw [e2, h]))])
      clear hpk e1 e2
      go_enter Tryd.func33, Tryd.ntmps33
      go_wp2
      go_ret
      exact ⟨by rw [HE.out]; rfl, Below.refl _ _⟩
    · have h2 : p.isEmpty = false := by simpa using e2
      by_cases e3 : q = []
      · have h3 : q.isEmpty = true := by rw [e3]; rfl
        have HE : Hid (Sem.three (Sem.preKey p) (Sem.preKey q) = -1) := Lib.hid (by rw [hpk, if_neg e2, if_pos e3])
        clear hpk e1 e2 e3
        go_enter Tryd.func33, Tryd.ntmps33
        go_wp2
        go_ret
        exact ⟨by rw [HE.out]; rfl, Below.refl _ _⟩
      · have h3 : q.isEmpty = false := by simpa using e3
        have HE : Hid (Sem.three (Sem.preKey p) (Sem.preKey q) = Sem.cmpParts (Sem.parts p) (Sem.parts q)) := Lib.hid (by rw [hpk, if_neg e2, if_neg e3])
        clear hpk e1 e2 e3
        go_enter Tryd.func33, Tryd.ntmps33
        go_wp2_with fail
        clear h1 h2 h3 lp lq
        go_loopw [0, 1] (fun a b wr => ∃ x y : List UInt8, a = .string ⟨x.toArray⟩ ∧ b = .string ⟨y.toArray⟩ ∧ x.length ≤ 1000000 ∧ y.length ≤ 1000000 ∧ Hid (Sem.three (Sem.preKey p) (Sem.preKey q) = Sem.cmpParts (Sem.parts x) (Sem.parts y)) ∧ Below w.heap.size w wr)
          (fun a _ _ => match a with | .string s => s.size | _ => 0)
        case atStart => exact ⟨p, q, rfl, rfl, hp, hq, HE, Below.refl _ _⟩
        case round =>
          obtain ⟨x, y, rfl, rfl, hx, hy, HP, hb⟩ := hrel
          obtain ⟨x1, x2, mx, cx, px, lx1, lx2, lx3⟩ := cut_split x
          obtain ⟨y1, y2, my, cy, py, ly1, ly2, ly3⟩ := cut_split y
          have hX := cutL_walk x hx
          have hY := cutL_walk y hy
          rw [cx] at hX
          rw [cy] at hY
          obtain ⟨o, ho⟩ : ∃ o, o = Sem.cmpPart x1 y1 := ⟨_, rfl⟩
          have hO := cmpPart_walk x1 y1 (by omega) (by omega)
          rw [← ho] at hO
          have HS : Hid (Sem.cmpParts (Sem.parts x) (Sem.parts y) = if o = 0 then (if mx = true then (if my = true then Sem.cmpParts (Sem.parts x2) (Sem.parts y2) else 1) else (if my = true then -1 else 0)) else o) := Lib.hid (by
            rw [px, py, ho]
            rcases hx2 : Sem.parts x2 with _ | ⟨c, cs⟩
            · exact absurd hx2 (Sem.parts_ne x2)
            · rcases hy2 : Sem.parts y2 with _ | ⟨d, ds⟩
              · exact absurd hy2 (Sem.parts_ne y2)
              · cases mx <;> cases my <;> simp [Sem.cmpParts])
          clear px py cx cy ho
          go_wp2_with fail
          refine (hX _).mono ?_
          rintro e w1 ⟨rfl, hb1⟩
          go_wp2_with fail
          refine (hY _).mono ?_
          rintro e w2 ⟨rfl, hb2⟩
          go_wp2_with fail
          refine (hO _).mono ?_
          rintro e w3 ⟨rfl, hb3⟩
          have hb4 := below_next (below_next (below_next hb hb1) hb2) hb3
          clear hX hY hO hb1 hb2 hb3 hb
          by_cases h0 : o = 0
          · subst h0
            cases mx
            · cases my
              · have HN : Hid (Sem.three (Sem.preKey p) (Sem.preKey q) = 0) := Lib.hid (by rw [HP.out, HS.out]; rfl)
                clear HS
                go_wp2
                go_ret
                exact ⟨by rw [HN.out]; rfl, hb4⟩
              · have HN : Hid (Sem.three (Sem.preKey p) (Sem.preKey q) = -1) := Lib.hid (by rw [HP.out, HS.out]; rfl)
                clear HS
                go_wp2
                go_ret
                exact ⟨by rw [HN.out]; rfl, hb4⟩
            · cases my
              · have HN : Hid (Sem.three (Sem.preKey p) (Sem.preKey q) = 1) := Lib.hid (by rw [HP.out, HS.out]; rfl)
                clear HS
                go_wp2
                go_ret
                exact ⟨by rw [HN.out]; rfl, hb4⟩
              · have HN : Hid (Sem.three (Sem.preKey p) (Sem.preKey q) = Sem.cmpParts (Sem.parts x2) (Sem.parts y2)) := Lib.hid (by rw [HP.out, HS.out]; rfl)
                have hl := lx3 rfl
                clear HS lx3 ly3
                go_wp2
                go_roundw
                case rel => exact ⟨x2, y2, rfl, rfl, by omega, by omega, HN, hb4⟩
                case measure => show (⟨x2.toArray⟩ : ByteArray).size < (⟨x.toArray⟩ : ByteArray).size; rw [size_list, size_list]; exact hl
          · have hd : (o != 0) = true := by rw [bne_iff_ne]; exact h0
            have HN : Hid (Sem.three (Sem.preKey p) (Sem.preKey q) = o) := Lib.hid (by rw [HP.out, HS.out, if_neg h0])
            clear HS
            go_wp2
            go_ret
            exact ⟨by rw [HN.out]; rfl, hb4⟩
end Go.Proofs.YtifblpbikngjeaaDoor
