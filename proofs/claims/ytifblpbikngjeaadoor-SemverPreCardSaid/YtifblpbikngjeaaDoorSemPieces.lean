/- Mathematics of layer 4: a version's text, cut in its pieces, and read as the library reads numbers. -/
import Derived.Test.YtifblpbikngjeaaDoorSemNum
import Derived.Test.YtifblpbikngjeaaDoorSemSplit
import Derived.Lib.AtoiAllCases
namespace Sem

theorem num_snoc (l : List UInt8) (c : UInt8) : num (l ++ [c]) = 10 * num l + (c.toNat - 48) := by
  unfold num; rw [List.foldl_append]; rfl

theorem num_dec : ∀ n : Nat, num (dec n) = n := by
  intro n
  induction n using Nat.strongRecOn with
  | ind n ih =>
    by_cases h : n < 10
    · rw [dec_small h]
      simp [num]; omega
    · have e : (UInt8.ofNat (48 + n % 10)).toNat = 48 + n % 10 := by simp; omega
      rw [dec_big h, num_snoc, ih _ (by omega), e]
      omega

theorem parse10 : ∀ (l : List UInt8) (acc : Nat), (∀ c ∈ l, 48 ≤ c.toNat ∧ c.toNat ≤ 57) → acc * 10 ^ l.length + num l < 1000000000000000000 → Go.Lib.parseUint10 acc l = .ok (acc * 10 ^ l.length + num l)
  | [], acc, _, _ => by simp [Go.Lib.parseUint10, num]
  | c :: r, acc, hd, hb => by
    have hc := hd c (by simp)
    have h1 := num_from r (10 * acc + (c.toNat - 48))
    have hn : acc * 10 ^ (c :: r).length + num (c :: r) = (acc * 10 + (c.toNat - 48)) * 10 ^ r.length + num r := by
      rw [num_cons, List.length_cons, Nat.pow_succ, Nat.add_mul, ← Nat.add_assoc]
      congr 2
      rw [Nat.mul_assoc, Nat.mul_comm 10 (10 ^ r.length)]
    have hp : 1 ≤ 10 ^ r.length := Nat.one_le_pow _ _ (by omega)
    have hlt : acc * 10 + (c.toNat - 48) < 1000000000000000000 := by
      have : (acc * 10 + (c.toNat - 48)) * 1 ≤ (acc * 10 + (c.toNat - 48)) * 10 ^ r.length := Nat.mul_le_mul_left _ hp
      omega
    rw [Go.Lib.parseUint10, if_pos hc, if_neg (by omega), if_neg (by omega), parse10 r _ (fun d h => hd d (by simp [h])) (by omega), hn]

theorem atoi_dec (n : Nat) (h : n ≤ 999999) : Go.Lib.atoiAll (dec n) = .ok (n : Int) := by
  have hd := dec_dig n
  have hm : Go.Lib.parseMag (dec n) = .ok n := by
    unfold Go.Lib.parseMag
    rw [if_neg (dec_ne n), parse10 (dec n) 0 hd (by rw [num_dec]; omega), num_dec]; simp
  rcases hdn : dec n with _ | ⟨c, r⟩
  · exact absurd hdn (dec_ne n)
  · have hc := hd c (by rw [hdn]; simp)
    rw [hdn] at hm
    rw [Go.Lib.atoiAll_plain c r (by omega) (by omega), hm]
    show (if 9223372036854775808 ≤ n then Go.Lib.NumEnd.range else .ok (n : Int)) = _
    rw [if_neg (by omega)]

/-- What stands ahead of the dash. -/
def coreText (v : Ver) : List UInt8 := dec v.maj.toNat ++ 46 :: (dec v.min.toNat ++ 46 :: dec v.pat.toNat)

theorem text_core (v : Ver) : text v = coreText v ++ if v.pre = [] then [] else 45 :: v.pre := by
  simp [text, coreText]

theorem dec_not (n : Nat) {x : UInt8} (hx : x.toNat < 48) : ∀ d ∈ dec n, d ≠ x := by
  rintro d hd rfl
  have := dec_dig n d hd
  omega

theorem core_nodash (v : Ver) : ∀ d ∈ coreText v, d ≠ 45 := by
  intro d hd
  unfold coreText at hd
  rcases List.mem_append.1 hd with h | h
  · exact dec_not _ (by decide) d h
  · rcases List.mem_cons.1 h with rfl | h
    · decide
    · rcases List.mem_append.1 h with h | h
      · exact dec_not _ (by decide) d h
      · rcases List.mem_cons.1 h with rfl | h
        · decide
        · exact dec_not _ (by decide) d h

theorem cut_text (v : Ver) : (cut 45 (text v)).1 = coreText v ∧ (cut 45 (text v)).2.1 = v.pre := by
  rw [text_core]
  by_cases h : v.pre = []
  · rw [if_pos h, List.append_nil, cut_no (core_nodash v), h]; exact ⟨rfl, rfl⟩
  · rw [if_neg h, cut_at _ (core_nodash v)]; exact ⟨rfl, rfl⟩

theorem split_core (v : Ver) : split (min 3 (coreText v).length) (coreText v) = [dec v.maj.toNat, dec v.min.toNat, dec v.pat.toNat] := by
  have h1 : 1 ≤ (dec v.maj.toNat).length := List.length_pos_iff.2 (dec_ne _)
  have h2 : min 3 (coreText v).length = 3 := by unfold coreText; simp; omega
  rw [h2]
  unfold coreText
  rw [split_hit (cut_at _ (dec_not _ (by decide))), split_hit (cut_at _ (dec_not _ (by decide))), split_miss (by rw [cut_no (dec_not _ (by decide))])]

/-- What a text that is a version's is in pieces. -/
theorem parse_pieces {l : List UInt8} {u : Ver} (h : parse l = some u) :
    split (min 3 (cut 45 l).1.length) (cut 45 l).1 = [dec u.maj.toNat, dec u.min.toNat, dec u.pat.toNat] ∧ (cut 45 l).2.1 = u.pre ∧
    Go.Lib.atoiAll (dec u.maj.toNat) = .ok u.maj ∧ Go.Lib.atoiAll (dec u.min.toNat) = .ok u.min ∧ Go.Lib.atoiAll (dec u.pat.toNat) = .ok u.pat := by
  obtain ⟨hm, ht⟩ := parse_some h
  obtain ⟨h1, h2⟩ := cut_text u
  rw [ht] at h1 h2
  rw [h1]
  rw [may_iff] at hm
  obtain ⟨⟨a1, a2⟩, ⟨b1, b2⟩, ⟨c1, c2⟩, _⟩ := hm
  refine ⟨split_core u, h2, ?_, ?_, ?_⟩
  · rw [atoi_dec _ (by omega), Int.toNat_of_nonneg a1]
  · rw [atoi_dec _ (by omega), Int.toNat_of_nonneg b1]
  · rw [atoi_dec _ (by omega), Int.toNat_of_nonneg c1]

/-- Three numbers that were read, and what stands behind the dash: the version that the text is, or none. -/
theorem parse_made {l : List UInt8} {p0 p1 p2 : List UInt8} {x0 x1 x2 : Int} (hs : split (min 3 (cut 45 l).1.length) (cut 45 l).1 = [p0, p1, p2])
    (h0 : Go.Lib.atoiAll p0 = .ok x0) (h1 : Go.Lib.atoiAll p1 = .ok x1) (h2 : Go.Lib.atoiAll p2 = .ok x2) :
    parse l = if may ⟨x0, x1, x2, (cut 45 l).2.1⟩ = true ∧ text ⟨x0, x1, x2, (cut 45 l).2.1⟩ = l then some ⟨x0, x1, x2, (cut 45 l).2.1⟩ else none := by
  by_cases h : may ⟨x0, x1, x2, (cut 45 l).2.1⟩ = true ∧ text ⟨x0, x1, x2, (cut 45 l).2.1⟩ = l
  · rw [if_pos h]
    have := parse_text h.1
    rwa [h.2] at this
  · rw [if_neg h]
    rcases hp : parse l with _ | u
    · rfl
    · exfalso
      apply h
      obtain ⟨q0, q1, q2, q3, q4⟩ := parse_pieces hp
      rw [hs] at q0
      simp only [List.cons.injEq, and_true] at q0
      obtain ⟨rfl, rfl, rfl⟩ := q0
      have e0 : x0 = u.maj := by rw [h0] at q2; injection q2
      have e1 : x1 = u.min := by rw [h1] at q3; injection q3
      have e2 : x2 = u.pat := by rw [h2] at q4; injection q4
      rw [q1, e0, e1, e2]
      exact parse_some hp

theorem parse_count {l : List UInt8} (h : (split (min 3 (cut 45 l).1.length) (cut 45 l).1).length ≠ 3) : parse l = none := by
  rcases hp : parse l with _ | u
  · rfl
  · rw [(parse_pieces hp).1] at h; exact absurd rfl h

theorem parse_bad {l : List UInt8} {p0 p1 p2 : List UInt8} (hs : split (min 3 (cut 45 l).1.length) (cut 45 l).1 = [p0, p1, p2])
    (h : (∀ x, Go.Lib.atoiAll p0 ≠ .ok x) ∨ (∀ x, Go.Lib.atoiAll p1 ≠ .ok x) ∨ (∀ x, Go.Lib.atoiAll p2 ≠ .ok x)) : parse l = none := by
  rcases hp : parse l with _ | u
  · rfl
  · obtain ⟨q0, _, q2, q3, q4⟩ := parse_pieces hp
    rw [hs] at q0
    simp only [List.cons.injEq, and_true] at q0
    obtain ⟨rfl, rfl, rfl⟩ := q0
    rcases h with h | h | h
    · exact absurd q2 (h _)
    · exact absurd q3 (h _)
    · exact absurd q4 (h _)
end Sem
