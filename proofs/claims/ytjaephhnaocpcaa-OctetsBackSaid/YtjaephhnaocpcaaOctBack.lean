/- The plain mathematics of layer 1, fifth part: what was laid is found again, and what was found was laid so. -/
import Derived.Test.YtjaephhnaocpcaaOctMath3
namespace Go.Proofs.Ytjaephhnaocpcaa.Oct

theorem drop_take_split (l : List UInt8) (p a b : Nat) : (l.drop p).take (a + b) = (l.drop p).take a ++ (l.drop (p + a)).take b := by
  rw [List.take_add, List.drop_drop]

/-! ### What was found was laid so -/

theorem takeAt_back {l : List UInt8} {p n st : Nat} (h : takeAt l p = (n, st, 0)) : num n = (l.drop p).take (st - p) := by
  unfold takeAt at h
  rcases hl : l.drop p with _ | ⟨b, t⟩
  · rw [hl] at h; simp at h
  · rw [hl] at h
    simp only at h
    have hb := b.toNat_lt
    by_cases h1 : b.toNat ≤ 247
    · rw [if_pos h1] at h
      simp only [Prod.mk.injEq] at h
      obtain ⟨rfl, rfl, _⟩ := h
      rw [show p + 1 - p = 1 from by omega, num, if_pos h1]
      simp
    · rw [if_neg h1] at h
      by_cases h2 : l.length < p + 1 + (b.toNat - 247)
      · rw [if_pos h2] at h; simp at h
      · rw [if_neg h2] at h
        by_cases h3 : num (val ((l.drop (p + 1)).take (b.toNat - 247))) = (b :: t).take (b.toNat - 247 + 1)
        · rw [if_pos h3] at h
          simp only [Prod.mk.injEq] at h
          obtain ⟨rfl, rfl, _⟩ := h
          rw [h3, show p + 1 + (b.toNat - 247) - p = b.toNat - 247 + 1 from by omega]
        · rw [if_neg h3] at h; simp at h

theorem takeNum_back {l : List UInt8} {p : Nat} {n st : Nat} (h : takeNum l p = (n, st, 0)) : num n = (l.drop p).take (st - p) := by
  by_cases h0 : (p : Int) < 0 ∨ (l.length : Int) < p
  · rw [takeNum, if_pos h0] at h; simp at h
  · rw [takeNum, if_neg h0, Int.toNat_natCast] at h
    exact takeAt_back h

theorem takeText_parts {l : List UInt8} {p : Int} {t : List UInt8} {to : Nat} (h : takeText l p = (t, to, 0)) :
    ∃ n st, takeNum l p = (n, st, 0) ∧ t = (l.drop st).take n ∧ to = st + n ∧ t.length = n ∧ to ≤ l.length := by
  rcases takeNum_spec l p with ⟨n, st, h1, h2, h3, h4, h5⟩ | ⟨e, h1, he⟩
  · by_cases hn : l.length - st < n
    · rw [takeText_short h1 hn] at h; simp at h
    · rw [takeText_ok h1 hn] at h
      simp only [Prod.mk.injEq] at h
      obtain ⟨rfl, rfl, _⟩ := h
      exact ⟨n, st, h1, rfl, rfl, by rw [List.length_take, List.length_drop]; omega, by omega⟩
  · rw [takeText_err h1 he] at h
    rcases he with rfl | rfl | rfl <;> simp at h

theorem takeText_back {l : List UInt8} {p : Nat} {t : List UInt8} {to : Nat} (h : takeText l p = (t, to, 0)) : text t = (l.drop p).take (to - p) := by
  obtain ⟨n, st, h1, rfl, rfl, h4, _⟩ := takeText_parts h
  have h5 := takeNum_back h1
  rcases takeNum_spec l p with ⟨n', st', h6, _, h7, _⟩ | ⟨e, h6, he⟩
  · rw [h6] at h1
    simp only [Prod.mk.injEq] at h1
    obtain ⟨rfl, rfl, _⟩ := h1
    rw [text, h4, h5, show st' + n' - p = (st' - p) + n' from by omega, drop_take_split, show p + (st' - p) = st' from by omega]
  · rw [h6] at h1
    rcases he with rfl | rfl | rfl <;> simp at h1

theorem takeTexts_back {l : List UInt8} : ∀ (n : Nat) {p : Nat} {acc ss : List ByteArray} {to : Nat}, p ≤ l.length → takeTexts l n p acc = (ss, to, 0) →
    ∃ r, ss = acc ++ r ∧ r.length = n ∧ texts r = (l.drop p).take (to - p) ∧ p ≤ to ∧ to ≤ l.length
  | 0, p, acc, ss, to, hp, h => by
    rw [takeTexts_zero] at h
    simp only [Int.toNat_natCast, Prod.mk.injEq] at h
    obtain ⟨rfl, rfl, _⟩ := h
    exact ⟨[], by simp, rfl, by simp [texts], Nat.le_refl _, hp⟩
  | n + 1, p, acc, ss, to, hp, h => by
    rcases takeText_spec l p with ⟨t, q, h1, h2, h3, h4⟩ | ⟨e, h1, he⟩
    · rw [takeTexts_ok h1] at h
      obtain ⟨r, h5, h6, h7, h8, h9⟩ := takeTexts_back n h4 h
      refine ⟨⟨t.toArray⟩ :: r, by rw [h5]; simp, by rw [List.length_cons, h6], ?_, by omega, h9⟩
      rw [texts, h7]
      show text t ++ _ = _
      rw [takeText_back h1, show to - p = (q - p) + (to - q) from by omega, drop_take_split, show p + (q - p) = q from by omega]
    · rw [takeTexts_err h1 he] at h
      rcases he with rfl | rfl | rfl <;> simp at h

theorem takeList_back {l : List UInt8} {p : Nat} {ss : List ByteArray} {to : Nat} (h : takeList l p = (ss, to, 0)) :
    list ss = (l.drop p).take (to - p) ∧ p < to ∧ to ≤ l.length := by
  rcases takeNum_spec l p with ⟨n, st, h1, h2, h3, h4, h5⟩ | ⟨e, h1, he⟩
  · rw [takeList_in h1] at h
    obtain ⟨r, h6, h7, h8, h9, h10⟩ := takeTexts_back n h4 h
    rw [List.nil_append] at h6
    subst h6
    refine ⟨?_, by omega, h10⟩
    rw [list, h7, h8, takeNum_back h1, show to - p = (st - p) + (to - st) from by omega, drop_take_split, show p + (st - p) = st from by omega]
  · rw [takeList_err h1 he] at h
    rcases he with rfl | rfl | rfl <;> simp at h

/-- What is found of a list: the texts, and a place between; or one of three errors. -/
theorem takeTexts_spec {l : List UInt8} : ∀ (n : Nat) (p : Nat) (acc : List ByteArray),
    (∃ ss to, takeTexts l n p acc = (ss, to, 0)) ∨ ∃ e, takeTexts l n p acc = ([], 0, e) ∧ (e = 2 ∨ e = 10 ∨ e = 11)
  | 0, p, acc => Or.inl ⟨acc, p, by rw [takeTexts_zero, Int.toNat_natCast]⟩
  | n + 1, p, acc => by
    rcases takeText_spec l p with ⟨t, q, h1, _⟩ | ⟨e, h1, he⟩
    · rw [takeTexts_ok h1]
      exact takeTexts_spec n q _
    · exact Or.inr ⟨e, takeTexts_err h1 he, he⟩

theorem takeList_spec (l : List UInt8) (p : Int) :
    (∃ ss to, takeList l p = (ss, to, 0) ∧ 0 ≤ p) ∨ ∃ e, takeList l p = ([], 0, e) ∧ (e = 2 ∨ e = 10 ∨ e = 11) := by
  rcases takeNum_spec l p with ⟨n, st, h1, h2, _⟩ | ⟨e, h1, he⟩
  · rw [takeList_in h1]
    rcases takeTexts_spec n st [] with ⟨ss, to, h⟩ | h
    · exact Or.inl ⟨ss, to, h, h2⟩
    · exact Or.inr h
  · exact Or.inr ⟨e, takeList_err h1 he, he⟩

/-! ### What was laid is found again -/

theorem takeNum_laid (l : List UInt8) (p n : Nat) (post : List UInt8) (hn : n < 18446744073709551616) (hp : p ≤ l.length) (h : l.drop p = num n ++ post) : takeNum l p = (n, p + (num n).length, 0) := by
  have hlen : l.length = p + (num n).length + post.length := by
    have := congrArg List.length h
    rw [List.length_drop, List.length_append] at this
    omega
  rw [takeNum_in hp, takeAt, h]
  by_cases h1 : n ≤ 247
  · have hb : (UInt8.ofNat n).toNat = n := by rw [UInt8.toNat_ofNat']; omega
    simp only [num, if_pos h1, List.cons_append, hb]
    simp
  · have h8 := wid_spec n (by omega) hn
    have hh := hd_toNat (wid n) h8.2.2.2
    have e : num n = hd (wid n) :: be (wid n) n := by rw [num, if_neg h1]
    have h2 : (l.drop (p + 1)).take (wid n) = be (wid n) n := by
      rw [← List.drop_drop, h, e, List.cons_append, List.drop_succ_cons, List.drop_zero, List.take_left' (be_length _ _)]
    have hl2 : (num n).length = 1 + wid n := by rw [e, List.length_cons, be_length]; omega
    have h3 : (num n ++ post).take (wid n + 1) = num n := List.take_left' (by omega)
    have e2 : num n ++ post = hd (wid n) :: (be (wid n) n ++ post) := by rw [e]; rfl
    rw [e2] at h3 ⊢
    simp only [hh]
    rw [if_neg (by omega), show 247 + wid n - 247 = wid n from by omega, if_neg (by omega), h2, val_be _ _ h8.1, h3, if_pos rfl, hl2]
    simp only [Prod.mk.injEq, and_true, true_and]
    omega

theorem takeText_laid (l : List UInt8) (p : Nat) (t post : List UInt8) (hn : t.length < 18446744073709551616) (hp : p ≤ l.length) (h : l.drop p = text t ++ post) : takeText l p = (t, p + (text t).length, 0) := by
  have h1 := takeNum_laid l p t.length (t ++ post) hn hp (by rw [h, text, List.append_assoc])
  have hlen : l.length = p + (text t).length + post.length := by
    have := congrArg List.length h
    rw [List.length_drop, List.length_append] at this
    omega
  rw [text, List.length_append] at hlen
  rw [takeText_ok h1 (by omega)]
  have h2 : (l.drop (p + (num t.length).length)).take t.length = t := by
    rw [← List.drop_drop, h, text, List.append_assoc, List.drop_left' rfl, List.take_left' rfl]
  rw [h2, text, List.length_append]
  simp only [Prod.mk.injEq, and_true, true_and]
  omega

theorem takeTexts_laid (l : List UInt8) : ∀ (ss : List ByteArray) (p : Nat) (acc : List ByteArray) (post : List UInt8), p ≤ l.length → l.length < 18446744073709551616 → l.drop p = texts ss ++ post →
    takeTexts l ss.length p acc = (acc ++ ss, p + (texts ss).length, 0)
  | [], p, acc, post, _, _, _ => by simp [takeTexts_zero, texts]
  | s :: ss, p, acc, post, hp, hl, h => by
    rw [texts, List.append_assoc] at h
    have hlen : l.length = p + (text s.data.toList).length + (texts ss ++ post).length := by
      have := congrArg List.length h
      rw [List.length_drop, List.length_append] at this
      omega
    have hts : s.data.toList.length ≤ (text s.data.toList).length := by rw [text, List.length_append]; omega
    have h1 := takeText_laid l p s.data.toList (texts ss ++ post) (by omega) hp h
    rw [List.length_cons, takeTexts_ok h1]
    have h2 : l.drop (p + (text s.data.toList).length) = texts ss ++ post := by rw [← List.drop_drop, h, List.drop_left' rfl]
    have h3 := takeTexts_laid l ss (p + (text s.data.toList).length) (acc ++ [⟨s.data.toList.toArray⟩]) post (by omega) hl h2
    rw [h3, texts, List.length_append]
    simp only [List.append_assoc, List.cons_append, List.nil_append, Array.toArray_toList, Prod.mk.injEq, and_true, true_and]
    omega

theorem takeList_laid (l : List UInt8) (p : Nat) (ss : List ByteArray) (post : List UInt8) (hp : p ≤ l.length) (hl : l.length < 18446744073709551616) (hn : ss.length < 18446744073709551616) (h : l.drop p = list ss ++ post) :
    takeNum l p = (ss.length, p + (num ss.length).length, 0) ∧ takeList l p = (ss, p + (list ss).length, 0) := by
  have h1 := takeNum_laid l p ss.length (texts ss ++ post) hn hp (by rw [h, list, List.append_assoc])
  refine ⟨h1, ?_⟩
  have hlen : l.length = p + (list ss).length + post.length := by
    have := congrArg List.length h
    rw [List.length_drop, List.length_append] at this
    omega
  rw [list, List.length_append] at hlen
  have h2 : l.drop (p + (num ss.length).length) = texts ss ++ post := by rw [← List.drop_drop, h, list, List.append_assoc, List.drop_left' rfl]
  rw [takeList_in h1, takeTexts_laid l ss _ [] post (by omega) hl h2, list, List.length_append]
  simp only [List.nil_append, Prod.mk.injEq, and_true, true_and]
  omega

/-- Each text of a list that was found lay behind those before it. -/
theorem takeTexts_prefix {l : List UInt8} : ∀ (n : Nat) {p : Int} {acc ss : List ByteArray} {to : Nat}, takeTexts l n p acc = (ss, to, 0) → ∃ r, ss = acc ++ r
  | 0, p, acc, ss, to, h => by
    rw [takeTexts_zero] at h
    simp only [Prod.mk.injEq] at h
    exact ⟨[], by rw [← h.1]; simp⟩
  | n + 1, p, acc, ss, to, h => by
    rcases takeText_spec l p with ⟨t, q, h1, _⟩ | ⟨e, h1, he⟩
    · rw [takeTexts_ok h1] at h
      obtain ⟨r, h2⟩ := takeTexts_prefix n h
      exact ⟨_, by rw [h2, List.append_assoc]⟩
    · rw [takeTexts_err h1 he] at h
      rcases he with rfl | rfl | rfl <;> simp at h

theorem texts_count : ∀ ss : List ByteArray, ss.length ≤ (texts ss).length
  | [] => Nat.zero_le _
  | s :: r => by
    have h1 := texts_count r
    have h2 : 1 ≤ (num s.data.toList.length).length := by
      unfold num
      split <;> simp
    rw [texts, text, List.length_append, List.length_append, List.length_cons]
    omega

theorem list_count (ss : List ByteArray) : ss.length ≤ (list ss).length := by
  have := texts_count ss
  rw [list, List.length_append]
  omega

/-- No more texts are found than there are bytes. -/
theorem takeList_short {l : List UInt8} {p : Int} {ss : List ByteArray} {to e : Nat} (h : takeList l p = (ss, to, e)) : ss.length ≤ l.length := by
  rcases takeList_spec l p with ⟨ss', to', h1, h0⟩ | ⟨e', h1, _⟩
  · rw [h1] at h
    simp only [Prod.mk.injEq] at h
    obtain ⟨rfl, rfl, _⟩ := h
    obtain ⟨q, rfl⟩ := Int.eq_ofNat_of_zero_le h0
    have h2 := (takeList_back h1).1
    have h3 := list_count ss'
    rw [h2, List.length_take, List.length_drop] at h3
    omega
  · rw [h1] at h
    simp only [Prod.mk.injEq] at h
    rw [← h.1]
    exact Nat.zero_le _
end Go.Proofs.Ytjaephhnaocpcaa.Oct
