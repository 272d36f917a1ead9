/- The plain layer of words: what a word is, lists of words and what is put into them, the order of bytes, numbers in the order of their words. -/
import Derived.Test.YthdnpddfdlhlaaaRows
import Derived.Lib.Bytealg
import Derived.Sort.Statements
import Derived.Maps.OwnSet
namespace Go.Proofs.Ythdnpddfdlhlaaa

/-- May a byte stand in a word? -/
def mayN (n : Nat) : Bool := (decide (97 ≤ n) && decide (n ≤ 122)) || (decide (48 ≤ n) && decide (n ≤ 57)) || decide (n = 45) || decide (n = 58)
abbrev mayB (c : UInt8) : Bool := mayN c.toNat
theorem mayN_yes {n : Nat} (h : n = 45 ∨ n = 58 ∨ (48 ≤ n ∧ n ≤ 57) ∨ (97 ≤ n ∧ n ≤ 122)) : mayN n = true := by
  simp only [mayN, Bool.or_eq_true, Bool.and_eq_true, decide_eq_true_iff]; omega
theorem mayN_no {n : Nat} (h : ¬ (n = 45 ∨ n = 58 ∨ (48 ≤ n ∧ n ≤ 57) ∨ (97 ≤ n ∧ n ≤ 122))) : mayN n = false := by
  rw [Bool.eq_false_iff]
  simp only [mayN, ne_eq, Bool.or_eq_true, Bool.and_eq_true, decide_eq_true_iff]; omega
theorem byte_cases (n : Nat) : n < 45 ∨ n = 45 ∨ (45 < n ∧ n < 48) ∨ (48 ≤ n ∧ n ≤ 57) ∨ n = 58 ∨ (58 < n ∧ n < 97) ∨ (97 ≤ n ∧ n ≤ 122) ∨ 122 < n := by omega
/-- Are bytes a word? -/
def isW (l : List UInt8) : Bool := decide (1 ≤ l.length) && decide (l.length ≤ 16) && l.all mayB

theorem isW_len {l : List UInt8} (h : isW l = true) : 1 ≤ l.length ∧ l.length ≤ 16 := by
  simp only [isW, Bool.and_eq_true, decide_eq_true_eq] at h
  exact h.1

/-- No word is there twice. -/
def Once (ws : List (List UInt8)) : Prop := ∀ (i j : Nat) (s : List UInt8), ws[i]? = some s → ws[j]? = some s → i = j
/-- All are words. -/
def AllW (ws : List (List UInt8)) : Prop := ∀ s ∈ ws, isW s = true

theorem once_nil : Once [] := by intro i j s h; simp at h
theorem allW_nil : AllW [] := by intro s h; simp at h
theorem snoc_at {ws : List (List UInt8)} {s t : List UInt8} {i : Nat} (h : (ws ++ [t])[i]? = some s) : ws[i]? = some s ∨ (i = ws.length ∧ s = t) := by
  by_cases hi : i < ws.length
  · left; rwa [List.getElem?_append_left hi] at h
  · right
    rw [List.getElem?_append_right (by omega)] at h
    by_cases h0 : i - ws.length = 0
    · rw [h0] at h; simp at h; exact ⟨by omega, h.symm⟩
    · obtain ⟨k, hk⟩ : ∃ k, i - ws.length = k + 1 := ⟨i - ws.length - 1, by omega⟩
      rw [hk] at h; simp at h
theorem at_snoc {ws : List (List UInt8)} {s : List UInt8} (t : List UInt8) {i : Nat} (h : ws[i]? = some s) : (ws ++ [t])[i]? = some s := by
  rw [List.getElem?_append_left (List.getElem?_eq_some_iff.1 h).1]; exact h
theorem at_last (ws : List (List UInt8)) (t : List UInt8) : (ws ++ [t])[ws.length]? = some t := by simp
theorem Once.snoc {ws : List (List UInt8)} {t : List UInt8} (h : Once ws) (ht : t ∉ ws) : Once (ws ++ [t]) := by
  intro i j s hi hj
  rcases snoc_at hi with h1 | ⟨h1, e1⟩ <;> rcases snoc_at hj with h2 | ⟨h2, e2⟩
  · exact h i j s h1 h2
  · subst e2; exact absurd (List.mem_of_getElem? h1) ht
  · subst e1; exact absurd (List.mem_of_getElem? h2) ht
  · omega
theorem AllW.snoc {ws : List (List UInt8)} {t : List UInt8} (h : AllW ws) (ht : isW t = true) : AllW (ws ++ [t]) := by
  intro s hs
  rcases List.mem_append.1 hs with hs | hs
  · exact h s hs
  · rw [List.mem_singleton] at hs; rw [hs]; exact ht

/-- What Put answers of the words ws and a text, and the words then. -/
def PutR (ws : List (List UInt8)) (s : List UInt8) (ws' : List (List UInt8)) (k er : Nat) : Prop :=
  (isW s = false ∧ ws' = ws ∧ k = 0 ∧ er = 1) ∨ (isW s = true ∧ ws[k]? = some s ∧ ws' = ws ∧ er = 0) ∨ (isW s = true ∧ s ∉ ws ∧ ws' = ws ++ [s] ∧ k = ws.length ∧ er = 0)
/-- What Id answers. -/
def IdR (ws : List (List UInt8)) (s : List UInt8) (k er : Nat) : Prop := (s ∉ ws ∧ k = 0 ∧ er = 3) ∨ (ws[k]? = some s ∧ er = 0)

theorem PutR.one {ws ws1 ws2 : List (List UInt8)} {s : List UInt8} {k1 k2 e1 e2 : Nat} (h : Once ws) (h1 : PutR ws s ws1 k1 e1) (h2 : PutR ws s ws2 k2 e2) : ws1 = ws2 ∧ k1 = k2 ∧ e1 = e2 := by
  rcases h1 with ⟨a1, a2, a3, a4⟩ | ⟨a1, a2, a3, a4⟩ | ⟨a1, a2, a3, a4, a5⟩ <;> rcases h2 with ⟨b1, b2, b3, b4⟩ | ⟨b1, b2, b3, b4⟩ | ⟨b1, b2, b3, b4, b5⟩
  · subst a2 b2 a3 b3 a4 b4; exact ⟨rfl, rfl, rfl⟩
  · rw [a1] at b1; cases b1
  · rw [a1] at b1; cases b1
  · rw [a1] at b1; cases b1
  · exact ⟨by rw [a3, b3], h _ _ _ a2 b2, by rw [a4, b4]⟩
  · exact absurd (List.mem_of_getElem? a2) b2
  · rw [a1] at b1; cases b1
  · exact absurd (List.mem_of_getElem? b2) a2
  · exact ⟨by rw [a3, b3], by rw [a4, b4], by rw [a5, b5]⟩
theorem IdR.one {ws : List (List UInt8)} {s : List UInt8} {k1 k2 e1 e2 : Nat} (h : Once ws) (h1 : IdR ws s k1 e1) (h2 : IdR ws s k2 e2) : k1 = k2 ∧ e1 = e2 := by
  rcases h1 with ⟨a1, a2, a3⟩ | ⟨a1, a2⟩ <;> rcases h2 with ⟨b1, b2, b3⟩ | ⟨b1, b2⟩
  · omega
  · exact absurd (List.mem_of_getElem? b1) a1
  · exact absurd (List.mem_of_getElem? a1) b1
  · exact ⟨h _ _ _ a1 b1, by omega⟩
theorem PutR.once {ws ws' : List (List UInt8)} {s : List UInt8} {k e : Nat} (h : PutR ws s ws' k e) (ho : Once ws) : Once ws' := by
  rcases h with ⟨_, rfl, _⟩ | ⟨_, _, rfl, _⟩ | ⟨_, h2, rfl, _⟩
  · exact ho
  · exact ho
  · exact ho.snoc h2
theorem PutR.len {ws ws' : List (List UInt8)} {s : List UInt8} {k e : Nat} (h : PutR ws s ws' k e) : ws'.length ≤ ws.length + 1 := by
  rcases h with ⟨_, rfl, _⟩ | ⟨_, _, rfl, _⟩ | ⟨_, h2, rfl, _⟩ <;> simp
theorem PutR.keeps {ws ws' : List (List UInt8)} {s t : List UInt8} {k e i : Nat} (h : PutR ws s ws' k e) (hi : ws[i]? = some t) : ws'[i]? = some t := by
  rcases h with ⟨_, rfl, _⟩ | ⟨_, _, rfl, _⟩ | ⟨_, h2, rfl, _⟩
  · exact hi
  · exact hi
  · exact at_snoc _ hi
theorem PutR.has {ws ws' : List (List UInt8)} {s : List UInt8} {k e : Nat} (h : PutR ws s ws' k e) : (e = 0 ∧ isW s = true ∧ ws'[k]? = some s) ∨ (e = 1 ∧ isW s = false) := by
  rcases h with ⟨h1, _, _, h4⟩ | ⟨h1, h2, rfl, h4⟩ | ⟨h1, h2, rfl, h4, h5⟩
  · exact .inr ⟨h4, h1⟩
  · exact .inl ⟨h4, h1, h2⟩
  · exact .inl ⟨h5, h1, by rw [h4]; exact at_last _ _⟩
theorem PutR.mem {ws ws' : List (List UInt8)} {s t : List UInt8} {k e : Nat} (h : PutR ws s ws' k e) : t ∈ ws' ↔ t ∈ ws ∨ (t = s ∧ isW s = true) := by
  rcases h with ⟨h1, rfl, _, h4⟩ | ⟨h1, h2, rfl, h4⟩ | ⟨h1, h2, rfl, h4, h5⟩
  · rw [h1]; simp
  · constructor
    · exact .inl
    · rintro (h | ⟨rfl, _⟩)
      · exact h
      · exact List.mem_of_getElem? h2
  · simp [h1]

/-! The order of bytes. -/
abbrev less (a b : List UInt8) : Bool := Op.bytesLess a b

theorem less_irrefl : ∀ a : List UInt8, less a a = false
  | [] => rfl
  | a :: xs => by
    have := less_irrefl xs
    simp only [less, Op.bytesLess] at this ⊢
    simp [this]
theorem less_cases : ∀ (a b : List UInt8), less a b = false → less b a = false → a = b
  | [], [], _, _ => rfl
  | [], b :: bs, h, _ => by simp [less, Op.bytesLess] at h
  | a :: xs, [], _, h => by simp [less, Op.bytesLess] at h
  | a :: xs, b :: bs, h1, h2 => by
    simp only [less, Op.bytesLess, Bool.or_eq_false_iff, decide_eq_false_iff_not, Bool.and_eq_false_iff, beq_eq_false_iff_ne] at h1 h2
    have hab : a = b := by
      have e1 := h1.1; have e2 := h2.1
      rw [UInt8.lt_iff_toNat_lt] at e1 e2
      exact UInt8.toNat_inj.1 (by omega)
    subst hab
    rw [less_cases xs bs (by rcases h1.2 with h | h; exact absurd rfl h; exact h) (by rcases h2.2 with h | h; exact absurd rfl h; exact h)]
theorem less_trans : ∀ (a b c : List UInt8), less a b = true → less b c = true → less a c = true
  | [], _, [], _, h => by cases ‹List UInt8› <;> simp [less, Op.bytesLess] at h
  | [], _, c :: cs, _, _ => by simp [less, Op.bytesLess]
  | a :: xs, [], _, h, _ => by simp [less, Op.bytesLess] at h
  | a :: xs, b :: bs, [], _, h => by simp [less, Op.bytesLess] at h
  | a :: xs, b :: bs, c :: cs, h1, h2 => by
    simp only [less, Op.bytesLess, Bool.or_eq_true, decide_eq_true_iff, Bool.and_eq_true, beq_iff_eq] at h1 h2 ⊢
    rw [UInt8.lt_iff_toNat_lt] at h1 h2 ⊢
    rcases h1 with h1 | ⟨rfl, h1⟩
    · rcases h2 with h2 | ⟨rfl, h2⟩
      · left; omega
      · left; exact h1
    · rcases h2 with h2 | ⟨rfl, h2⟩
      · left; exact h2
      · exact .inr ⟨rfl, less_trans xs bs cs h1 h2⟩
theorem less_asymm {a b : List UInt8} (h : less a b = true) : less b a = false := by
  cases hb : less b a with
  | false => rfl
  | true => have := less_trans a b a h hb; rw [less_irrefl] at this; cases this
theorem cmp_less : ∀ (a b : List UInt8), decide (Lib.compareBytes a b < 0) = less a b
  | [], [] => rfl
  | [], b :: bs => by simp [less, Op.bytesLess, Lib.compareBytes]
  | a :: xs, [] => by simp [less, Op.bytesLess, Lib.compareBytes]
  | a :: xs, b :: bs => by
    have ih := cmp_less xs bs
    simp only [less, Op.bytesLess] at ih ⊢
    unfold Lib.compareBytes
    by_cases h1 : a < b
    · simp [h1]
    · by_cases h2 : b < a
      · have hne : (a == b) = false := by rw [beq_eq_false_iff_ne]; intro e; subst e; exact h1 h2
        simp [h1, h2, hne]
      · have hab : a = b := by
          rw [UInt8.lt_iff_toNat_lt] at h1 h2
          exact UInt8.toNat_inj.1 (by omega)
        subst hab
        simp [h1]
        simpa using ih
theorem geq_less (a b : List UInt8) : less a b = true → a ≠ b := by
  intro h e; subst e; rw [less_irrefl] at h; cases h

/-- The word of a number. -/
abbrev wordAt (ws : List (List UInt8)) (i : Nat) : List UInt8 := ws.getD i []
theorem wordAt_of {ws : List (List UInt8)} {i : Nat} {s : List UInt8} (h : ws[i]? = some s) : wordAt ws i = s := by simp [wordAt, List.getD, h]
theorem at_wordAt {ws : List (List UInt8)} {i : Nat} (h : i < ws.length) : ws[i]? = some (wordAt ws i) := by simp [wordAt, List.getD, List.getElem?_eq_getElem h]

/-- All numbers, in the order of their words. -/
def Sorts (ws : List (List UInt8)) (is : List Nat) : Prop := is.Perm (List.range ws.length) ∧ is.Pairwise (fun i j => less (wordAt ws i) (wordAt ws j) = true)

theorem eq_of_rising {l1 l2 : List (List UInt8)} (hp : l1.Perm l2) (h1 : l1.Pairwise (fun a b => less a b = true)) (h2 : l2.Pairwise (fun a b => less a b = true)) : l1 = l2 := by
  induction l1 generalizing l2 with
  | nil => exact (List.nil_perm.1 hp).symm
  | cons a l1 ih =>
    cases l2 with
    | nil => exact absurd hp.length_eq (by simp)
    | cons b l2 =>
      rw [List.pairwise_cons] at h1 h2
      have hab : a = b := by
        have ha : a ∈ b :: l2 := hp.mem_iff.1 (by simp)
        have hb : b ∈ a :: l1 := hp.mem_iff.2 (by simp)
        rcases List.mem_cons.1 ha with e | ha
        · exact e
        · rcases List.mem_cons.1 hb with e | hb
          · exact e.symm
          · have := less_asymm (h1.1 b hb)
            rw [h2.1 a ha] at this; cases this
      subst hab
      rw [ih (List.Perm.cons_inv hp) h1.2 h2.2]
theorem Sorts.words {ws : List (List UInt8)} {is : List Nat} (h : Sorts ws is) : (is.map (wordAt ws)).Perm ws ∧ (is.map (wordAt ws)).Pairwise (fun a b => less a b = true) := by
  refine ⟨?_, List.pairwise_map.2 h.2⟩
  have := h.1.map (wordAt ws)
  have e : (List.range ws.length).map (wordAt ws) = ws := by
    apply List.ext_getElem?
    intro i
    rw [List.getElem?_map]
    by_cases hi : i < ws.length
    · rw [at_wordAt hi, List.getElem?_range hi]; rfl
    · rw [List.getElem?_eq_none (by simp; omega), List.getElem?_eq_none (by omega)]; rfl
  rwa [e] at this
theorem Sorts.len {ws : List (List UInt8)} {is : List Nat} (h : Sorts ws is) : is.length = ws.length := by
  have := h.1.length_eq; simpa using this
theorem Sorts.lt {ws : List (List UInt8)} {is : List Nat} (h : Sorts ws is) {i : Nat} (hi : i ∈ is) : i < ws.length := by
  have := h.1.mem_iff.1 hi; simpa using this
theorem Sorts.one {ws : List (List UInt8)} {is js : List Nat} (ho : Once ws) (h1 : Sorts ws is) (h2 : Sorts ws js) : is = js := by
  obtain ⟨p1, q1⟩ := h1.words
  obtain ⟨p2, q2⟩ := h2.words
  have e := eq_of_rising (p1.trans p2.symm) q1 q2
  apply List.ext_getElem?
  intro i
  have ei : (is.map (wordAt ws))[i]? = (js.map (wordAt ws))[i]? := by rw [e]
  rw [List.getElem?_map, List.getElem?_map] at ei
  cases ha : is[i]? with
  | none =>
    rw [ha] at ei
    cases hb : js[i]? with
    | none => rfl
    | some y => rw [hb] at ei; simp at ei
  | some x =>
    rw [ha] at ei
    cases hb : js[i]? with
    | none => rw [hb] at ei; simp at ei
    | some y =>
      rw [hb] at ei
      simp only [Option.map_some, Option.some.injEq] at ei
      rw [ho x y _ (at_wordAt (h1.lt (List.mem_of_getElem? ha))) (by rw [ei]; exact at_wordAt (h2.lt (List.mem_of_getElem? hb)))]
end Go.Proofs.Ythdnpddfdlhlaaa
