/- Plain mathematics of layer 1, the third part: texts and lists of texts as bytes. -/
import Derived.Test.YtnepednomejniaaMath2
namespace Go.Proofs.Ytnepednomejniaa

/-- The text that bytes begin with, how many bytes it has in all, and why there is none (ErrGreat 12). -/
def strP (l : List UInt8) : List UInt8 × Nat × Nat :=
  if (numP l).2.2 ≠ 0 then ([], 0, (numP l).2.2)
  else if 65536 < (numP l).1 then ([], 0, 12)
  else if l.length < (numP l).2.1 + (numP l).1 then ([], 0, 11)
  else ((l.drop (numP l).2.1).take (numP l).1, (numP l).2.1 + (numP l).1, 0)

/-- A text's bytes. -/
def strB (l : List UInt8) : List UInt8 := numB l.length ++ l

theorem numP_used (l : List UInt8) : (numP l).2.1 ≤ l.length ∧ (numP l).2.1 ≤ 9 ∧ (numP l).1 ≤ 9223372036854775807 ∧ (numP l).2.2 ≤ 12 := by
  unfold numP
  split
  · simp
  · split
    · simp
    · split
      · simp
      · split
        · simp
        · simp; omega

theorem strP_err (l : List UInt8) (h : (numP l).2.2 ≠ 0) : strP l = ([], 0, (numP l).2.2) := by rw [strP, if_pos h]
theorem strP_great (l : List UInt8) (h : (numP l).2.2 = 0) (h2 : 65536 < (numP l).1) : strP l = ([], 0, 12) := by
  rw [strP, if_neg (by omega), if_pos h2]
theorem strP_cut (l : List UInt8) (h : (numP l).2.2 = 0) (h2 : ¬ 65536 < (numP l).1) (h3 : l.length < (numP l).2.1 + (numP l).1) : strP l = ([], 0, 11) := by
  rw [strP, if_neg (by omega), if_neg h2, if_pos h3]
theorem strP_ok (l : List UInt8) (h : (numP l).2.2 = 0) (h2 : ¬ 65536 < (numP l).1) (h3 : ¬ l.length < (numP l).2.1 + (numP l).1) :
    strP l = ((l.drop (numP l).2.1).take (numP l).1, (numP l).2.1 + (numP l).1, 0) := by
  rw [strP, if_neg (by omega), if_neg h2, if_neg h3]

theorem strP_strB (t : List UInt8) (h : t.length ≤ 65536) (r : List UInt8) : strP (strB t ++ r) = (t, (strB t).length, 0) := by
  have e := numP_numB t.length (by omega) (t ++ r)
  rw [← List.append_assoc] at e
  have e2 : strB t ++ r = numB t.length ++ t ++ r := rfl
  rw [e2, strP_ok _ (by rw [e]) (by rw [e]; omega) (by rw [e]; simp), e]
  simp [strB]

theorem strP_used (l : List UInt8) : (strP l).2.1 ≤ l.length ∧ (strP l).2.2 ≤ 12 := by
  have := numP_used l
  unfold strP
  split
  · simp; omega
  · split
    · simp
    · split
      · simp
      · simp; omega

/-- Texts read one by one: n more, from place k on, those of acc ahead. -/
def listLoop : Nat → List UInt8 → Nat → List (List UInt8) → List (List UInt8) × Nat × Nat
  | 0, _, k, acc => (acc, k, 0)
  | n + 1, l, k, acc =>
    if (strP (l.drop k)).2.2 ≠ 0 then ([], 0, (strP (l.drop k)).2.2)
    else listLoop n l (k + (strP (l.drop k)).2.1) (acc ++ [(strP (l.drop k)).1])

/-- The list that bytes begin with, how many bytes it has in all, and why there is none. -/
def listP (l : List UInt8) : List (List UInt8) × Nat × Nat :=
  if (numP l).2.2 ≠ 0 then ([], 0, (numP l).2.2)
  else if 4096 < (numP l).1 then ([], 0, 12)
  else listLoop (numP l).1 l (numP l).2.1 []

theorem loop_err {n k e k' : Nat} {l : List UInt8} {t : List UInt8} {acc : List (List UInt8)} (h : strP (l.drop k) = (t, k', e)) (he : e ≠ 0) : listLoop (n + 1) l k acc = ([], 0, e) := by
  rw [listLoop, h, if_pos he]
theorem loop_ok {n k k' : Nat} {l : List UInt8} {t : List UInt8} {acc : List (List UInt8)} (h : strP (l.drop k) = (t, k', 0)) : listLoop (n + 1) l k acc = listLoop n l (k + k') (acc ++ [t]) := by
  rw [listLoop, h, if_neg (by simp)]

/-- The bytes of some texts, one behind the other. -/
def textsB (ls : List (List UInt8)) : List UInt8 := (ls.map strB).flatten
theorem textsB_snoc (ls : List (List UInt8)) (t : List UInt8) : textsB (ls ++ [t]) = textsB ls ++ strB t := by simp [textsB]
theorem textsB_cons (t : List UInt8) (ls : List (List UInt8)) : textsB (t :: ls) = strB t ++ textsB ls := by simp [textsB]
theorem strB_le (t : List UInt8) (h : t.length ≤ 65536) : (strB t).length ≤ 65545 := by
  have := numB_le t.length; simp [strB]; omega
theorem textsB_le (ls : List (List UInt8)) (h : ∀ t ∈ ls, t.length ≤ 65536) : (textsB ls).length ≤ 65545 * ls.length := by
  induction ls with
  | nil => simp [textsB]
  | cons t ls ih =>
    have a := strB_le t (h t (by simp))
    have b := ih (fun u hu => h u (by simp [hu]))
    rw [textsB_cons, List.length_append, List.length_cons]; omega

/-- A list's bytes, and why there are none. -/
def putListP (ls : List (List UInt8)) : List UInt8 × Nat :=
  if 4096 < ls.length ∨ ∃ t ∈ ls, 65536 < t.length then ([], 12) else (numB ls.length ++ textsB ls, 0)
theorem putListP_many (ls : List (List UInt8)) (h : 4096 < ls.length) : putListP ls = ([], 12) := by rw [putListP, if_pos (.inl h)]
theorem putListP_long (ls : List (List UInt8)) (t : List UInt8) (ht : t ∈ ls) (h : 65536 < t.length) : putListP ls = ([], 12) := by rw [putListP, if_pos (.inr ⟨t, ht, h⟩)]
theorem putListP_ok (ls : List (List UInt8)) (h : ls.length ≤ 4096) (h2 : ∀ t ∈ ls, t.length ≤ 65536) : putListP ls = (numB ls.length ++ textsB ls, 0) := by
  rw [putListP, if_neg]
  rintro (h3 | ⟨t, ht, h3⟩)
  · omega
  · have := h2 t ht; omega

theorem listLoop_back (ls : List (List UInt8)) (h : ∀ t ∈ ls, t.length ≤ 65536) : ∀ (pre tail : List UInt8) (acc : List (List UInt8)),
    listLoop ls.length (pre ++ textsB ls ++ tail) pre.length acc = (acc ++ ls, pre.length + (textsB ls).length, 0) := by
  induction ls with
  | nil => intro pre tail acc; simp [listLoop, textsB]
  | cons t ls ih =>
    intro pre tail acc
    have hd : (pre ++ textsB (t :: ls) ++ tail).drop pre.length = strB t ++ (textsB ls ++ tail) := by
      rw [List.append_assoc, List.drop_left, textsB_cons, List.append_assoc]
    have hs : strP ((pre ++ textsB (t :: ls) ++ tail).drop pre.length) = (t, (strB t).length, 0) := by
      rw [hd]; exact strP_strB t (h t (by simp)) _
    rw [List.length_cons, loop_ok hs]
    have e : pre ++ textsB (t :: ls) ++ tail = (pre ++ strB t) ++ textsB ls ++ tail := by rw [textsB_cons]; simp
    have := ih (fun u hu => h u (by simp [hu])) (pre ++ strB t) tail (acc ++ [t])
    rw [List.length_append] at this
    rw [e, this, textsB_cons]
    simp [Nat.add_assoc]

theorem listP_back (ls : List (List UInt8)) (hl : ls.length ≤ 4096) (h : ∀ t ∈ ls, t.length ≤ 65536) (tail : List UInt8) :
    listP (numB ls.length ++ textsB ls ++ tail) = (ls, (numB ls.length ++ textsB ls).length, 0) := by
  have e := numP_numB ls.length (by omega) (textsB ls ++ tail)
  rw [← List.append_assoc] at e
  unfold listP
  rw [e]
  simp only [ne_eq, not_true, if_false]
  rw [if_neg (by omega), listLoop_back ls h]
  simp

/-- How many bytes some texts have. -/
def sumL (ls : List (List UInt8)) : Nat := (ls.map List.length).sum
theorem sumL_snoc (ls : List (List UInt8)) (t : List UInt8) : sumL (ls ++ [t]) = sumL ls + t.length := by simp [sumL]
end Go.Proofs.Ytnepednomejniaa
