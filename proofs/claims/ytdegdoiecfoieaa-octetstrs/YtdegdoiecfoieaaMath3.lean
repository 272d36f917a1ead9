/- Plain mathematics of layer 1, the third part: texts and lists of texts as bytes. -/
import Derived.Test.YtdegdoiecfoieaaMath2
namespace Go.Proofs.Ytdegdoiecfoieaa

/-- The text that bytes begin with, how many bytes it has in all, and why there is none (ErrGreat 12). -/
def strP (l : List UInt8) : List UInt8 × Nat × Nat :=
  if (numP l).2.2 ≠ 0 then ([], 0, (numP l).2.2)
  else if 65536 < (numP l).1 then ([], 0, 12)
  else if l.length < (numP l).2.1 + (numP l).1 then ([], 0, 11)
  else ((l.drop (numP l).2.1).take (numP l).1, (numP l).2.1 + (numP l).1, 0)

/-- A text's bytes. -/
def strB (l : List UInt8) : List UInt8 := numB l.length ++ l

theorem numP_used (l : List UInt8) : (numP l).2.1 ≤ l.length ∧ (numP l).2.1 ≤ 9 ∧ (numP l).1 ≤ 9223372036854775807 ∧ (numP l).2.2 ≤ 12 := by
  unfold numP
  split
  · simp
  · split
    · simp
    · split
      · simp
      · split
        · simp
        · simp; omega

theorem strP_err (l : List UInt8) (h : (numP l).2.2 ≠ 0) : strP l = ([], 0, (numP l).2.2) := by rw [strP, if_pos h]
theorem strP_great (l : List UInt8) (h : (numP l).2.2 = 0) (h2 : 65536 < (numP l).1) : strP l = ([], 0, 12) := by
  rw [strP, if_neg (by omega), if_pos h2]
theorem strP_cut (l : List UInt8) (h : (numP l).2.2 = 0) (h2 : ¬ 65536 < (numP l).1) (h3 : l.length < (numP l).2.1 + (numP l).1) : strP l = ([], 0, 11) := by
  rw [strP, if_neg (by omega), if_neg h2, if_pos h3]
theorem strP_ok (l : List UInt8) (h : (numP l).2.2 = 0) (h2 : ¬ 65536 < (numP l).1) (h3 : ¬ l.length < (numP l).2.1 + (numP l).1) :
    strP l = ((l.drop (numP l).2.1).take (numP l).1, (numP l).2.1 + (numP l).1, 0) := by
  rw [strP, if_neg (by omega), if_neg h2, if_neg h3]

theorem strP_strB (t : List UInt8) (h : t.length ≤ 65536) (r : List UInt8) : strP (strB t ++ r) = (t, (strB t).length, 0) := by
  have e := numP_numB t.length (by omega) (t ++ r)
  rw [← List.append_assoc] at e
  have e2 : strB t ++ r = numB t.length ++ t ++ r := rfl
  rw [e2, strP_ok _ (by rw [e]) (by rw [e]; omega) (by rw [e]; simp), e]
  simp [strB]
end Go.Proofs.Ytdegdoiecfoieaa
