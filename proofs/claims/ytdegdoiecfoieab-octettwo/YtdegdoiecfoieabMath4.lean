/- Plain mathematics of layer 1, the fourth part: the order of numbers' bytes; bytes that lack some at their end. -/
import Derived.Test.YtdegdoiecfoieabMath3
import GoSem.Op.String
namespace Go.Proofs.Ytdegdoiecfoieab

theorem less_iff : ∀ (x y : List UInt8), x.length = y.length → (Op.bytesLess x y = true ↔ beVal x < beVal y)
  | [], [], _ => by simp [Op.bytesLess]
  | [], _ :: _, h => by simp at h
  | _ :: _, [], h => by simp at h
  | a :: x, b :: y, h => by
    have hl : x.length = y.length := by simpa using h
    have ih := less_iff x y hl
    have hx := beVal_lt x
    have hy := beVal_lt y
    rw [beVal_cons, beVal_cons, hl]
    rw [hl] at hx
    simp only [Op.bytesLess, Bool.or_eq_true, Bool.and_eq_true, decide_eq_true_iff, beq_iff_eq]
    rw [ih, UInt8.lt_iff_toNat_lt, ← UInt8.toNat_inj]
    generalize beVal x = p at *
    generalize beVal y = q at *
    generalize 256 ^ y.length = P at *
    rcases Nat.lt_trichotomy a.toNat b.toNat with h1 | h1 | h1
    · have := Nat.mul_le_mul_right P (show a.toNat + 1 ≤ b.toNat by omega)
      rw [Nat.add_mul, Nat.one_mul] at this
      constructor
      · intro _; omega
      · intro _; exact .inl h1
    · rw [h1]; simp
    · have := Nat.mul_le_mul_right P (show b.toNat + 1 ≤ a.toNat by omega)
      rw [Nat.add_mul, Nat.one_mul] at this
      constructor
      · rintro (h2 | ⟨h2, _⟩) <;> omega
      · intro _; omega

theorem less_numB (a b : Nat) (ha : a < 2 ^ 63) (hb : b < 2 ^ 63) : Op.bytesLess (numB a) (numB b) = decide (a < b) := by
  have ha8 : a < 256 ^ 8 := Nat.lt_of_lt_of_le ha (by decide)
  have hb8 : b < 256 ^ 8 := Nat.lt_of_lt_of_le hb (by decide)
  have hla := lowD_le 8 a
  have hlb := lowD_le 8 b
  have ia := lowD_length_iff 8 a
  have ib := lowD_length_iff 8 b
  have hca : (UInt8.ofNat (lowD 8 a).length).toNat = (lowD 8 a).length := by rw [UInt8.toNat_ofNat']; omega
  have hcb : (UInt8.ofNat (lowD 8 b).length).toNat = (lowD 8 b).length := by rw [UInt8.toNat_ofNat']; omega
  rw [Bool.eq_iff_iff, decide_eq_true_iff]
  rcases Nat.lt_trichotomy (lowD 8 a).length (lowD 8 b).length with h1 | h1 | h1
  · have e1 := (ib (lowD 8 a).length hb8).1 h1
    have e2 := mt (ia (lowD 8 a).length ha8).2 (by omega)
    have hlt : UInt8.ofNat (lowD 8 a).length < UInt8.ofNat (lowD 8 b).length := by rw [UInt8.lt_iff_toNat_lt, hca, hcb]; exact h1
    simp only [numB, Op.bytesLess, Bool.or_eq_true, decide_eq_true_iff]
    constructor
    · intro _; omega
    · intro _; exact .inl hlt
  · have := less_iff (numB a) (numB b) (by rw [numB_length, numB_length, h1])
    rw [this]
    have pa : beVal (numB a) = (UInt8.ofNat (lowD 8 a).length).toNat * 256 ^ (lowD 8 a).length + a := by
      rw [numB, beVal_cons, beVal_low 8 a ha8, List.length_reverse]
    have pb : beVal (numB b) = (UInt8.ofNat (lowD 8 b).length).toNat * 256 ^ (lowD 8 b).length + b := by
      rw [numB, beVal_cons, beVal_low 8 b hb8, List.length_reverse]
    rw [pa, pb, h1]; omega
  · have e1 := (ia (lowD 8 b).length ha8).1 h1
    have e2 := mt (ib (lowD 8 b).length hb8).2 (by omega)
    have hnlt : ¬ UInt8.ofNat (lowD 8 a).length < UInt8.ofNat (lowD 8 b).length := by rw [UInt8.lt_iff_toNat_lt, hca, hcb]; omega
    have hne : ¬ UInt8.ofNat (lowD 8 a).length = UInt8.ofNat (lowD 8 b).length := by rw [← UInt8.toNat_inj, hca, hcb]; omega
    simp only [numB, Op.bytesLess, Bool.or_eq_true, Bool.and_eq_true, decide_eq_true_iff, beq_iff_eq]
    constructor
    · rintro (h2 | ⟨h2, _⟩)
      · exact absurd h2 hnlt
      · exact absurd h2 hne
    · intro _; omega

/-- A number's bytes that lack some. -/
theorem numP_short (n k : Nat) (r : List UInt8) (h : k < (numB n).length) : numP ((numB n ++ r).take k) = (0, 0, 11) := by
  rw [List.take_append_of_le_length (by omega)]
  have hl := lowD_le 8 n
  have hc : (UInt8.ofNat (lowD 8 n).length).toNat = (lowD 8 n).length := by rw [UInt8.toNat_ofNat']; omega
  rw [numB_length] at h
  cases k with
  | zero => rfl
  | succ k =>
    rw [numB, List.take_succ_cons]
    refine numP_cut _ _ (by omega) ?_
    rw [hc, List.length_take, List.length_reverse]; omega

/-- A text's bytes that lack some. -/
theorem strP_short (t r : List UInt8) (ht : t.length ≤ 65536) (k : Nat) (h : k < (strB t).length) : strP ((strB t ++ r).take k) = ([], 0, 11) := by
  have e : strB t ++ r = numB t.length ++ (t ++ r) := by simp [strB]
  rw [e]
  by_cases hk : k < (numB t.length).length
  · have := numP_short t.length k (t ++ r) hk
    rw [strP_err _ (by rw [this]; simp), this]
  · have hs : (strB t).length = (numB t.length).length + t.length := by simp [strB]
    have e2 : (numB t.length ++ (t ++ r)).take k = numB t.length ++ (t ++ r).take (k - (numB t.length).length) := by
      rw [List.take_append, List.take_of_length_le (by omega)]
    have hp := numP_numB t.length (by omega) ((t ++ r).take (k - (numB t.length).length))
    rw [e2, strP_cut _ (by rw [hp]) (by rw [hp]; simp only; omega)]
    rw [hp, List.length_append, List.length_take]; simp only; omega

theorem listLoop_short (ls : List (List UInt8)) (h : ∀ t ∈ ls, t.length ≤ 65536) : ∀ (pre : List UInt8) (k : Nat) (acc : List (List UInt8)), pre.length ≤ k → k < pre.length + (textsB ls).length →
    listLoop ls.length ((pre ++ textsB ls).take k) pre.length acc = ([], 0, 11) := by
  induction ls with
  | nil => intro pre k acc h1 h2; simp [textsB] at h2; omega
  | cons t ls ih =>
    intro pre k acc h1 h2
    rw [textsB_cons, List.length_append] at h2
    have hd : ((pre ++ textsB (t :: ls)).take k).drop pre.length = (strB t ++ textsB ls).take (k - pre.length) := by
      rw [List.drop_take, List.drop_left, textsB_cons]
    rw [List.length_cons]
    by_cases hk : k - pre.length < (strB t).length
    · have hs := strP_short t (textsB ls) (h t (by simp)) (k - pre.length) hk
      rw [← hd] at hs
      exact loop_err hs (by decide)
    · have e2 : (strB t ++ textsB ls).take (k - pre.length) = strB t ++ (textsB ls).take (k - pre.length - (strB t).length) := by
        rw [List.take_append, List.take_of_length_le (by omega)]
      have hs := strP_strB t (h t (by simp)) ((textsB ls).take (k - pre.length - (strB t).length))
      rw [← e2, ← hd] at hs
      rw [loop_ok hs]
      have := ih (fun u hu => h u (by simp [hu])) (pre ++ strB t) k (acc ++ [t]) (by rw [List.length_append]; omega) (by rw [List.length_append]; omega)
      rw [List.length_append, List.append_assoc, ← textsB_cons] at this
      exact this

/-- A list's bytes that lack some. -/
theorem listP_short (ls : List (List UInt8)) (hl : ls.length ≤ 4096) (h : ∀ t ∈ ls, t.length ≤ 65536) (k : Nat) (hk : k < (numB ls.length ++ textsB ls).length) :
    listP ((numB ls.length ++ textsB ls).take k) = ([], 0, 11) := by
  rw [List.length_append] at hk
  by_cases hn : k < (numB ls.length).length
  · have := numP_short ls.length k (textsB ls) hn
    unfold listP; rw [this]; simp
  · have e2 : (numB ls.length ++ textsB ls).take k = numB ls.length ++ (textsB ls).take (k - (numB ls.length).length) := by
      rw [List.take_append, List.take_of_length_le (by omega)]
    have hp := numP_numB ls.length (by omega) ((textsB ls).take (k - (numB ls.length).length))
    rw [← e2] at hp
    unfold listP
    rw [hp]
    simp only [ne_eq, not_true, if_false]
    rw [if_neg (by omega)]
    exact listLoop_short ls h (numB ls.length) k [] (by omega) hk

/-- How many bytes some texts have, each held to 2048. -/
def sumM (ls : List (List UInt8)) : Nat := (ls.map fun t => min t.length 2048).sum
theorem sumM_snoc (ls : List (List UInt8)) (t : List UInt8) : sumM (ls ++ [t]) = sumM ls + min t.length 2048 := by simp [sumM]
theorem sumM_mem (ls : List (List UInt8)) (t : List UInt8) (h : t ∈ ls) : min t.length 2048 ≤ sumM ls := by
  induction ls with
  | nil => simp at h
  | cons u ls ih =>
    simp only [sumM, List.map_cons, List.sum_cons] at *
    rcases List.mem_cons.1 h with rfl | h
    · omega
    · have := ih h; omega
theorem sumM_le (ls : List (List UInt8)) : sumM ls ≤ 2048 * ls.length := by
  induction ls with
  | nil => simp [sumM]
  | cons u ls ih => simp only [sumM, List.map_cons, List.sum_cons, List.length_cons] at *; omega
end Go.Proofs.Ytdegdoiecfoieab
