/- Next of the document: the places behind a place. -/
import Derived.Test.YthdnpddfdlhlaabAMay
namespace Go.Proofs.Ythdnpddfdlhlaab
open Go.RowKit

theorem own_lower {w : World} {B C n : Nat} {e : TypeId} {size : Nat} {v : Value} {xs : List Value} (h : w.ownsRow B e size v n xs) (hb : C ≤ B) : w.ownsRow C e size v n xs := by
  obtain ⟨h1, h2⟩ := h
  refine ⟨h1, ?_⟩
  rcases h2 with h2 | ⟨g, cap, cur, a, b, c⟩
  · exact .inl h2
  · exact .inr ⟨g, cap, cur, a, Nat.le_trans hb b, c⟩
theorem goodF_len {n : Nat} : ∀ (l : List Int) (b : Int), b + 1 ≤ n → goodF n b l = true → b + 1 + l.length ≤ n
  | [], b, hb, _ => by simpa using hb
  | x :: l, b, hb, h => by
    simp only [goodF, Bool.and_eq_true, decide_eq_true_eq] at h
    have := goodF_len l x (by omega) h.2
    simp only [List.length_cons]
    omega
theorem goodL_len {n : Nat} {l : List Int} (h : goodL n l = true) : l.length ≤ n := by
  have := goodF_len l (-1) (by omega) h
  omega
/-- The places of a list where a word stands. -/
def nextL (ws : List Wd) (s : Wd) (L : List Int) : List Int := L.filter (fun x => decide (ws[x.toNat]? = some s))
theorem nextL_len (ws : List Wd) (s : Wd) (L : List Int) : (nextL ws s L).length ≤ L.length := List.length_filter_le _ _
theorem nextL_succ {ws : List Wd} {s u : Wd} {L : List Int} {i x : Nat} (hx : L[i]? = some (x : Int)) (hu : ws[x]? = some u) : nextL ws s (L.take (i + 1)) = nextL ws s (L.take i) ++ (if u = s then [(x : Int)] else []) := by
  unfold nextL
  rw [List.take_add_one, hx, List.filter_append]
  congr 1
  by_cases h : u = s
  · simp [hu, h]
  · simp [hu, h]
theorem next_no {a : Au} {z : Int} {s : Wd} (h : ¬ (mayA a = true ∧ isPl a z = true)) : nextA a z s = [] := by
  unfold nextA
  rw [if_neg h]
theorem next_yes {a : Au} {z : Int} {s : Wd} (h : mayA a = true) (hp : isPl a z = true) : nextA a z s = nextL a.words s (outA a z) := by
  unfold nextA
  rw [if_pos ⟨h, hp⟩]
  rfl
theorem may_first {a : Au} (h : mayA a = true) : goodL a.words.length a.first = true := by
  simp only [mayA, Bool.and_eq_true, decide_eq_true_eq] at h
  exact h.1.1.1.2
theorem may_last {a : Au} (h : mayA a = true) : goodL a.words.length a.last = true := by
  simp only [mayA, Bool.and_eq_true, decide_eq_true_eq] at h
  exact h.1.1.2
theorem may_len {a : Au} (h : mayA a = true) : a.words.length ≤ 24 ∧ a.follow.length = a.words.length := by
  simp only [mayA, Bool.and_eq_true, decide_eq_true_eq] at h
  exact h.1.1.1.1
theorem may_follow {a : Au} (h : mayA a = true) {l : List Int} (hl : l ∈ a.follow) : goodL a.words.length l = true := by
  simp only [mayA, Bool.and_eq_true, decide_eq_true_eq, List.all_eq_true] at h
  exact h.2 l hl
end Go.Proofs.Ythdnpddfdlhlaab
