/- Paths as trees: how many words, how deep, whether one may be. -/
import Derived.Test.YthdnpddfdlhlaaaVMath
namespace Go.Proofs.Ythdnpddfdlhlaaa
open Go.RowKit

/-- A path in memory: its kind, its word, the slice of its kids, the kids. -/
structure Vt where
  kind : Int
  word : List UInt8
  val : Value
  kids : List Vt
/-- A path: its kind, its word, its kids. -/
structure Pt where
  kind : Int
  word : List UInt8
  kids : List Pt
theorem Vt.ind {P : Vt → Prop} (h : ∀ k w v kids, (∀ x ∈ kids, P x) → P ⟨k, w, v, kids⟩) : ∀ t, P t
  | ⟨k, w, v, kids⟩ => h k w v kids (fun x _ => Vt.ind h x)
theorem Pt.ind {P : Pt → Prop} (h : ∀ k w kids, (∀ x ∈ kids, P x) → P ⟨k, w, kids⟩) : ∀ t, P t
  | ⟨k, w, kids⟩ => h k w kids (fun x _ => Pt.ind h x)
def Vt.pt : Vt → Pt
  | ⟨k, w, _, l⟩ => ⟨k, w, l.map Vt.pt⟩
theorem Vt.pt_mk (k : Int) (w : List UInt8) (v : Value) (l : List Vt) : Vt.pt ⟨k, w, v, l⟩ = ⟨k, w, l.map Vt.pt⟩ := by rw [Vt.pt]
theorem Vt.pt_eq (t : Vt) : t.pt = ⟨t.kind, t.word, t.kids.map Vt.pt⟩ := by
  obtain ⟨k, w, v, l⟩ := t
  exact Vt.pt_mk k w v l

/-- Has a path a word and so many kids as its kind wants them? -/
def formedP (k : Int) (w : List UInt8) (n : Nat) : Bool :=
  if k = 1 then decide (n = 0) && isW w else if k = 2 ∨ k = 3 then decide (2 ≤ n) && w.isEmpty else if k = 4 ∨ k = 5 ∨ k = 6 then decide (n = 1) && w.isEmpty else false
/-- How many words, but 25 if there are more, or if it is deeper than so much, or not formed. -/
def plP : Nat → Pt → Nat
  | 0, _ => 25
  | d + 1, ⟨k, w, l⟩ => if formedP k w l.length then (if k = 1 then 1 else min 25 (l.map (plP d)).sum) else 25
/-- How many words. -/
def leaves : Pt → Nat
  | ⟨k, _, l⟩ => if k = 1 then 1 else (l.map leaves).sum
theorem leaves_mk (k : Int) (w : List UInt8) (l : List Pt) : leaves ⟨k, w, l⟩ = if k = 1 then 1 else (l.map leaves).sum := by rw [leaves]
/-- How deep. -/
def high : Pt → Nat
  | ⟨_, _, l⟩ => (l.map high).foldl max 0 + 1
theorem high_mk (k : Int) (w : List UInt8) (l : List Pt) : high ⟨k, w, l⟩ = (l.map high).foldl max 0 + 1 := by rw [high]
/-- Has a path kids as its kind wants them, not too many, and is it not deeper than so much? -/
def shapedP : Nat → Pt → Bool
  | 0, _ => false
  | d + 1, ⟨k, w, l⟩ => formedP k w l.length && decide (l.length ≤ 24) && l.all (shapedP d)
def mayP (t : Pt) : Bool := shapedP 12 t && decide (leaves t ≤ 24)

theorem sum_ge {f : Pt → Nat} {l : List Pt} {x : Pt} (h : x ∈ l) : f x ≤ (l.map f).sum := by
  induction l with
  | nil => cases h
  | cons y l ih =>
    rw [List.map_cons, List.sum_cons]
    rcases List.mem_cons.1 h with rfl | h
    · omega
    · have := ih h; omega
theorem sum_len {f : Pt → Nat} {l : List Pt} (h : ∀ x ∈ l, 1 ≤ f x) : l.length ≤ (l.map f).sum := by
  induction l with
  | nil => simp
  | cons y l ih =>
    rw [List.map_cons, List.sum_cons, List.length_cons]
    have h1 := h y (List.mem_cons_self ..)
    have h2 := ih (fun x hx => h x (List.mem_cons_of_mem _ hx))
    omega
theorem formed_kids {k : Int} {w : List UInt8} {n : Nat} (h : formedP k w n = true) (h1 : k ≠ 1) : 1 ≤ n := by
  rw [formedP, if_neg h1] at h
  split at h
  · simp at h; omega
  · split at h
    · simp at h; omega
    · cases h
theorem formed_word {w : List UInt8} {n : Nat} (h : formedP 1 w n = true) : n = 0 := by
  simp [formedP] at h; exact h.1
theorem plP_pos : ∀ (d : Nat) (t : Pt), 1 ≤ plP d t
  | 0, _ => by simp [plP]
  | d + 1, ⟨k, w, l⟩ => by
    rw [plP]
    split
    · rename_i hf
      split
      · omega
      · rename_i h1
        have h2 := sum_len (l := l) (fun x _ => plP_pos d x)
        have h3 := formed_kids hf h1
        omega
    · omega
theorem plP_le : ∀ (d : Nat) (t : Pt), plP d t ≤ 25
  | 0, _ => by simp [plP]
  | d + 1, ⟨k, w, l⟩ => by
    rw [plP]
    split
    · split <;> omega
    · omega
theorem min_sum {f : Pt → Nat} {l : List Pt} : min 25 (l.map (fun x => min 25 (f x))).sum = min 25 (l.map f).sum := by
  induction l with
  | nil => rfl
  | cons y l ih =>
    simp only [List.map_cons, List.sum_cons]
    omega
theorem map_eq {f g : Pt → Nat} {l : List Pt} (h : ∀ x ∈ l, f x = g x) : l.map f = l.map g := List.map_congr_left h
theorem plP_shaped : ∀ (d : Nat) (t : Pt), shapedP d t = true → plP d t = min 25 (leaves t)
  | 0, _, h => by simp [shapedP] at h
  | d + 1, ⟨k, w, l⟩, h => by
    simp only [shapedP, Bool.and_eq_true, decide_eq_true_eq, List.all_eq_true] at h
    rw [plP, if_pos h.1.1, leaves_mk]
    by_cases h1 : k = 1
    · rw [if_pos h1, if_pos h1]; rfl
    · rw [if_neg h1, if_neg h1, map_eq (g := fun x => min 25 (leaves x)) (fun x hx => plP_shaped d x (h.2 x hx)), min_sum]
theorem plP_not : ∀ (d : Nat) (t : Pt), shapedP d t = false → plP d t = 25
  | 0, _, _ => by simp [plP]
  | d + 1, ⟨k, w, l⟩, h => by
    rw [plP]
    split
    · rename_i hf
      by_cases h1 : k = 1
      · subst h1
        have h0 : l = [] := List.length_eq_zero_iff.1 (formed_word hf)
        subst h0
        rw [List.length_nil] at hf
        simp [shapedP] at h
        rw [h] at hf; cases hf
      · rw [if_neg h1]
        by_cases h24 : l.length ≤ 24
        · have : ∃ x ∈ l, shapedP d x = false := by
            cases ha : l.all (shapedP d) with
            | true => simp [shapedP, hf, h24] at h; rw [List.all_eq_true] at ha; obtain ⟨x, hx, hn⟩ := h; rw [ha x hx] at hn; cases hn
            | false => simpa using ha
          obtain ⟨x, hx, hn⟩ := this
          have := sum_ge (f := plP d) hx
          rw [plP_not d x hn] at this
          omega
        · have := sum_len (l := l) (fun x _ => plP_pos d x)
          omega
    · rfl
theorem plP_may (t : Pt) : decide (plP 12 t < 25) = mayP t := by
  cases h : shapedP 12 t with
  | true =>
    rw [plP_shaped 12 t h, mayP, h, Bool.true_and]
    apply decide_eq_decide.2
    omega
  | false => rw [plP_not 12 t h, mayP, h]; rfl
theorem leaves_shaped : ∀ (d : Nat) (t : Pt), shapedP d t = true → leaves t ≤ 24 ^ d
  | 0, _, h => by simp [shapedP] at h
  | d + 1, ⟨k, w, l⟩, h => by
    simp only [shapedP, Bool.and_eq_true, decide_eq_true_eq, List.all_eq_true] at h
    rw [leaves_mk]
    have hp : 1 ≤ 24 ^ d := Nat.one_le_pow _ _ (by decide)
    by_cases h1 : k = 1
    · rw [if_pos h1, Nat.pow_succ]; omega
    · rw [if_neg h1]
      have key : ∀ l : List Pt, (∀ x ∈ l, leaves x ≤ 24 ^ d) → (l.map leaves).sum ≤ l.length * 24 ^ d := by
        intro l hl
        induction l with
        | nil => simp
        | cons y l ih =>
          rw [List.map_cons, List.sum_cons, List.length_cons, Nat.succ_mul]
          have a := hl y (List.mem_cons_self ..)
          have b := ih (fun x hx => hl x (List.mem_cons_of_mem _ hx))
          omega
      have a := key l (fun x hx => leaves_shaped d x (h.2 x hx))
      have b : l.length * 24 ^ d ≤ 24 * 24 ^ d := Nat.mul_le_mul_right _ h.1.2
      rw [Nat.pow_succ]
      omega
theorem foldl_max_le {l : List Nat} {m n : Nat} (hm : m ≤ n) (h : ∀ x ∈ l, x ≤ n) : l.foldl max m ≤ n := by
  induction l generalizing m with
  | nil => exact hm
  | cons y l ih =>
    rw [List.foldl_cons]
    exact ih (Nat.max_le.2 ⟨hm, h y (List.mem_cons_self ..)⟩) (fun x hx => h x (List.mem_cons_of_mem _ hx))
theorem high_shaped : ∀ (d : Nat) (t : Pt), shapedP d t = true → high t ≤ d
  | 0, _, h => by simp [shapedP] at h
  | d + 1, ⟨k, w, l⟩, h => by
    simp only [shapedP, Bool.and_eq_true, decide_eq_true_eq, List.all_eq_true] at h
    rw [high_mk]
    have : (l.map high).foldl max 0 ≤ d := foldl_max_le (Nat.zero_le _) (fun x hx => by
      obtain ⟨y, hy, rfl⟩ := List.mem_map.1 hx
      exact high_shaped d y (h.2 y hy))
    omega
end Go.Proofs.Ythdnpddfdlhlaaa
