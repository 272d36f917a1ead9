/- What the statements on paths need in common. -/
import Derived.Test.YthdnpddfdlhlaaaBAwakeW
import Derived.Test.YthdnpddfdlhlaaaBFlat
import Derived.Test.YthdnpddfdlhlaaaQShaped
import Derived.Test.YthdnpddfdlhlaaaQRTree
import Derived.Deep.RegionHeld3
namespace Go.Proofs.Ythdnpddfdlhlaaa
open Go.RowKit Go.Shelf

theorem high_pos (t : Pt) : 1 ≤ high t := by
  obtain ⟨k, w, l⟩ := t
  rw [high_mk]
  omega
theorem shaped_high : ∀ (e d : Nat) (t : Pt), shapedP d t = true → high t ≤ e → shapedP e t = true
  | 0, d, t, _, h => by have := high_pos t; omega
  | e + 1, 0, t, hs, _ => by simp [shapedP] at hs
  | e + 1, d + 1, ⟨k, w, l⟩, hs, hh => by
    simp only [shapedP, Bool.and_eq_true, decide_eq_true_eq, List.all_eq_true] at hs ⊢
    refine ⟨hs.1, fun x hx => shaped_high e d x (hs.2 x hx) ?_⟩
    have := high_kid (k := k) (wd := w) hx
    omega
theorem may_high {t : Pt} (h : mayP t = true) : high t ≤ 12 := by
  simp only [mayP, Bool.and_eq_true, decide_eq_true_eq] at h
  exact high_shaped 12 t h.1
theorem may_leaves {t : Pt} (h : mayP t = true) : leaves t ≤ 24 := by
  simp only [mayP, Bool.and_eq_true, decide_eq_true_eq] at h
  exact h.2
theorem may_one {k : Int} {t : Pt} (hk : k = 4 ∨ k = 5 ∨ k = 6) (h : mayP t = true) (h11 : high t ≤ 11) : mayP ⟨k, [], [t]⟩ = true := by
  simp only [mayP, Bool.and_eq_true, decide_eq_true_eq] at h ⊢
  have hs := shaped_high 11 12 t h.1 h11
  refine ⟨?_, ?_⟩
  · rw [shapedP]
    simp only [List.all_cons, List.all_nil, hs]
    rcases hk with rfl | rfl | rfl <;> rfl
  · rw [leaves_mk, if_neg (by omega)]
    simpa using h.2
/-- How Of ends, of a path that may be: an automaton that accepts just what will do. -/
def OfE (P : Pt) (u : World) (e : Ending) (w' : World) : Prop :=
  ∃ m : Mu, e = .returned (.tuple #[encU m, .int .i64 0]) ∧ UOk (fun _ => True) w' m ∧ (∀ L, accB m.au L = true ↔ willL P L) ∧ Below u.heap.size u w'
theorem of_may {S : Nat → Prop} {w : World} {t : Vt} (h : VOk S w t) (hm : mayP t.pt = true) : Calls Try.prog 11 #[encN t] w (OfE t.pt w) := by
  have h2 := of_any h
  rw [ofA, if_pos hm, if_pos hm] at h2
  refine h2.mono ?_
  rintro e w' ⟨m, rfl, hu, ha, hb⟩
  exact ⟨m, rfl, hu.sub (fun _ _ => trivial), fun L => by rw [ha, accB_iff]; exact (auto_will hm).2 L, hb⟩
theorem bool_iff {a b : Bool} (h : a = true ↔ b = true) : a = b := by
  cases a <;> cases b <;> simp_all
theorem cut_txts {S : Nat → Prop} {w : World} {wa : Option Addr} {n wcap c i : Nat} {L : List Wd} (h : TxtS S w (.slice wa n wcap) L) (hn : n = L.length) (hi : i ≤ n) (hc : n ≤ wcap) : TxtS S w (.slice (if wcap = i then wa else Option.map (fun x => x.add i) wa) (n - i) c) (L.drop i) := by
  by_cases e : wcap = i
  · have h1 : L.drop i = [] := List.drop_eq_nil_iff.2 (by omega)
    rw [h1, show n - i = 0 by omega]
    exact sl_end _ _
  · rw [if_neg e]
    rcases L with _ | ⟨y, L⟩
    · rw [List.drop_nil, show n - i = 0 by rw [hn]; simp]
      exact sl_end _ _
    · obtain ⟨g, off, rfl, _⟩ := h.get (j := 0) (x := y) rfl
      have := sl_drop (i := i) (cap2 := c) h hn
      rw [Nat.mul_one] at this
      rw [Option.map_some, addA]
      exact this
end Go.Proofs.Ythdnpddfdlhlaaa
