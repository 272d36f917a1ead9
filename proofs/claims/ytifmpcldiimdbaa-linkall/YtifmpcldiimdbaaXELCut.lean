/- LinkAll: behind whatever script of up to 150 acts on a line of two ends, once all that an end sends again comes, in whatever order, all that was put has come and nothing waits: for every epochs, script and turn. -/
import Derived.Test.YtifmpcldiimdbaaXELPuts
namespace Go.Proofs.Ytifmpcldiimdbaa
open Go.RowKit Go.Shelf

theorem strCs_take (l : List (List UInt8)) (i : Nat) : strCs (l.take i) = (strCs l).take i := by simp [strCs, List.map_take]
theorem strCs_drop (l : List (List UInt8)) (i : Nat) : strCs (l.drop i) = (strCs l).drop i := by simp [strCs, List.map_drop]
/-- The first i ones, as a source of append. -/
theorem txr_take {T : Nat → Prop} {w : World} {ao : Option Addr} {cap i : Nat} {l : List (List UInt8)} (h : TxR T w (.slice ao l.length cap) l) (hi : i < l.length) : (ao = none → i = 0 ∧ cap = 0) ∧ ∀ ad, ao = some ad → ∀ (j : Nat) u, (strCs (l.take i))[j]? = some u → w.cell? (ad.add j) = some u := by
  obtain ⟨ao', cap', e, h0, _, hc⟩ := txr_cells h
  injection e with e1 _ e3
  subst e1 e3
  refine ⟨fun h1 => by have := h0 h1; omega, fun ad had j u hj => hc ad had j u ?_⟩
  rw [strCs_take, List.getElem?_take] at hj
  split at hj
  · exact hj
  · cases hj
/-- What is behind the place i, as a source of append: where the slice ends there, and where it does not. -/
theorem txr_drop {T : Nat → Prop} {w : World} {ao : Option Addr} {cap i : Nat} {l : List (List UInt8)} (h : TxR T w (.slice ao l.length cap) l) (hi : i < l.length) :
    ∃ g o, ao = some ⟨g, o, none⟩ ∧ ∀ (j : Nat) u, (strCs (l.drop (i + 1)))[j]? = some u → w.cell? ⟨g, o + (i + 1) + j, none⟩ = some u := by
  obtain ⟨ao', cap', e, h0, _, h⟩ := h
  injection e with e1
  subst e1
  rcases h with rfl | ⟨g, o, cur, e1, e2, e3, e4⟩
  · simp at hi
  · refine ⟨g, o, e1, fun j u hj => ?_⟩
    rw [strCs, List.getElem?_map, List.getElem?_drop] at hj
    obtain ⟨t, ht, rfl⟩ := Option.map_eq_some_iff.1 hj
    simp only [World.cell?, e3]
    rw [Nat.add_assoc]
    exact e4 (i + 1 + j) t ht
theorem erase_eq (l : List (List UInt8)) (i : Nat) : l.eraseIdx i = l.take i ++ l.drop (i + 1) := List.eraseIdx_eq_take_drop_succ l i
end Go.Proofs.Ytifmpcldiimdbaa
