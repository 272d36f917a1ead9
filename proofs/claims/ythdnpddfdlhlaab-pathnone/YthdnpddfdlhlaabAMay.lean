/- May of the document: which automata may be. -/
import Derived.Test.YthdnpddfdlhlaabAAuto
namespace Go.Proofs.Ythdnpddfdlhlaab
open Go.RowKit

theorem getTx {w : World} {g o : Nat} {s : List UInt8} (h : ∀ (c : Nat) u, (csT s)[c]? = some u → w.cell? ⟨g, o + c, none⟩ = some u) : w.cell? ⟨g, o, none⟩ = some (.string ⟨s.toArray⟩) := h 0 _ rfl
theorem getW {w : World} {g o : Nat} {p : Value × List Int} (h : ∀ (c : Nat) u, (csW p)[c]? = some u → w.cell? ⟨g, o + c, none⟩ = some u) : w.cell? ⟨g, o, none⟩ = some p.1 := h 0 _ rfl
theorem all_takeZ {α : Type} {f : α → Bool} {L : List α} {i : Nat} {x : α} (hx : L[i]? = some x) (h : (L.take i).all f = true) (hm : f x = true) : (L.take (i + 1)).all f = true := by
  rw [List.take_add_one, hx, List.all_append, h]
  simp [hm]
theorem all_notZ {α : Type} {f : α → Bool} {L : List α} {i : Nat} {x : α} (hx : L[i]? = some x) (hm : f x = false) : L.all f = false := by
  rw [List.all_eq_false]
  exact ⟨x, List.mem_of_getElem? hx, by rw [hm]; decide⟩
end Go.Proofs.Ythdnpddfdlhlaab
