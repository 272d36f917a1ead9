/- cross of the document: all pairs of two lists. -/
import Derived.Test.YthdnpddfdlhlaabABoth
import Derived.Deep.RegionLaw
namespace Go.Proofs.Ythdnpddfdlhlaab
open Go.RowKit Go.Shelf

/-- The cells of a pair. -/
abbrev csP (p : Int × Int) : List Value := [.int .i64 p.1, .int .i64 p.2]
theorem csP_len (x : Int × Int) : (csP x).length = 2 := rfl
theorem one_csP (L : List (Int × Int)) : ∀ u ∈ L.flatMap csP, u.oneCell' = true := by
  intro u hu
  obtain ⟨x, _, h⟩ := List.mem_flatMap.1 hu
  simp at h
  rcases h with rfl | rfl <;> rfl
def crossI (a b : List Int) : List (Int × Int) := a.flatMap fun x => b.map fun y => (x, y)
theorem crossI_succ {a b : List Int} {i : Nat} {x : Int} (hx : a[i]? = some x) : crossI (a.take (i + 1)) b = crossI (a.take i) b ++ b.map (fun y => (x, y)) := by
  unfold crossI
  rw [List.take_add_one, hx, List.flatMap_append]
  simp
theorem crossI_len (a b : List Int) : (crossI a b).length = a.length * b.length := by
  unfold crossI
  induction a with
  | nil => simp
  | cons x l ih => rw [List.flatMap_cons, List.length_append, ih, List.length_map, List.length_cons, Nat.succ_mul]; omega
end Go.Proofs.Ythdnpddfdlhlaab
