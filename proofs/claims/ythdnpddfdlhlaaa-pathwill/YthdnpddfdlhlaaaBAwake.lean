/- word, awake of the statements. -/
import Derived.Test.YthdnpddfdlhlaaaBOf
import Derived.Test.YthdnpddfdlhlaaaBAccW
import Derived.Test.YthdnpddfdlhlaaaASame
namespace Go.Proofs.Ythdnpddfdlhlaaa
open Go.RowKit

theorem alloc_get (w : World) (o : Obj) (k : Nat) : (w.alloc o).heap[k]? = if k = w.heap.size then some o else w.heap[k]? := by
  show (w.heap.push o)[k]? = _
  rw [Array.getElem?_push]
/-- What lies in blocks that were just made, one behind the other. -/
theorem get_at : ∀ (os : List Obj) (w : World) (k : Nat), k < os.length → (os.foldl World.alloc w).heap[w.heap.size + k]? = os[k]?
  | [], _, k, h => by simp at h
  | o :: os, w, 0, _ => by
    have key : ∀ (os : List Obj) (w : World) (j : Nat), j < w.heap.size → (os.foldl World.alloc w).heap[j]? = w.heap[j]? := by
      intro os
      induction os with
      | nil => intro w j _; rfl
      | cons o os ih => intro w j hj; rw [List.foldl_cons, ih (w.alloc o) j (by simp; omega), alloc_get, if_neg (by omega)]
    rw [List.foldl_cons, key os (w.alloc o) _ (by simp), alloc_get, if_pos (Nat.add_zero _)]
    rfl
  | o :: os, w, k + 1, h => by
    have := get_at os (w.alloc o) k (by simpa using h)
    rw [List.foldl_cons, ← show (w.alloc o).heap.size + k = w.heap.size + (k + 1) by simp; omega, this]
    rfl
theorem sl_lit {α : Type} {enc : α → List Value} {k : Nat} (hk : ∀ x, (enc x).length = k) {w : World} {g cap n : Nat} {L : List α} {t : TypeId} {cs : Array Value} (h : w.heap[g]? = some (.cells cs t (0, 0))) (hc : cs = (L.flatMap enc).toArray) (hn : n = L.length) : SlS enc k (fun _ => True) w (.slice (some ⟨g, 0, none⟩) n cap) L := by
  subst hc hn
  refine ⟨_, cap, rfl, .inr ⟨g, 0, rfl, trivial, lt_of_block h, fun j x hx c u hu => ?_⟩⟩
  have hc : c < k := by have := (List.getElem?_eq_some_iff.1 hu).1; rw [hk] at this; exact this
  have := flat_at hk L j c x hx hc
  simp only [World.cell?, h]
  show (L.flatMap enc).toArray[0 + j * k + c]? = some u
  rw [Nat.zero_add, List.getElem?_toArray, this]
  exact hu

set_option maxRecDepth 100000 in
theorem word_any (s : List UInt8) (w : World) : Calls Try.prog 27 #[.string ⟨s.toArray⟩] w fun e w' => e = .returned (.agg #[.int .i64 1, .string ⟨s.toArray⟩, .slice none 0 0]) ∧ Below w.heap.size w w' := by
  have HB : Hid (∀ a : Obj, Below w.heap.size w (w.alloc a)) := Hid.mk (fun a => (Below.refl _ _).alloc (Nat.le_refl _) _)
  go_enter Try.func27, Try.ntmps27
  go_wp2
  refine bodyPost_ret (v := .agg #[.int .i64 1, .string ⟨s.toArray⟩, .slice none 0 0]) ?_ rfl ⟨rfl, HB.out _⟩
  simp [results, Try.results27, go_sem]

abbrev vtW (s : List UInt8) : Vt := ⟨1, s, .slice none 0 0, []⟩
theorem vok_word (S : Nat → Prop) (w : World) {s : List UInt8} (hs : s.length ≤ 100) : VOk S w (vtW s) := vok_mk.2 ⟨SlS.nil _ _, by omega, by simp, by simp⟩
def ptAw : Pt := ⟨2, [], [⟨1, [112], []⟩, ⟨4, [], [⟨1, [113], []⟩]⟩]⟩
def auAw : Au := ⟨[[112], [113]], [0], [0, 1], [[1], [1]], false⟩
theorem aw_may : mayP ptAw = true := by
  simp [mayP, ptAw, shapedP, leaves_mk, formedP]
  decide
theorem aw_of : ofA ptAw = auAw := by
  rw [ofA, if_pos aw_may, autoOf, ptAw]
  simp only [prtOf_mk, List.map_cons, List.map_nil, kindC]
  rfl
theorem aw_acc1 : accB auAw [[112], [113], [113]] = true := by decide +kernel
theorem aw_acc2 : accB auAw [[113]] = false := by decide +kernel
theorem aw_end : endsA auAw 0 = true := by decide +kernel
end Go.Proofs.Ythdnpddfdlhlaaa
