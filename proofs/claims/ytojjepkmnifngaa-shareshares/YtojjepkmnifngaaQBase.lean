/- Frames, rows, slices in memory: for a seat that has neither store nor token. -/
import Derived.Test.YtojjepkmnifngaaCRSum
import Derived.Deep.AppendLies
import Derived.Deep.RegionHeld3
namespace Go.Proofs.Ytojjepkmnifngaa
open Go.RowKit

/-- The blocks of S are kept. -/
structure Fr (S : Nat → Prop) (w w' : World) : Prop where
  os : w'.os = w.os
  tape : w'.tape = w.tape
  output : w'.output = w.output
  size : w.heap.size ≤ w'.heap.size
  block : ∀ k, S k → w'.heap[k]? = w.heap[k]?
theorem Fr.refl (S : Nat → Prop) (w : World) : Fr S w w := ⟨rfl, rfl, rfl, Nat.le_refl _, fun _ _ => rfl⟩
theorem Fr.trans {S : Nat → Prop} {a b c : World} (h : Fr S a b) (k : Fr S b c) : Fr S a c :=
  ⟨k.os.trans h.os, k.tape.trans h.tape, k.output.trans h.output, Nat.le_trans h.size k.size, fun i hi => (k.block i hi).trans (h.block i hi)⟩
theorem Fr.sub {S T : Nat → Prop} {w w' : World} (h : Fr S w w') (hs : ∀ k, T k → S k) : Fr T w w' := ⟨h.os, h.tape, h.output, h.size, fun k hk => h.block k (hs k hk)⟩
theorem Fr.below {S : Nat → Prop} {w w' : World} {B : Nat} (h : Fr S w w') (hs : ∀ k, k < B → S k) : Below B w w' := ⟨h.os, h.tape, h.output, h.size, fun k hk => h.block k (hs k hk)⟩
/-- S names blocks of the world alone. -/
def Low (S : Nat → Prop) (w : World) : Prop := ∀ k, S k → k < w.heap.size
theorem Low.fr {S T : Nat → Prop} {w w' : World} (h : Low S w) (hf : Fr T w w') : Low S w' := fun k hk => Nat.lt_of_lt_of_le (h k hk) hf.size
theorem Low.below {S : Nat → Prop} {w w' : World} {B : Nat} (h : Low S w) (hf : Below B w w') : Low S w' := fun k hk => Nat.lt_of_lt_of_le (h k hk) hf.size
theorem Low.size {S : Nat → Prop} {w w' : World} (h : Low S w) (hf : w.heap.size ≤ w'.heap.size) : Low S w' := fun k hk => Nat.lt_of_lt_of_le (h k hk) hf
theorem fr_below {S : Nat → Prop} {w w' : World} (hS : Low S w) (h : Below w.heap.size w w') : Fr S w w' := ⟨h.os, h.tape, h.output, h.size, fun k hk => h.block k (hS k hk)⟩
theorem Fr.next {S : Nat → Prop} {w w1 w2 : World} (h : Fr S w w1) (hS : Low S w) (hb : Below w1.heap.size w1 w2) : Fr S w w2 := h.trans (fr_below (hS.fr h) hb)
theorem Fr.setCell {S : Nat → Prop} {w w' : World} {b i : Nat} (h : Fr S w w') (hb : ¬ S b) (v : Value) : Fr S w (w'.setCell ⟨b, i, none⟩ v) :=
  ⟨h.os, h.tape, h.output, by simpa using h.size, fun k hk => (Below.heap_setCell w' ⟨b, i, none⟩ v k (fun e => hb (by rw [← show k = b from e]; exact hk))).trans (h.block k hk)⟩
theorem Fr.grown {S : Nat → Prop} {w w1 w2 : World} {row : Option Nat} (h : Fr S w w1) (hS : Low S w) (hg : w1.grownBy w2 row) (hr : ∀ g, row = some g → ¬ S g) : Fr S w w2 :=
  ⟨hg.os.trans h.os, hg.tape.trans h.tape, hg.output.trans h.output, Nat.le_trans h.size hg.size, fun k hk => (hg.block k (Nat.lt_of_lt_of_le (hS k hk) h.size) (fun e => hr k e.symm hk)).trans (h.block k hk)⟩

/-- What was made since may be kept too. -/
def Plus (S : Nat → Prop) (lo hi : Nat) : Nat → Prop := fun k => S k ∨ (lo ≤ k ∧ k < hi)
theorem Low.plus {S : Nat → Prop} {w w' : World} (h : Low S w) (hs : w.heap.size ≤ w'.heap.size) : Low (Plus S w.heap.size w'.heap.size) w' := fun k hk => by
  rcases hk with hk | hk
  · have := h k hk; omega
  · exact hk.2
theorem below_grown {w w' : World} (hb : Below w.heap.size w w') : w.grownBy w' none := ⟨hb.os, hb.tape, hb.output, hb.size, fun k hk _ => hb.block k hk⟩
theorem box_at (w : World) (o : Obj) : (w.alloc o).heap[w.heap.size]? = some o := heap_alloc_new w o
theorem own_slice {w : World} {B n : Nat} {e : TypeId} {size : Nat} {v : Value} {xs : List Value} (h : w.ownsRow B e size v n xs) : ∃ ao cap, v = .slice ao n cap := by
  rcases h.2 with ⟨rfl, rfl⟩ | ⟨g, cap, cur, rfl, _⟩
  · exact ⟨none, 0, rfl⟩
  · exact ⟨_, cap, rfl⟩
theorem own_lt {w : World} {B n g : Nat} {e : TypeId} {size : Nat} {v : Value} {xs : List Value} (h : w.ownsRow B e size v n xs) (hg : v.ownBlock = some g) : g < w.heap.size := (h.lt g hg).2
theorem owns_key {w w' : World} {B n : Nat} {e : TypeId} {size : Nat} {v : Value} {xs : List Value} (h : w.ownsRow B e size v n xs) (key : ∀ g o, v.ownBlock = some g → w.heap[g]? = some o → w'.heap[g]? = some o) : w'.ownsRow B e size v n xs := by
  refine ⟨h.1, ?_⟩
  rcases h.2 with h0 | ⟨g, cap, cur, e1, e2, e3, e4⟩
  · exact .inl h0
  · exact .inr ⟨g, cap, cur, e1, e2, key g _ (by rw [e1]; rfl) e3, e4⟩
theorem owns_below {w w' : World} {B n : Nat} {e : TypeId} {size : Nat} {v : Value} {xs : List Value} (h : w.ownsRow B e size v n xs) (hb : Below w.heap.size w w') : w'.ownsRow B e size v n xs :=
  owns_key h (fun g _ _ ho => (hb.block g (lt_of_block ho)).trans ho)

/-! Slices whose elements have k cells each. -/
section
variable {α : Type} {enc : α → List Value} {k : Nat}
/-- A slice whose elements lie in a block of S. -/
def SlS (enc : α → List Value) (k : Nat) (S : Nat → Prop) (w : World) (v : Value) (L : List α) : Prop :=
  ∃ ao cap, v = .slice ao L.length cap ∧ (L = [] ∨ ∃ g off, ao = some ⟨g, off, none⟩ ∧ S g ∧ g < w.heap.size ∧ ∀ (j : Nat) x, L[j]? = some x → ∀ (c : Nat) u, (enc x)[c]? = some u → w.cell? ⟨g, off + j * k + c, none⟩ = some u)
theorem SlS.keep {S T : Nat → Prop} {w w' : World} {v : Value} {L : List α} (h : SlS enc k S w v L) (hz : w.heap.size ≤ w'.heap.size) (hk : ∀ b, S b → b < w.heap.size → T b ∧ w'.heap[b]? = w.heap[b]?) : SlS enc k T w' v L := by
  obtain ⟨ao, cap, e, h⟩ := h
  refine ⟨ao, cap, e, ?_⟩
  rcases h with h | ⟨g, off, e1, hs, hl, hc⟩
  · exact .inl h
  · obtain ⟨ht, hb⟩ := hk g hs hl
    exact .inr ⟨g, off, e1, ht, Nat.lt_of_lt_of_le hl hz, fun j x hx c u hu => by simpa only [World.cell?, hb] using hc j x hx c u hu⟩
theorem SlS.below {S : Nat → Prop} {w w' : World} {v : Value} {L : List α} (h : SlS enc k S w v L) (hb : Below w.heap.size w w') : SlS enc k S w' v L :=
  h.keep hb.size (fun b hs hl => ⟨hs, hb.block b hl⟩)
theorem SlS.fr {S : Nat → Prop} {w w' : World} {v : Value} {L : List α} (h : SlS enc k S w v L) (hf : Fr S w w') : SlS enc k S w' v L :=
  h.keep hf.size (fun b hs _ => ⟨hs, hf.block b hs⟩)
theorem SlS.sub {S T : Nat → Prop} {w : World} {v : Value} {L : List α} (h : SlS enc k S w v L) (hs : ∀ b, S b → b < w.heap.size → T b) : SlS enc k T w v L :=
  h.keep (Nat.le_refl _) (fun b hb hl => ⟨hs b hb hl, rfl⟩)
theorem SlS.nil (S : Nat → Prop) (w : World) : SlS enc k S w (.slice none 0 0) [] := ⟨none, 0, rfl, .inl rfl⟩
theorem SlS.get {S : Nat → Prop} {w : World} {ao : Option Addr} {n cap : Nat} {L : List α} (h : SlS enc k S w (.slice ao n cap) L) {j : Nat} {x : α} (hx : L[j]? = some x) :
    ∃ g off, ao = some ⟨g, off, none⟩ ∧ S g ∧ g < w.heap.size ∧ ∀ (c : Nat) u, (enc x)[c]? = some u → w.cell? ⟨g, off + j * k + c, none⟩ = some u := by
  obtain ⟨ao', cap', e, h⟩ := h
  injection e with e1 e2 e3
  subst e1
  rcases h with rfl | ⟨g, off, e1, hs, hl, hc⟩
  · simp at hx
  · exact ⟨g, off, e1, hs, hl, hc j x hx⟩
theorem SlS.slice {S : Nat → Prop} {w : World} {v : Value} {L : List α} (h : SlS enc k S w v L) : ∃ ao cap, v = .slice ao L.length cap := by
  obtain ⟨ao, cap, e, _⟩ := h
  exact ⟨ao, cap, e⟩
theorem flat_len (hk : ∀ x, (enc x).length = k) (L : List α) : (L.flatMap enc).length = L.length * k := by
  induction L with
  | nil => simp
  | cons x l ih => rw [List.flatMap_cons, List.length_append, ih, hk, List.length_cons, Nat.succ_mul]; omega
theorem flat_at (hk : ∀ x, (enc x).length = k) : ∀ (L : List α) (j c : Nat) (x : α), L[j]? = some x → c < k → (L.flatMap enc)[j * k + c]? = (enc x)[c]?
  | [], j, c, x, h, _ => by simp at h
  | y :: l, 0, c, x, h, hc => by
    simp at h
    subst h
    rw [List.flatMap_cons, Nat.zero_mul, Nat.zero_add, List.getElem?_append_left (by rw [hk]; exact hc)]
  | y :: l, j + 1, c, x, h, hc => by
    rw [List.flatMap_cons, List.getElem?_append_right (by rw [hk, Nat.succ_mul]; omega), hk, show (j + 1) * k + c - k = j * k + c by rw [Nat.succ_mul]; omega]
    exact flat_at hk l j c x (by simpa using h) hc
theorem own_sl (hk : ∀ x, (enc x).length = k) {w : World} {B n : Nat} {e : TypeId} {v : Value} {L : List α} (h : w.ownsRow B e k v n (L.flatMap enc)) (hn : n = L.length) : SlS enc k (fun g => v.ownBlock = some g) w v L := by
  have h0 := h
  rcases h.2 with ⟨rfl, h1⟩ | ⟨g, cap, cur, rfl, _⟩
  · have : L = [] := List.length_eq_zero_iff.1 (by omega)
    subst this
    exact SlS.nil _ _
  · subst hn
    refine ⟨_, cap, rfl, .inr ⟨g, 0, rfl, rfl, (h.lt g rfl).2, fun j x hx c u hu => ?_⟩⟩
    have hc : c < k := by have := (List.getElem?_eq_some_iff.1 hu).1; rw [hk] at this; exact this
    have hj := (List.getElem?_eq_some_iff.1 hx).1
    have hlt : j * k + c < (L.flatMap enc).length := by
      rw [flat_len hk]
      have : (j + 1) * k ≤ L.length * k := Nat.mul_le_mul_right k hj
      rw [Nat.succ_mul] at this
      omega
    rw [Nat.zero_add, h0.cellAt (j * k + c) (by rw [flat_len hk] at hlt; exact hlt), flat_at hk L j c x hx hc, hu]
end

end Go.Proofs.Ytojjepkmnifngaa
