/- Parts of the proofs of stage 15. -/
import Derived.Test.YtifmpcldiimdbaaZD
import Derived.Test.YtifmpcldiimdbaaZE
import Derived.LaidEqlPtr
import Derived.ArgAppend
import Derived.Lib.SliceRun
import Derived.BigFrame
import Derived.Deep.RegionHeld3
namespace Go.Proofs.Ytifmpcldiimdbaa

/-- An end: its epoch, the other's, the number of the first payload that waits, the number that it wants, what waits. -/
structure En where
  ep : Nat
  ot : Nat
  fs : Nat
  wt : Nat
  q : List (List UInt8)

structure En.ok (e : En) : Prop where
  ep1 : 1 ≤ e.ep
  ep2 : e.ep ≤ 1099511627776
  ot2 : e.ot ≤ 4611686018427387903
  fs1 : 1 ≤ e.fs
  fs2 : e.fs ≤ 4611686018427387904
  wt1 : 1 ≤ e.wt
  wt2 : e.wt ≤ 4611686018427387904
  ql : e.q.length ≤ 4096
  qs : ∀ p ∈ e.q, p.length ≤ 32768

def packN (n : NoteD) : List UInt8 := if n.may then sealB n.body else []
def carN (e : En) (k : Nat) (p : List UInt8) : NoteD := ⟨1, [(e.ep : Int), (e.ot : Int), (k : Int), (e.wt : Int)], [p], []⟩
def telN (e : En) : NoteD := ⟨2, [(e.ep : Int), (e.ot : Int), (e.wt : Int)], [], []⟩
def carB (e : En) (k : Nat) (p : List UInt8) : List UInt8 := packN (carN e k p)
def telB (e : En) : List UInt8 := packN (telN e)

def newE (ep : Nat) : En := ⟨ep, 0, 1, 1, []⟩
theorem newE_ok {ep : Nat} (h1 : 1 ≤ ep) (h2 : ep ≤ 1099511627776) : (newE ep).ok := ⟨h1, h2, Nat.zero_le _, Nat.le_refl _, by simp [newE], Nat.le_refl _, by simp [newE], by simp [newE], by simp [newE]⟩

/-- What a note's bytes are, if they may wait. -/
def fitsN (n : NoteD) : Prop := n.may ∧ (sealB n.body).length ≤ 32768
instance (n : NoteD) : Decidable (fitsN n) := inferInstanceAs (Decidable (_ ∧ _))
def pushE (e : En) (p : List UInt8) : En := { e with q := e.q ++ [p] }
theorem pushE_ok {e : En} (h : e.ok) {p : List UInt8} (hl : e.q.length < 4096) (hp : p.length ≤ 32768) : (pushE e p).ok := by
  have kq : ∀ x ∈ (pushE e p).q, x.length ≤ 32768 := by
    intro x hx
    simp only [pushE, List.mem_append, List.mem_singleton] at hx
    rcases hx with hx | rfl
    · exact h.qs x hx
    · exact hp
  exact { h with ql := by simp only [pushE, List.length_append, List.length_cons, List.length_nil]; omega, qs := kq }
def putE (e : En) (n : NoteD) : En × List (List UInt8) × Nat :=
  if ¬ fitsN n then (e, [], 1)
  else if 4096 ≤ e.q.length then (e, [], 2)
  else if 64 < e.q.length + 1 then (pushE e (sealB n.body), [], 0)
  else (pushE e (sealB n.body), [carB e (e.fs + e.q.length) (sealB n.body)], 0)

def tickF (e : En) : Nat → List (List UInt8) → List (List UInt8)
  | _, [] => []
  | k, p :: l => carB e k p :: tickF e (k + 1) l
def tickE (e : En) : List (List UInt8) := tickF e e.fs (e.q.take 64)
theorem tickF_len (e : En) : ∀ (l : List (List UInt8)) (k : Nat), (tickF e k l).length = l.length
  | [], _ => rfl
  | _ :: l, k => by simp [tickF, tickF_len e l (k + 1)]
theorem tickF_at (e : En) : ∀ (l : List (List UInt8)) (k j : Nat) (p : List UInt8), l[j]? = some p → (tickF e k l)[j]? = some (carB e (k + j) p)
  | [], _, _, _, h => by simp at h
  | p :: l, k, 0, x, h => by simp at h; subst h; simp [tickF]
  | _ :: l, k, j + 1, x, h => by
    rw [tickF, List.getElem?_cons_succ, tickF_at e l (k + 1) j x (by simpa using h)]
    congr 2; omega
theorem tickF_snoc (e : En) : ∀ (l : List (List UInt8)) (k : Nat) (p : List UInt8), tickF e k (l ++ [p]) = tickF e k l ++ [carB e (k + l.length) p]
  | [], k, p => by simp [tickF]
  | x :: l, k, p => by
    rw [List.cons_append, tickF, tickF_snoc e l (k + 1) p, tickF, List.cons_append, List.length_cons]
    congr 4; omega
theorem tickE_len (e : En) : (tickE e).length = min 64 e.q.length := by rw [tickE, tickF_len, List.length_take]

/-- What a packet says. -/
structure Hd where
  ep : Int
  ot : Int
  wt : Int
  ca : Bool
  nr : Int
  pl : NoteD

def onlyP (l : List UInt8) : NoteD × Bool := ((unpackP l).1, decide ((unpackP l).2.2 = 0) && decide ((unpackP l).2.1 = l.length))
def heardN (n : NoteD) : Option Hd :=
  if n.rows.length ≠ 0 then none
  else if n.kind = 1 then
    (match n.nums, n.texts with
     | [a, b, c, d], [t] => if (onlyP t).2 = true then some ⟨a, b, d, true, c, (onlyP t).1⟩ else none
     | _, _ => none)
  else if n.kind = 2 then
    (match n.nums, n.texts with
     | [a, b, c], [] => some ⟨a, b, c, false, 0, .none⟩
     | _, _ => none)
  else none
def heardP (l : List UInt8) : Option Hd := if (onlyP l).2 = true then heardN (onlyP l).1 else none

theorem onlyP_seal (n : NoteD) (h : n.may) : onlyP (sealB n.body) = (n, true) := by
  have := unpackP_seal n h []
  rw [List.append_nil] at this
  simp [onlyP, this]
theorem onlyP_ok {l : List UInt8} (h : (onlyP l).2 = true) : (onlyP l).1.may ∧ l = sealB (onlyP l).1.body := by
  simp only [onlyP, Bool.and_eq_true, decide_eq_true_eq] at h ⊢
  obtain ⟨h1, h2⟩ := h
  have h3 := unpackP_ok (l := l) (n := (unpackP l).1) (k := (unpackP l).2.1) (by rw [← h1])
  refine ⟨h3.1, ?_⟩
  have h4 := h3.2.1
  rw [h2, List.drop_length, List.append_nil] at h4
  exact h4

theorem heardP_good {l : List UInt8} {h : Hd} (e : heardP l = some h) : goodNum h.ep ∧ goodNum h.ot ∧ goodNum h.wt ∧ goodNum h.nr ∧ (h.ca = true → h.pl.may) := by
  unfold heardP at e
  split at e
  · rename_i ho
    obtain ⟨hm, _⟩ := onlyP_ok ho
    have hg := hm.1.2.2.2
    unfold heardN at e
    split at e
    · cases e
    · split at e
      · split at e
        · rename_i a b c d t hn ht
          rw [hn] at hg
          split at e
          · rename_i ho2
            cases e
            exact ⟨hg a (by simp), hg b (by simp), hg d (by simp), hg c (by simp), fun _ => (onlyP_ok ho2).1⟩
          · cases e
        · cases e
      · split at e
        · split at e
          · rename_i a b c hn ht
            rw [hn] at hg
            cases e
            exact ⟨hg a (by simp), hg b (by simp), hg c (by simp), ⟨by simp, by simp⟩, fun h => by cases h⟩
          · cases e
        · cases e
  · cases e

/-- A later epoch of the other end is met. -/
def meetE (e : En) (k : Nat) : En × Bool := if e.ot = 0 then ({ e with ot := k, wt := 1 }, false) else ({ e with ot := k, wt := 1, fs := 1, q := [] }, true)
def seeE (e : En) (k : Nat) : En × Bool := if e.ot < k then meetE e k else (e, false)
/-- All that waits with a number below k is gone. -/
def goneE (e : En) (k : Nat) : Nat := min (k - e.fs) e.q.length
def dropE (e : En) (k : Nat) : En := { e with fs := e.fs + goneE e k, q := e.q.drop (goneE e k) }
/-- What Take answers: the end behind it, payloads, packets, whether the other end is a new one. -/
def tookE (d : En) (h : Hd) (anew : Bool) : En × List NoteD × List (List UInt8) × Bool :=
  if h.ca = false then (d, [], [], anew)
  else if h.nr = (d.wt : Int) then ({ d with wt := d.wt + 1 }, [h.pl], [telB { d with wt := d.wt + 1 }], anew)
  else (d, [], [telB d], anew)
def metE (m : En × Bool) (h : Hd) : En × List NoteD × List (List UInt8) × Bool :=
  if h.ot ≠ (m.1.ep : Int) then (m.1, [], [telB m.1], m.2) else tookE (dropE m.1 h.wt.toNat) h m.2
def takeE (e : En) (l : List UInt8) : En × List NoteD × List (List UInt8) × Bool :=
  match heardP l with
  | none => (e, [], [], false)
  | some h => if h.ep = 0 ∨ h.ep < (e.ot : Int) then (e, [], [], false) else metE (seeE e h.ep.toNat) h

theorem seeE_ok {e : En} (h : e.ok) {k : Nat} (hk : k ≤ 4611686018427387903) : (seeE e k).1.ok := by
  unfold seeE meetE
  split
  · split
    · exact { h with ot2 := hk, wt1 := Nat.le_refl _, wt2 := by simp }
    · exact { h with ot2 := hk, wt1 := Nat.le_refl _, wt2 := by simp, fs1 := Nat.le_refl _, fs2 := by simp, ql := by simp, qs := by simp }
  · exact h
theorem goneE_le (e : En) (k : Nat) : goneE e k ≤ e.q.length := Nat.min_le_right _ _
theorem dropE_ok {e : En} (h : e.ok) {k : Nat} (hk : k ≤ 4611686018427387903) : (dropE e k).ok := by
  have h1 := h.fs1
  have h2 := h.fs2
  have g1 : e.fs + goneE e k ≤ 4611686018427387904 := by
    unfold goneE
    omega
  refine { h with fs1 := by simp only [dropE]; omega, fs2 := g1, ql := ?_, qs := ?_ }
  · simp only [dropE, List.length_drop]; have := h.ql; omega
  · intro p hp
    exact h.qs p (List.mem_of_mem_drop (by simpa [dropE] using hp))
theorem tookE_ok {d : En} (h : d.ok) {x : Hd} (hx : goodNum x.nr) (a : Bool) : (tookE d x a).1.ok := by
  unfold tookE
  split
  · exact h
  · split
    · rename_i h1
      have := hx.2
      exact { h with wt1 := by simp, wt2 := by simp only; omega }
    · exact h
theorem takeE_ok {e : En} (h : e.ok) (l : List UInt8) : (takeE e l).1.ok := by
  unfold takeE
  split
  · exact h
  · rename_i x hx
    obtain ⟨g1, g2, g3, g4, _⟩ := heardP_good hx
    split
    · exact h
    · have h1 : (seeE e x.ep.toNat).1.ok := seeE_ok h (by have := g1.1; have := g1.2; omega)
      unfold metE
      split
      · exact h1
      · exact tookE_ok (dropE_ok h1 (by have := g3.1; have := g3.2; omega)) g4 _
theorem putE_ok {e : En} (h : e.ok) (n : NoteD) : (putE e n).1.ok := by
  unfold putE
  split
  · exact h
  · rename_i hf
    have hf := Classical.not_not.1 hf
    split
    · exact h
    · rename_i hl
      have key : (pushE e (sealB n.body)).ok := pushE_ok h (by omega) hf.2
      split <;> exact key

/-- A packet that an end sends may be. -/
theorem telN_may {e : En} (h : e.ok) (hw : e.wt ≤ 4611686018427387903) : (telN e).may := by
  have h1 := h.ep2
  have h2 := h.ot2
  refine ⟨⟨by simp [telN], by simp [telN], by simp [telN], fun x hx => ?_⟩, ⟨by simp [telN], by simp [telN, cntR], by simp [telN, shortL], by simp [telN]⟩, ?_⟩
  · simp only [telN, List.mem_cons, List.not_mem_nil, or_false] at hx
    rcases hx with rfl | rfl | rfl <;> exact ⟨by omega, by omega⟩
  · have a1 := numsB_le (telN e).nums
    have a2 := rowsB_le (telN e).rows (by simp [telN])
    have a3 := textsB_le2 (telN e).texts (by simp [telN, shortL])
    have b1 : (numB (telN e).kind.toNat).length ≤ 9 := by have := numsB_le [(telN e).kind]; simpa [numsB] using this
    have b2 : (numB (telN e).nums.length).length ≤ 9 := by have := numsB_le [((telN e).nums.length : Int)]; simpa [numsB] using this
    have b3 : (numB (telN e).texts.length).length ≤ 9 := by have := numsB_le [((telN e).texts.length : Int)]; simpa [numsB] using this
    have b4 : (numB (telN e).rows.length).length ≤ 9 := by have := numsB_le [((telN e).rows.length : Int)]; simpa [numsB] using this
    simp only [NoteD.body, listB, List.length_append]
    have c1 : (telN e).nums.length = 3 := rfl
    have c2 : (telN e).texts = [] := rfl
    have c3 : (telN e).rows = [] := rfl
    rw [c2] at a3 b3 ⊢
    rw [c3] at a2 b4 ⊢
    rw [c1] at a1
    simp only [sumL, sumR, cntR, List.map_nil, List.sum_nil, List.length_nil] at a1 a2 a3
    omega
theorem carN_may {e : En} (h : e.ok) (hw : e.wt ≤ 4611686018427387903) {k : Nat} (hk : k ≤ 4611686018427387903) {p : List UInt8} (hp : p.length ≤ 32768) : (carN e k p).may := by
  have h1 := h.ep2
  have h2 := h.ot2
  refine ⟨⟨by simp [carN], by simp [carN], by simp [carN], fun x hx => ?_⟩, ⟨by simp [carN], by simp [carN, cntR], ?_, by simp [carN]⟩, ?_⟩
  · simp only [carN, List.mem_cons, List.not_mem_nil, or_false] at hx
    rcases hx with rfl | rfl | rfl | rfl <;> exact ⟨by omega, by omega⟩
  · intro t ht
    simp only [carN, List.mem_singleton] at ht
    subst ht
    omega
  · have hs : shortL (carN e k p).texts := by
      intro t ht
      simp only [carN, List.mem_singleton] at ht
      subst ht
      omega
    have a1 := numsB_le (carN e k p).nums
    have a2 := rowsB_le (carN e k p).rows (by simp [carN])
    have a3 := textsB_le2 (carN e k p).texts hs
    have b1 : (numB (carN e k p).kind.toNat).length ≤ 9 := by have := numsB_le [(carN e k p).kind]; simpa [numsB] using this
    have b2 : (numB (carN e k p).nums.length).length ≤ 9 := by have := numsB_le [((carN e k p).nums.length : Int)]; simpa [numsB] using this
    have b3 : (numB (carN e k p).texts.length).length ≤ 9 := by have := numsB_le [((carN e k p).texts.length : Int)]; simpa [numsB] using this
    have b4 : (numB (carN e k p).rows.length).length ≤ 9 := by have := numsB_le [((carN e k p).rows.length : Int)]; simpa [numsB] using this
    simp only [NoteD.body, listB, List.length_append]
    have c1 : (carN e k p).nums.length = 4 := rfl
    have c2 : (carN e k p).texts = [p] := rfl
    have c3 : (carN e k p).rows = [] := rfl
    rw [c2] at a3 b3 ⊢
    rw [c3] at a2 b4 ⊢
    rw [c1] at a1
    simp only [sumL, sumR, cntR, List.map_nil, List.map_cons, List.sum_nil, List.sum_cons, List.length_nil, List.length_cons] at a1 a2 a3
    omega
/-- What a packet is heard to say. -/
theorem heardP_tel {e : En} (h : e.ok) (hw : e.wt ≤ 4611686018427387903) : heardP (telB e) = some ⟨e.ep, e.ot, e.wt, false, 0, .none⟩ := by
  have hm := telN_may h hw
  rw [telB, packN, if_pos hm, heardP, onlyP_seal _ hm]
  simp [heardN, telN]
theorem heardP_car {e : En} (h : e.ok) (hw : e.wt ≤ 4611686018427387903) {k : Nat} (hk : k ≤ 4611686018427387903) {n : NoteD} (hn : n.may) (hp : (sealB n.body).length ≤ 32768) :
    heardP (carB e k (sealB n.body)) = some ⟨e.ep, e.ot, e.wt, true, k, n⟩ := by
  have hm := carN_may h hw hk hp
  rw [carB, packN, if_pos hm, heardP, onlyP_seal _ hm]
  simp [heardN, carN, onlyP_seal n hn]
end Go.Proofs.Ytifmpcldiimdbaa

namespace Go.Proofs.Ytifmpcldiimdbaa
open Go.RowKit

/-- The blocks of S are kept. -/
structure Fr (S : Nat → Prop) (w w' : World) : Prop where
  os : w'.os = w.os
  tape : w'.tape = w.tape
  output : w'.output = w.output
  size : w.heap.size ≤ w'.heap.size
  block : ∀ k, S k → w'.heap[k]? = w.heap[k]?
theorem Fr.refl (S : Nat → Prop) (w : World) : Fr S w w := ⟨rfl, rfl, rfl, Nat.le_refl _, fun _ _ => rfl⟩
theorem Fr.trans {S : Nat → Prop} {a b c : World} (h : Fr S a b) (k : Fr S b c) : Fr S a c :=
  ⟨k.os.trans h.os, k.tape.trans h.tape, k.output.trans h.output, Nat.le_trans h.size k.size, fun i hi => (k.block i hi).trans (h.block i hi)⟩
theorem Fr.sub {S T : Nat → Prop} {w w' : World} (h : Fr S w w') (hs : ∀ k, T k → S k) : Fr T w w' := ⟨h.os, h.tape, h.output, h.size, fun k hk => h.block k (hs k hk)⟩
theorem Fr.below {S : Nat → Prop} {w w' : World} {B : Nat} (h : Fr S w w') (hs : ∀ k, k < B → S k) : Below B w w' := ⟨h.os, h.tape, h.output, h.size, fun k hk => h.block k (hs k hk)⟩
/-- S names blocks of the world alone. -/
def Low (S : Nat → Prop) (w : World) : Prop := ∀ k, S k → k < w.heap.size
theorem Low.fr {S T : Nat → Prop} {w w' : World} (h : Low S w) (hf : Fr T w w') : Low S w' := fun k hk => Nat.lt_of_lt_of_le (h k hk) hf.size
theorem Low.below {S : Nat → Prop} {w w' : World} {B : Nat} (h : Low S w) (hf : Below B w w') : Low S w' := fun k hk => Nat.lt_of_lt_of_le (h k hk) hf.size
theorem fr_below {S : Nat → Prop} {w w' : World} (hS : Low S w) (h : Below w.heap.size w w') : Fr S w w' := ⟨h.os, h.tape, h.output, h.size, fun k hk => h.block k (hS k hk)⟩
theorem Fr.next {S : Nat → Prop} {w w1 w2 : World} (h : Fr S w w1) (hS : Low S w) (hb : Below w1.heap.size w1 w2) : Fr S w w2 := h.trans (fr_below (hS.fr h) hb)
theorem Fr.setCell {S : Nat → Prop} {w w' : World} {b i : Nat} (h : Fr S w w') (hb : ¬ S b) (v : Value) : Fr S w (w'.setCell ⟨b, i, none⟩ v) :=
  ⟨h.os, h.tape, h.output, by simpa using h.size, fun k hk => (Below.heap_setCell w' ⟨b, i, none⟩ v k (fun e => hb (by rw [← show k = b from e]; exact hk))).trans (h.block k hk)⟩

theorem six_cells {w : World} {b : Nat} {c0 c1 c2 c3 c4 c5 : Value} {t : TypeId} (h : w.heap[b]? = some (.cells #[c0, c1, c2, c3, c4, c5] t (0, 0))) :
    (w.cell? ⟨b, 0, none⟩ = some c0 ∧ w.cell? ⟨b, 1, none⟩ = some c1 ∧ w.cell? ⟨b, 2, none⟩ = some c2 ∧ w.cell? ⟨b, 3, none⟩ = some c3 ∧ w.cell? ⟨b, 4, none⟩ = some c4 ∧ w.cell? ⟨b, 5, none⟩ = some c5) ∧
    (w.frozen? ⟨b, 0, none⟩ = false ∧ w.frozen? ⟨b, 1, none⟩ = false ∧ w.frozen? ⟨b, 2, none⟩ = false ∧ w.frozen? ⟨b, 3, none⟩ = false ∧ w.frozen? ⟨b, 4, none⟩ = false ∧ w.frozen? ⟨b, 5, none⟩ = false) := by
  simp [World.cell?, World.frozen?, h]
section
variable {w : World} {b : Nat} {c0 c1 c2 c3 c4 c5 v : Value} {t : TypeId} (h : w.heap[b]? = some (.cells #[c0, c1, c2, c3, c4, c5] t (0, 0)))
include h
theorem six_set0 : (w.setCell ⟨b, 0, none⟩ v).heap[b]? = some (.cells #[v, c1, c2, c3, c4, c5] t (0, 0)) := by simp [World.setCell, Array.getElem?_modify, h]
theorem six_set2 : (w.setCell ⟨b, 2, none⟩ v).heap[b]? = some (.cells #[c0, c1, v, c3, c4, c5] t (0, 0)) := by simp [World.setCell, Array.getElem?_modify, h]
theorem six_set3 : (w.setCell ⟨b, 3, none⟩ v).heap[b]? = some (.cells #[c0, c1, c2, v, c4, c5] t (0, 0)) := by simp [World.setCell, Array.getElem?_modify, h]
theorem six_set4 : (w.setCell ⟨b, 4, none⟩ v).heap[b]? = some (.cells #[c0, c1, c2, c3, v, c5] t (0, 0)) := by simp [World.setCell, Array.getElem?_modify, h]
theorem six_set5 : (w.setCell ⟨b, 5, none⟩ v).heap[b]? = some (.cells #[c0, c1, c2, c3, c4, v] t (0, 0)) := by simp [World.setCell, Array.getElem?_modify, h]
end

/-- A slice of texts in a block of its own, that may begin anywhere in it. -/
def QRow (w : World) (v : Value) (q : List (List UInt8)) : Prop :=
  (∃ ao, v = .slice ao 0 0 ∧ q = []) ∨ ∃ g off cap cur, v = .slice (some ⟨g, off, none⟩) q.length cap ∧ w.heap[g]? = some (.cells cur 9 (0, 0)) ∧ off + cap ≤ cur.size ∧ q.length ≤ cap ∧ ∀ (j : Nat) t, q[j]? = some t → cur[off + j]? = some (.string ⟨t.toArray⟩)
theorem QRow.nil (w : World) : QRow w (.slice none 0 0) [] := .inl ⟨none, rfl, rfl⟩
theorem QRow.slice {w : World} {v : Value} {q : List (List UInt8)} (h : QRow w v q) : ∃ ao cap, v = .slice ao q.length cap ∧ q.length ≤ cap := by
  rcases h with ⟨ao, rfl, rfl⟩ | ⟨g, off, cap, cur, e1, e2, e3, e4, _⟩
  · exact ⟨ao, 0, rfl, Nat.le_refl _⟩
  · exact ⟨_, cap, e1, e4⟩
theorem QRow.keep {w w' : World} {v : Value} {q : List (List UInt8)} (h : QRow w v q) (hk : ∀ g o, v.ownBlock = some g → w.heap[g]? = some o → w'.heap[g]? = some o) : QRow w' v q := by
  rcases h with h | ⟨g, off, cap, cur, e1, e2, e3⟩
  · exact .inl h
  · exact .inr ⟨g, off, cap, cur, e1, hk g _ (by rw [e1]; rfl) e2, e3⟩
theorem QRow.below {w w' : World} {v : Value} {q : List (List UInt8)} (h : QRow w v q) (hb : Below w.heap.size w w') : QRow w' v q :=
  h.keep (fun g _ _ ho => (hb.block g (lt_of_block ho)).trans ho)
theorem QRow.own {w : World} {B : Nat} {v : Value} {q : List (List UInt8)} (h : w.ownsRow B 9 1 v q.length (strCs q)) : QRow w v q := by
  rcases h.2 with ⟨rfl, h0⟩ | ⟨g, cap, cur, e1, e2, e3, e4, e5, e6, e7⟩
  · exact .inl ⟨none, rfl, List.length_eq_zero_iff.1 h0⟩
  · refine .inr ⟨g, 0, cap, cur, e1, e3, by omega, e4, fun j t hj => ?_⟩
    rw [Nat.mul_one] at e7
    have hx : (strCs q)[j]? = some (.string ⟨t.toArray⟩) := by rw [strCs, List.getElem?_map, hj]; rfl
    rw [← e7, List.getElem?_take] at hx
    split at hx
    · rw [Nat.zero_add]; simpa using hx
    · simp at hx
theorem QRow.get {w : World} {ao : Option Addr} {n cap : Nat} {q : List (List UInt8)} (h : QRow w (.slice ao n cap) q) {j : Nat} {t : List UInt8} (hj : q[j]? = some t) : ∃ g off, ao = some ⟨g, off, none⟩ ∧ w.cell? ⟨g, off + j, none⟩ = some (.string ⟨t.toArray⟩) := by
  rcases h with ⟨ao', e, rfl⟩ | ⟨g, off, cap', cur, e1, e2, e3, e4, e5⟩
  · simp at hj
  · injection e1 with e1
    subst e1
    exact ⟨g, off, rfl, by simp only [World.cell?, e2]; exact e5 j t hj⟩
theorem infoT : (Try.prog.info? 9).map (fun i => (i.zero, i.size, i.bytes)) = some (some (.string ByteArray.empty), 1, 16) := by kernel_rfl
theorem info_partsE {P : Program} {t : TypeId} {z : Value} {s b : Nat} (h : (P.info? t).map (fun i => (i.zero, i.size, i.bytes)) = some (some z, s, b)) : ∃ i, P.info? t = some i ∧ i.zero = some z ∧ i.size = s ∧ i.bytes = b := by
  cases hi : P.info? t with
  | none => rw [hi] at h; cases h
  | some i =>
    rw [hi] at h
    simp only [Option.map_some, Option.some.injEq, Prod.mk.injEq] at h
    exact ⟨i, rfl, h.1, h.2.1, h.2.2⟩
theorem new_cell (w : World) (x : Value) (t : TypeId) : (w.alloc (.cells #[x] t)).cell? ⟨w.heap.size, 0, none⟩ = some x := by
  have h := box_at w (.cells #[x] t)
  simp only [World.cell?, h]
  rfl
/-- append of one text. -/
theorem wpList_append_t {ops : Array Oper} {rest : List Oper} {o : Oper} {a : Act} {Qx : Exit → Act → World → Prop} {w : World} (hgd : o.guard = none) (s x : Operand) (ho : o.op = .call { callee := .builtin .append, args := #[s, x], argTypes := #[27, 27] })
    {u : Value} {q : List (List UInt8)} (hs : a.eval s = u) (hq : QRow w u q) (hL : q.length ≤ 1000000000) (ad : Addr) (c : Nat) (t : List UInt8) (hx : a.eval x = .slice (some ad) 1 c) (hy : w.cell? ad = some (.string ⟨t.toArray⟩))
    (h : ∀ u' w', QRow w' u' (q ++ [t]) → w.grownBy w' u.ownBlock → (∀ k, u'.ownBlock = some k → u.ownBlock = some k ∨ (w.heap.size ≤ k ∧ k < w'.heap.size)) → wpList Try.prog ops Qx rest (a.put o.dst u') w') : wpList Try.prog ops Qx (o :: rest) a w := by
  obtain ⟨i0, hi0, hz0, hz1, hz2⟩ := info_partsE infoT
  have hnews : ∀ (j : Nat) v, [Value.string ⟨t.toArray⟩][j]? = some v → w.cell? (ad.add j) = some v := fun j v hj => by
    have : j = 0 := by have := (List.getElem?_eq_some_iff.1 hj).1; simp at this; exact this
    subst this
    simp at hj
    subst hj
    exact hy
  have hgrown : ∀ v' w', w'.ownsRow w.heap.size 9 1 v' (q.length + 1) (strCs q ++ [.string ⟨t.toArray⟩]) → w.grownBy w' none → wpList Try.prog ops Qx rest (a.put o.dst v') w' := fun v' w' h1 h2 => by
    have h3 : w'.ownsRow w.heap.size 9 1 v' (q ++ [t]).length (strCs (q ++ [t])) := by rw [strCs_snoc, List.length_append]; exact h1
    exact h v' w' (QRow.own h3) ⟨h2.os, h2.tape, h2.output, h2.size, fun k hk _ => h2.block k hk (by simp)⟩ (fun k hk => .inr (h3.lt k hk))
  have hq0 := hq
  rcases hq0 with ⟨ao, e, hL0⟩ | ⟨g, off, cap, cur, e1, e3, e4, e5, e6⟩
  · subst hL0
    exact wpList_append_grows w hgd s x 27 ho 9 i0 _ 1 16 Try.underlying27 hi0 hz0 hz1 hz2 rfl (by decide) ao 0 0 [] (by rw [hs, e]) (fun _ => ⟨rfl, rfl⟩) (by simp) (by simp) ad 1 c _ hx rfl hnews (by simp [Value.oneCell']) (by omega) (by unfold maxLen; omega) (by omega) (fun v' w' h1 h2 => hgrown v' w' (by simpa [strCs] using h1) h2)
  · have hcell : ∀ j v, (strCs q)[j]? = some v → w.cell? ⟨g, off + j, none⟩ = some v := fun j v hj => by
      rw [strCs, List.getElem?_map] at hj
      cases hLj : q[j]? with
      | none => rw [hLj] at hj; simp at hj
      | some z =>
        rw [hLj] at hj
        simp at hj
        subst hj
        simp only [World.cell?, e3]
        exact e6 j z hLj
    have hlen : (strCs q).length = q.length * 1 := by simp [strCs]
    refine wpList_append_arg w hgd s x 27 ho 9 i0 _ 1 16 Try.underlying27 hi0 hz0 hz1 hz2 rfl (by decide) g off q.length cap (strCs q) (by rw [hs, e1]) hlen hcell ad 1 c _ hx rfl hnews (by simp [Value.oneCell']) (fun hroom j hj => ?_) (by unfold maxLen; omega) (by omega) (fun hroom => ?_) (fun hfull v' w' h1 h2 => hgrown v' w' h1 h2)
    · have hj0 : j = 0 := by simp at hj; exact hj
      subst hj0
      have hb : off + q.length * 1 + 0 < cur.size := by omega
      constructor
      · simp only [World.cell?, e3]
        rw [Array.getElem?_eq_getElem hb]
        rfl
      · simp [World.frozen?, e3]
    · have hset : (w.setCells g (off + q.length * 1) [.string ⟨t.toArray⟩]) = w.setCell ⟨g, off + q.length * 1, none⟩ (.string ⟨t.toArray⟩) := rfl
      rw [hset]
      have hhb : (w.setCell ⟨g, off + q.length * 1, none⟩ (.string ⟨t.toArray⟩)).heap[g]? = some (.cells (cur.setIfInBounds (off + q.length) (.string ⟨t.toArray⟩)) 9 (0, 0)) := by
        simp [World.setCell, Array.getElem?_modify, e3]
      refine h _ _ (.inr ⟨g, off, cap, _, by rw [List.length_append]; rfl, hhb, by simpa using e4, by rw [List.length_append]; simpa using hroom, fun j z hz => ?_⟩) ⟨rfl, rfl, rfl, by simp, fun k hk hne => Below.heap_setCell w ⟨g, off + q.length * 1, none⟩ _ k (fun e => hne (by rw [e1, show k = g from e]; rfl))⟩ (fun k hk => .inl (by rw [e1]; exact hk))
      rw [Array.getElem?_setIfInBounds]
      by_cases ej : j = q.length
      · subst ej
        rw [List.getElem?_append_right (Nat.le_refl _)] at hz
        simp at hz
        subst hz
        rw [if_pos rfl, if_pos (by omega)]
      · have hjl : j < q.length := by
          have := (List.getElem?_eq_some_iff.1 hz).1
          simp at this
          omega
        rw [List.getElem?_append_left hjl] at hz
        rw [if_neg (by omega)]
        exact e6 j z hz

/-- The block b is an end's, with the slice of what waits. -/
abbrev LBlk (w : World) (b : Nat) (vq : Value) (e : En) : Prop :=
  w.heap[b]? = some (.cells #[.pointer (some ⟨b, 0, none⟩), .int .i64 e.ep, .int .i64 e.ot, .int .i64 e.wt, .int .i64 e.fs, vq] 75 (0, 0))
/-- The block b is an end that New gave; it owns no block of S. -/
structure LB (S : Nat → Prop) (w : World) (b : Nat) (vq : Value) (e : En) : Prop where
  blk : LBlk w b vq e
  out : ¬ S b
  row : QRow w vq e.q
  outq : ∀ g, vq.ownBlock = some g → ¬ S g
  lowq : ∀ g, vq.ownBlock = some g → g < w.heap.size
  neb : vq.ownBlock ≠ some b
  ok : e.ok
theorem LB.below {S : Nat → Prop} {w w' : World} {b : Nat} {vq : Value} {e : En} (h : LB S w b vq e) (hb : Below w.heap.size w w') : LB S w' b vq e :=
  { h with blk := (hb.block b (lt_of_block h.blk)).trans h.blk, row := h.row.below hb, lowq := fun g hg => Nat.lt_of_lt_of_le (h.lowq g hg) hb.size }
theorem LB.more {S T : Nat → Prop} {w : World} {b : Nat} {vq : Value} {e : En} (h : LB S w b vq e) (hT : ∀ k, T k → S k ∨ (k ≠ b ∧ vq.ownBlock ≠ some k)) : LB T w b vq e :=
  { h with out := fun hk => (hT b hk).elim h.out (fun h1 => h1.1 rfl), outq := fun g hg hk => (hT g hk).elim (h.outq g hg) (fun h1 => h1.2 hg) }
theorem LB.sub {S T : Nat → Prop} {w : World} {b : Nat} {vq : Value} {e : En} (h : LB S w b vq e) (hT : ∀ k, T k → S k) : LB T w b vq e := h.more (fun k hk => .inl (hT k hk))
/-- What others do leaves it alone. -/
theorem LB.other {S T : Nat → Prop} {w w' : World} {b : Nat} {vq : Value} {e : En} (h : LB S w b vq e) (hf : Fr T w w') (hb : T b) (hq : ∀ g, vq.ownBlock = some g → T g) : LB S w' b vq e :=
  { h with blk := (hf.block b hb).trans h.blk, row := h.row.keep (fun g _ hg ho => (hf.block g (hq g hg)).trans ho), lowq := fun g hg => Nat.lt_of_lt_of_le (h.lowq g hg) hf.size }
theorem QRow.ne {w : World} {v : Value} {q : List (List UInt8)} {g : Nat} {cur : Array Value} {t : TypeId} {fz : Nat × Nat} (h : QRow w v q) (hg : w.heap[g]? = some (.cells cur t fz)) (ht : t ≠ 9) : q = [] ∨ v.ownBlock ≠ some g := by
  rcases h with h | ⟨g', off, cap, cur', e1, e2, _⟩
  · exact .inl (by obtain ⟨_, _, h⟩ := h; exact h)
  · right
    intro e
    rw [e1] at e
    simp only [Value.ownBlock, Option.some.injEq] at e
    subst e
    rw [hg] at e2
    simp only [Option.some.injEq, Obj.cells.injEq] at e2
    exact ht e2.2.1
/-- A cell of the end's own block is written. -/
theorem QRow.set {w : World} {v : Value} {q : List (List UInt8)} {b i : Nat} {cur : Array Value} {t : TypeId} {fz : Nat × Nat} (h : QRow w v q) (hg : w.heap[b]? = some (.cells cur t fz)) (ht : t ≠ 9) (u : Value) : QRow (w.setCell ⟨b, i, none⟩ u) v q := by
  rcases h.ne hg ht with h0 | h0
  · rcases h with h | ⟨g, off, cap, cur', e1, e2, e3, e4, e5⟩
    · exact .inl h
    · refine .inr ⟨g, off, cap, cur', e1, (Below.heap_setCell w ⟨b, i, none⟩ u g (fun e => ?_)).trans e2, e3, e4, e5⟩
      have e : g = b := e
      subst e
      rw [hg] at e2
      simp only [Option.some.injEq, Obj.cells.injEq] at e2
      exact ht e2.2.1
  · exact h.keep (fun g o hg2 ho => (Below.heap_setCell w ⟨b, i, none⟩ u g (fun e => h0 (by rw [← show g = b from e]; exact hg2))).trans ho)

theorem infoL : (Try.prog.info? 75).map (fun i => i.size) = some 6 := by kernel_rfl
theorem eql_self (a : Addr) (w : World) : (binOp .eql 23 (.pointer (some a)) (.pointer (some a))).run Try.prog w = .ok (.bool true) w := by
  obtain ⟨j, hj, _⟩ := Option.map_eq_some_iff.1 infoL
  exact run_eql_ptr_same w a Try.underlying23 hj
theorem eql_nil_left (a : Addr) (w : World) : (binOp .eql 23 (.pointer none) (.pointer (some a))).run Try.prog w = .ok (.bool false) w := by
  have h : ∀ d : Nat, (Op.equalIn (d + 1) 23 (.pointer none) (.pointer (some a))).run Try.prog w = .ok false w := fun d => by
    simp [Op.equalIn, run_underlying Try.underlying23]
  simp only [binOp]
  simp [Op.equal, Op.maxDepth, h 9999]

set_option maxRecDepth 100000 in
theorem given_any (b : Nat) (w : World) (h : w.cell? ⟨b, 0, none⟩ = some (.pointer (some ⟨b, 0, none⟩))) :
    Calls Try.prog 31 #[.pointer (some ⟨b, 0, none⟩)] w fun e w' => e = .returned (.bool true) ∧ w' = w := by
  have he := eql_self ⟨b, 0, none⟩ w
  go_enter Try.func31, Try.ntmps31
  go_wp2
  go_ret
  exact ⟨rfl, rfl⟩
set_option maxRecDepth 100000 in
theorem given_nil (w : World) :
    Calls Try.prog 31 #[.pointer none] w fun e w' => e = .returned (.bool false) ∧ w' = w := by
  go_enter Try.func31, Try.ntmps31
  go_wp2
  go_ret
  exact ⟨rfl, rfl⟩
set_option maxRecDepth 100000 in
theorem given_not (b : Nat) (w : World) (h : w.cell? ⟨b, 0, none⟩ = some (.pointer none)) :
    Calls Try.prog 31 #[.pointer (some ⟨b, 0, none⟩)] w fun e w' => e = .returned (.bool false) ∧ w' = w := by
  have he := eql_nil_left ⟨b, 0, none⟩ w
  go_enter Try.func31, Try.ntmps31
  go_wp2
  go_ret
  exact ⟨rfl, rfl⟩

set_option maxRecDepth 100000 in
theorem emptyQ_any (w : World) :
    Calls Try.prog 30 #[] w fun e w' => e = .returned (.agg #[.int .i64 1, .slice none 0 0]) ∧ Below w.heap.size w w' := by
  go_enter Try.func30, Try.ntmps30
  go_wp2
  refine bodyPost_ret (v := .agg #[.int .i64 1, .slice none 0 0]) ?_ rfl ⟨rfl, (Below.refl _ _).alloc (Nat.le_refl _) _⟩
  simp [results, Try.results30, go_sem]
/-- There may be an end of such an epoch. -/
def EpOk (k : Int) : Prop := 1 ≤ k ∧ k ≤ 1099511627776
end Go.Proofs.Ytifmpcldiimdbaa

namespace Go.Proofs.Ytifmpcldiimdbaa
open Go.RowKit

/-- What New ends with. -/
def NewE (k : Int) (w : World) (e : Ending) (w' : World) : Prop :=
  Below w.heap.size w w' ∧ ((¬ EpOk k ∧ e = .returned (.tuple #[.pointer none, .int .i64 1])) ∨
    (EpOk k ∧ ∃ b, e = .returned (.tuple #[.pointer (some ⟨b, 0, none⟩), .int .i64 0]) ∧ w.heap.size ≤ b ∧ LBlk w' b (.slice none 0 0) (newE k.toNat)))
set_option maxRecDepth 100000 in
theorem new_any (k : Int) (w : World) : Calls Try.prog 9 #[.int .i64 k] w (NewE k w) := by
  by_cases h1 : k < 1
  · have HE : Hid (NewE k w (.returned (.tuple #[.pointer none, .int .i64 1])) w) := Hid.mk ⟨Below.refl _ _, .inl ⟨fun h => by have := h.1; omega, rfl⟩⟩
    go_enter Try.func9, Try.ntmps9
    go_wp2
    go_ret2
    exact HE.out
  · by_cases h2 : 1099511627776 < k
    · have HE : Hid (NewE k w (.returned (.tuple #[.pointer none, .int .i64 1])) w) := Hid.mk ⟨Below.refl _ _, .inl ⟨fun h => by have := h.2; omega, rfl⟩⟩
      go_enter Try.func9, Try.ntmps9
      go_wp2
      go_ret2
      exact HE.out
    · obtain ⟨r, rfl⟩ : ∃ r : Nat, k = (r : Int) := ⟨k.toNat, by omega⟩
      have C := Hid.mk (emptyQ_any w)
      go_enter Try.func9, Try.ntmps9
      go_wp2_with fail
      refine C.out.mono ?_
      rintro e w1 ⟨rfl, hb⟩
      have hbl := Hid.mk (box_at w1 (.cells #[.pointer none, .int .i64 (r : Int), .int .i64 0, .int .i64 1, .int .i64 1, .slice none 0 0] 75))
      go_wp2
      go_ret2
      refine ⟨?_, .inr ⟨⟨by omega, by omega⟩, w1.heap.size, rfl, hb.size, ?_⟩⟩
      · first
          | exact hb.alloc hb.size _
          | exact (hb.alloc hb.size _).setCell hb.size _
      · first
          | exact box_at w1 _
          | exact six_set0 hbl.out

section
variable {S : Nat → Prop} {w : World} {b : Nat} {vq : Value} {e : En}
set_option maxRecDepth 100000 in
theorem count_any (h : LB S w b vq e) : Calls Try.prog 33 #[.pointer (some ⟨b, 4, none⟩)] w fun x w' => x = .returned (.int .i64 (e.q.length : Int)) ∧ w' = w := by
  obtain ⟨ao, cap, rfl, _⟩ := h.row.slice
  obtain ⟨⟨g0, g1, g2, g3, g4, g5⟩, -⟩ := six_cells h.blk
  clear h
  go_enter Try.func33, Try.ntmps33
  go_wp2
  go_ret
  exact ⟨rfl, rfl⟩
set_option maxRecDepth 100000 in
theorem waits_any (h : LB S w b vq e) : Calls Try.prog 22 #[.pointer (some ⟨b, 0, none⟩)] w fun x w' => x = .returned (.int .i64 (e.q.length : Int)) ∧ w' = w := by
  obtain ⟨⟨g0, g1, g2, g3, g4, g5⟩, -⟩ := six_cells h.blk
  have C := Hid.mk (given_any b w g0)
  have C2 := Hid.mk (count_any h)
  clear h
  go_enter Try.func22, Try.ntmps22
  go_wp2_with fail
  refine C.out.mono ?_
  rintro x w1 ⟨rfl, hw⟩
  rw [hw]; clear hw
  go_wp2_with fail
  refine C2.out.mono ?_
  rintro x w2 ⟨rfl, hw⟩
  rw [hw]; clear hw
  go_wp2
  go_ret
  exact ⟨rfl, rfl⟩
set_option maxRecDepth 100000 in
theorem other_any (h : LB S w b vq e) : Calls Try.prog 23 #[.pointer (some ⟨b, 0, none⟩)] w fun x w' => x = .returned (.int .i64 (e.ot : Int)) ∧ w' = w := by
  obtain ⟨⟨g0, g1, g2, g3, g4, g5⟩, -⟩ := six_cells h.blk
  have C := Hid.mk (given_any b w g0)
  clear h
  go_enter Try.func23, Try.ntmps23
  go_wp2_with fail
  refine C.out.mono ?_
  rintro x w1 ⟨rfl, hw⟩
  rw [hw]; clear hw
  go_wp2
  go_ret
  exact ⟨rfl, rfl⟩

/-- The first ones that wait, to be read. -/
def Win (w : World) (v : Value) (l : List (List UInt8)) : Prop := ∃ ao, v = .slice ao l.length l.length ∧ ∀ (j : Nat) t, l[j]? = some t → ∃ g off, ao = some ⟨g, off, none⟩ ∧ g < w.heap.size ∧ w.cell? ⟨g, off + j, none⟩ = some (.string ⟨t.toArray⟩)
set_option maxRecDepth 100000 in
theorem window_any (h : LB S w b vq e) : Calls Try.prog 38 #[.pointer (some ⟨b, 4, none⟩)] w fun x w' => (∃ v, x = .returned v ∧ Win w v (e.q.take 64)) ∧ w' = w := by
  obtain ⟨ao, cap, hv, hcap⟩ := h.row.slice
  subst hv
  have hlow := h.lowq
  obtain ⟨⟨g0, g1, g2, g3, g4, g5⟩, -⟩ := six_cells h.blk
  have HW : Hid (∀ m, m = (e.q.take 64).length → Win w (.slice ao m m) (e.q.take 64)) := Hid.mk (fun m hm => ⟨ao, by rw [hm], fun j t hj => by
    have hj2 : e.q[j]? = some t := by
      rw [List.getElem?_take] at hj
      split at hj
      · exact hj
      · cases hj
    obtain ⟨g, off, rfl, hc⟩ := h.row.get hj2
    exact ⟨g, off, rfl, hlow g rfl, hc⟩⟩)
  have hql := h.ok.ql
  have HL : Hid ((e.q.take 64).length = min 64 e.q.length) := Hid.mk (by rw [List.length_take])
  clear h hlow
  obtain ⟨n, hn⟩ : ∃ n, n = e.q.length := ⟨_, rfl⟩
  rw [← hn] at *
  clear hn
  by_cases h64 : n ≤ 64
  · have hm : (n : Int) ≤ 64 := by omega
    go_enter Try.func38, Try.ntmps38
    go_wp2
    go_ret
    exact ⟨⟨_, rfl, HW.out _ (by rw [HL.out]; omega)⟩, rfl⟩
  · have hm : ¬ (n : Int) ≤ 64 := by omega
    go_enter Try.func38, Try.ntmps38
    go_wp2
    go_ret
    exact ⟨⟨_, rfl, HW.out _ (by rw [HL.out]; omega)⟩, rfl⟩
end
end Go.Proofs.Ytifmpcldiimdbaa

namespace Go.Proofs.Ytifmpcldiimdbaa
open Go.RowKit

theorem fr_grown {S : Nat → Prop} {w w1 w2 : World} {row : Option Nat} (h : Fr S w w1) (hS : Low S w) (hg : w1.grownBy w2 row) (hr : ∀ g, row = some g → ¬ S g) : Fr S w w2 :=
  ⟨hg.os.trans h.os, hg.tape.trans h.tape, hg.output.trans h.output, Nat.le_trans h.size hg.size, fun k hk => (hg.block k (Nat.lt_of_lt_of_le (hS k hk) h.size) (fun e => hr k e.symm hk)).trans (h.block k hk)⟩
theorem below_drewE {B : Nat} {a w : World} (h : Below B a w) : Below B a w.drew := ⟨h.os, h.tape, h.output, h.size, h.block⟩
section
variable {S : Nat → Prop} {w : World} {b : Nat} {vq : Value} {e : En}
/-- The end's row is another one. -/
theorem LB.row5 {w1 : World} {u : Value} {q : List (List UInt8)} (h : LB S w b vq e) (hb : LBlk w1 b vq e) (hq : QRow w1 u q) (hu : ∀ g, u.ownBlock = some g → ¬ S g ∧ g < w1.heap.size ∧ g ≠ b) (hk : (En.mk e.ep e.ot e.fs e.wt q).ok) :
    LB S (w1.setCell ⟨b, 5, none⟩ u) b u ⟨e.ep, e.ot, e.fs, e.wt, q⟩ :=
  { blk := six_set5 hb, out := h.out, row := hq.set hb (by decide) u, outq := fun g hg => (hu g hg).1, lowq := fun g hg => by simpa using (hu g hg).2.1, neb := fun hg => (hu b hg).2.2 rfl, ok := hk }
set_option maxRecDepth 100000 in
theorem putQ_any (h : LB S w b vq e) (hS : Low S w) (t : List UInt8) (ht : t.length ≤ 32768) (hl : e.q.length < 4096) :
    Calls Try.prog 34 #[.pointer (some ⟨b, 4, none⟩), .string ⟨t.toArray⟩] w fun x w' => x = .returned (.int .i64 ((e.fs + e.q.length : Nat) : Int)) ∧ ∃ vq', LB S w' b vq' (pushE e t) ∧ Fr S w w' := by
  have H := Hid.mk h
  obtain ⟨ao, cap, hv, hcap⟩ := h.row.slice
  subst hv
  obtain ⟨⟨g0, g1, g2, g3, g4, g5⟩, ⟨f0, f1, f2, f3, f4, f5⟩⟩ := six_cells h.blk
  have hbl : Below w.heap.size w (w.alloc (.cells #[.string ⟨t.toArray⟩] 9)) := (Below.refl _ _).alloc (Nat.le_refl _) _
  have HQ : Hid (QRow (w.alloc (.cells #[.string ⟨t.toArray⟩] 9)) (.slice ao e.q.length cap) e.q) := Hid.mk (h.row.below hbl)
  have HY : Hid ((w.alloc (.cells #[.string ⟨t.toArray⟩] 9)).cell? ⟨w.heap.size, 0, none⟩ = some (.string ⟨t.toArray⟩)) := Hid.mk (new_cell w _ _)
  have HB : Hid (LBlk (w.alloc (.cells #[.string ⟨t.toArray⟩] 9)) b (.slice ao e.q.length cap) e) := Hid.mk ((hbl.block b (lt_of_block h.blk)).trans h.blk)
  have hfs := h.ok.fs2
  have hfs1 := h.ok.fs1
  have HOK := Hid.mk (pushE_ok h.ok hl ht)
  have hblt := lt_of_block h.blk
  have hne : b ≠ w.heap.size := by omega
  clear h
  go_enter Try.func34, Try.ntmps34
  go_wp2_with (refine wpList_append_t rfl _ _ rfl rfl HQ.out (by omega) _ _ t rfl HY.out ?_)
  intro u w1 hq hg hu
  have HU := Hid.mk hu
  have HG := Hid.mk hg
  have hb2 : LBlk w1 b (.slice ao e.q.length cap) e := (hg.block b (by have := lt_of_block HB.out; exact this) (fun e1 => H.out.neb e1.symm)).trans HB.out
  obtain ⟨⟨k0, k1, k2, k3, k4, k5⟩, ⟨j0, j1, j2, j3, j4, j5⟩⟩ := six_cells hb2
  have HB2 := Hid.mk hb2
  have HQ2 := Hid.mk hq
  have hus : ∃ ua uc, u = .slice ua (e.q.length + 1) uc := by
    obtain ⟨ua, uc, e1, _⟩ := hq.slice
    exact ⟨ua, uc, by rw [e1, List.length_append]; rfl⟩
  obtain ⟨ua, uc, rfl⟩ := hus
  clear hu hg hb2 hq g0 g1 g2 g3 g4 g5 f0 f1 f2 f3 f4 f5 hbl
  go_wp2_with fail
  go_region
  go_wp2
  go_ret
  refine ⟨by go_num, .slice ua (e.q.length + 1) uc, ?_, ?_⟩
  · exact (LB.row5 H.out HB2.out HQ2.out (fun g hg => by
      rcases HU.out g hg with h1 | h1
      · refine ⟨H.out.outq g h1, ?_, fun e1 => H.out.neb (by rw [← e1]; exact h1)⟩
        exact Nat.lt_of_lt_of_le (H.out.lowq g h1) (by have := HG.out.size; simp at this; omega)
      · have h2 := h1.1
        try simp at h2
        exact ⟨fun hs => by have := hS g hs; omega, h1.2, by omega⟩) HOK.out).below (below_drewE (Below.refl _ _))
  · have h1 : Fr S w w1 := fr_grown (fr_below hS ((Below.refl _ _).alloc (Nat.le_refl _) _)) hS HG.out H.out.outq
    have h2 := h1.setCell (i := 5) H.out.out (.slice ua (e.q.length + 1) uc)
    exact ⟨h2.os, h2.tape, h2.output, h2.size, h2.block⟩

theorem zeroT (w : World) : (zeroValue 9).run Try.prog w = .ok (.string ByteArray.empty) w := by kernel_rfl
theorem setCells_block {x : Nat} {t : TypeId} : ∀ (l : List Value) (o : Nat) (w : World) (cur : Array Value), w.heap[x]? = some (.cells cur t (0, 0)) → ∃ cur2 : Array Value, (w.setCells x o l).heap[x]? = some (.cells cur2 t (0, 0)) ∧ cur2.size = cur.size ∧ ∀ j, (j < o ∨ o + l.length ≤ j) → cur2[j]? = cur[j]?
  | [], _, _, cur, h => ⟨cur, h, rfl, fun _ _ => rfl⟩
  | v :: r, o, w, cur, h => by
    have h1 : (w.setCell ⟨x, o, none⟩ v).heap[x]? = some (.cells (cur.setIfInBounds o v) t (0, 0)) := by simp [World.setCell, Array.getElem?_modify, h]
    obtain ⟨c2, g1, g2, g3⟩ := setCells_block r (o + 1) _ _ h1
    refine ⟨c2, g1, by rw [g2]; simp, fun j hj => ?_⟩
    simp only [List.length_cons] at hj
    rw [g3 j (by omega), Array.getElem?_setIfInBounds, if_neg (by omega)]
theorem setCells_grown {x : Nat} : ∀ (l : List Value) (o : Nat) (w : World), w.grownBy (w.setCells x o l) (some x)
  | [], _, _ => ⟨rfl, rfl, rfl, Nat.le_refl _, fun _ _ _ => rfl⟩
  | v :: r, o, w => by
    have h1 := setCells_grown r (o + 1) (w.setCell ⟨x, o, none⟩ v) (x := x)
    refine ⟨h1.os, h1.tape, h1.output, by have := h1.size; simp at this; exact this, fun k hk hne => ?_⟩
    exact (h1.block k (by simpa using hk) hne).trans (Below.heap_setCell w ⟨x, o, none⟩ v k (fun e => hne (by rw [show k = x from e])))
/-- The first g ones are cleared; the rest is what waits. -/
theorem clear_q {ao : Option Addr} {cap : Nat} {q : List (List UInt8)} (h : QRow w (.slice ao q.length cap) q) (g : Nat) (hg : g ≤ q.length) :
    ∃ W2, (∀ ty, (Builtin.clear_ #[27] ty #[.slice ao g g]).run Try.prog w = .ok (.tuple #[]) W2) ∧ w.grownBy W2 (Value.slice ao q.length cap).ownBlock ∧
      ((q.length = g ∧ QRow W2 (.slice ao 0 0) []) ∨ (g < q.length ∧ ∃ x off, ao = some ⟨x, off, none⟩ ∧ QRow W2 (.slice (some ⟨x, off + g, none⟩) (q.length - g) (q.length - g)) (q.drop g))) := by
  rcases h with ⟨ao2, e1, rfl⟩ | ⟨x, off, cap2, cur, e1, e2, e3, e4, e5⟩
  · obtain rfl : g = 0 := by simpa using hg
    refine ⟨w, fun ty => ?_, ⟨rfl, rfl, rfl, Nat.le_refl _, fun _ _ _ => rfl⟩, .inl ⟨rfl, .inl ⟨ao, rfl, rfl⟩⟩⟩
    cases ao <;> simp [Builtin.clear_, run_underlying Try.underlying27]
  · injection e1 with e1 _ e6
    subst e1 e6
    by_cases h0 : g = 0
    · subst h0
      refine ⟨w, fun ty => ?_, ⟨rfl, rfl, rfl, Nat.le_refl _, fun _ _ _ => rfl⟩, ?_⟩
      · simp [Builtin.clear_, run_underlying Try.underlying27]
      · by_cases hl : q.length = 0
        · exact .inl ⟨hl, .inl ⟨_, rfl, rfl⟩⟩
        · refine .inr ⟨by omega, x, off, rfl, .inr ⟨x, off, q.length, cur, by simp, e2, by omega, by simp, fun j t hj => e5 j t (by simpa using hj)⟩⟩
    · have hsome : ∀ j, j < g → (w.cell? ⟨x, off + j, none⟩).isSome = true := fun j hj => by
        simp only [World.cell?, e2]
        rw [Array.getElem?_eq_getElem (by omega)]
        rfl
      have hfz : ∀ j, j < g → w.frozen? ⟨x, off + j, none⟩ = false := fun j _ => by simp [World.frozen?, e2]
      obtain ⟨c2, g1, g2, g3⟩ := setCells_block (List.replicate g (.string ByteArray.empty)) off w cur e2
      refine ⟨w.setCells x off (List.replicate g (.string ByteArray.empty)), fun ty => Lib.run_clear_slice w 27 9 ty (.string ByteArray.empty) Try.underlying27 zeroT rfl rfl x off g g (by omega) hsome hfz, setCells_grown _ _ _, ?_⟩
      by_cases hl : q.length = g
      · exact .inl ⟨hl, .inl ⟨_, rfl, rfl⟩⟩
      · refine .inr ⟨by omega, x, off, rfl, .inr ⟨x, off + g, q.length - g, c2, by rw [List.length_drop], g1, by omega, by rw [List.length_drop]; omega, fun j t hj => ?_⟩⟩
        rw [g3 _ (by rw [List.length_replicate]; omega), Nat.add_assoc]
        exact e5 (g + j) t (by rw [← hj, List.getElem?_drop])
/-- What dropBelow ends with. -/
def DrpE (S : Nat → Prop) (w : World) (b : Nat) (vq : Value) (e : En) (k : Nat) (x : Ending) (w' : World) : Prop := x = .returned (.tuple #[]) ∧ ∃ vq', LB S w' b vq' (dropE e k) ∧ Fr S w w' ∧ ∀ g, vq'.ownBlock = some g → vq.ownBlock = some g
theorem LB.row45 {w1 : World} {u : Value} {q : List (List UInt8)} {f : Nat} (h : LB S w b vq e) (hb : LBlk w1 b vq e) (hq : QRow w1 u q) (hu : ∀ g, u.ownBlock = some g → ¬ S g ∧ g < w1.heap.size ∧ g ≠ b) (hk : (En.mk e.ep e.ot f e.wt q).ok) :
    LB S ((w1.setCell ⟨b, 5, none⟩ u).setCell ⟨b, 4, none⟩ (.int .i64 (f : Int))) b u ⟨e.ep, e.ot, f, e.wt, q⟩ :=
  { blk := six_set4 (six_set5 hb), out := h.out, row := (hq.set hb (by decide) u).set (six_set5 hb) (by decide) _, outq := fun g hg => (hu g hg).1, lowq := fun g hg => by simpa using (hu g hg).2.1, neb := fun hg => (hu b hg).2.2 rfl, ok := hk }
theorem fr_row {S : Nat → Prop} {w w2 : World} {row : Option Nat} (hg : w.grownBy w2 row) (hS : Low S w) (hr : ∀ g, row = some g → ¬ S g) : Fr S w w2 := fr_grown (Fr.refl _ _) hS hg hr
set_option maxRecDepth 100000 in
theorem dropQ_any (h : LB S w b vq e) (hS : Low S w) (k : Nat) (hk : k ≤ 4611686018427387903) :
    Calls Try.prog 42 #[.pointer (some ⟨b, 4, none⟩), .int .i64 (k : Int)] w (DrpE S w b vq e k) := by
  have H := Hid.mk h
  obtain ⟨ao, cap, hv, hcap⟩ := h.row.slice
  subst hv
  obtain ⟨⟨g0, g1, g2, g3, g4, g5⟩, ⟨f0, f1, f2, f3, f4, f5⟩⟩ := six_cells h.blk
  have hfs := h.ok.fs2
  have hfs1 := h.ok.fs1
  have hql := h.ok.ql
  have HOK := Hid.mk (dropE_ok h.ok hk)
  obtain ⟨g, HGE⟩ : ∃ g, Hid (g = goneE e k) := ⟨_, Hid.mk rfl⟩
  have hm : min (max ((k : Int) - (e.fs : Int)) 0) (e.q.length : Int) = (g : Int) := by rw [HGE.out, goneE]; omega
  have hg : g ≤ e.q.length := by rw [HGE.out]; exact goneE_le e k
  have hsum : e.fs + g ≤ 4611686018427387904 := by rw [HGE.out, goneE]; omega
  obtain ⟨W2, hcl, hgr, hq⟩ := clear_q h.row g hg
  have hb2 : LBlk W2 b (.slice ao e.q.length cap) e := (hgr.block b (lt_of_block h.blk) (fun e1 => h.neb e1.symm)).trans h.blk
  have HB2 := Hid.mk hb2
  have HGR := Hid.mk hgr
  have HOK2 : Hid ((En.mk e.ep e.ot (e.fs + g) e.wt (e.q.drop g)).ok) := Hid.mk (by rw [HGE.out]; exact HOK.out)
  have HF : Hid (Fr S w W2) := Hid.mk (fr_row hgr hS h.outq)
  obtain ⟨⟨k0, k1, k2, k3, k4, k5⟩, ⟨j0, j1, j2, j3, j4, j5⟩⟩ := six_cells hb2
  have hnew : ∀ u : Value, (∀ x, u.ownBlock = some x → (Value.slice ao e.q.length cap).ownBlock = some x) → Hid (∀ x, u.ownBlock = some x → ¬ S x ∧ x < W2.heap.size ∧ x ≠ b) := fun u hu => Hid.mk (fun x hx => ⟨h.outq x (hu x hx), Nat.lt_of_lt_of_le (h.lowq x (hu x hx)) hgr.size, fun e1 => h.neb (by rw [← e1]; exact hu x hx)⟩)
  clear h hb2 hgr
  rcases hq with ⟨hql2, hq⟩ | ⟨hlt, x, off, rfl, hq⟩
  · have hq2 : QRow W2 (.slice ao 0 0) (e.q.drop g) := by rw [List.drop_eq_nil_of_le (by omega)]; exact hq
    have HE : Hid (DrpE S w b (.slice ao e.q.length cap) e k (.returned (.tuple #[])) ((W2.setCell ⟨b, 5, none⟩ (.slice ao 0 0)).setCell ⟨b, 4, none⟩ (.int .i64 ((e.fs : Int) + (g : Int))))) := Hid.mk ⟨rfl, .slice ao 0 0, by
      have h1 := LB.row45 H.out HB2.out hq2 (hnew _ (fun x hx => by cases ao with | none => cases hx | some a => exact hx)).out HOK2.out
      rw [dropE, ← HGE.out]
      exact h1, (HF.out.setCell H.out.out _).setCell H.out.out _, fun x hx => by cases ao with | none => cases hx | some a => exact hx⟩
    have HQL := Hid.mk hql2
    clear hq hq2 hql2 hnew
    go_enter Try.func42, Try.ntmps42
    go_wp2_with (simp only [hcl])
    all_goals first
      | (exfalso; have := HQL.out; omega)
      | (go_end0; have h9 := HE.out; rw [HQL.out] at h9; exact h9)
  · have HE : Hid (DrpE S w b (.slice (some ⟨x, off, none⟩) e.q.length cap) e k (.returned (.tuple #[])) ((W2.setCell ⟨b, 5, none⟩ (.slice (some ⟨x, off + g, none⟩) (e.q.length - g) (e.q.length - g))).setCell ⟨b, 4, none⟩ (.int .i64 ((e.fs : Int) + (g : Int))))) := Hid.mk ⟨rfl, .slice (some ⟨x, off + g, none⟩) (e.q.length - g) (e.q.length - g), by
      have h1 := LB.row45 H.out HB2.out hq (hnew _ (fun x hx => by simpa [Value.ownBlock] using hx)).out HOK2.out
      rw [dropE, ← HGE.out]
      exact h1, (HF.out.setCell H.out.out _).setCell H.out.out _, fun x hx => hx⟩
    clear hq hnew
    go_enter Try.func42, Try.ntmps42
    go_wp2_with (simp only [hcl])
    go_end0
    exact HE.out
end
end Go.Proofs.Ytifmpcldiimdbaa

namespace Go.Proofs.Ytifmpcldiimdbaa
open Go.RowKit

set_option maxRecDepth 100000 in
theorem packed_any (v : Value) (n : NoteD) (w : World) (h : NoteAt w v n) (hs : n.sane) :
    Calls Try.prog 50 #[v] w fun e w' => e = .returned (.string ⟨(packN n).toArray⟩) ∧ Below w.heap.size w w' := by
  have hN := h
  obtain ⟨vn, vt, vr, rfl, hn, ht, hr⟩ := h
  have hbb : Below w.heap.size w (w.alloc (.cells #[.int .i64 n.kind, vn, vt, vr] 36)) := (Below.refl _ _).alloc (Nat.le_refl _) _
  have C := Hid.mk (pack_any _ n _ (hN.below hbb) hs)
  have HB := Hid.mk hbb
  obtain ⟨t, ht⟩ : ∃ t, t = packN n := ⟨_, rfl⟩
  rw [← ht]
  have HV : Hid (∃ x, packV n = .tuple #[.string ⟨t.toArray⟩, .int .i64 x]) := Hid.mk (by
    rw [ht, packV, packN]
    split
    · exact ⟨0, rfl⟩
    · exact ⟨1, rfl⟩)
  clear hN hbb ht hn hr hs
  go_enter Try.func50, Try.ntmps50
  go_wp2_with fail
  refine C.out.mono ?_
  rintro e w1 ⟨rfl, hb⟩
  obtain ⟨x, hx⟩ := HV.out
  rw [hx]
  clear HV hx
  go_wp2
  go_ret
  exact ⟨rfl, HB.out.trans (hb.mono HB.out.size)⟩

section
variable {S : Nat → Prop} {w : World} {b : Nat} {vq : Value} {e : En}
theorem ints_new {W : World} {g : Nat} {ns : List Int} (h : W.heap[g]? = some (.cells (intCs ns).toArray 3 (0, 0))) (hl : ns.length ≤ 64) : IntsAt W (.slice (some ⟨g, 0, none⟩) ns.length ns.length) ns := by
  refine ⟨by rw [intCs_len]; omega, some ⟨g, 0, none⟩, ns.length, by rw [intCs_len], .inr ⟨g, 0, rfl, lt_of_block h, fun j x hj => ?_⟩⟩
  simp only [World.cell?, h, Nat.zero_add]
  simpa using hj
theorem strs_new {W : World} {g : Nat} {t : List UInt8} (h : W.heap[g]? = some (.cells #[.string ⟨t.toArray⟩] 9 (0, 0))) : StrsAt W (.slice (some ⟨g, 0, none⟩) 1 1) [t] := by
  refine ⟨by simp, some ⟨g, 0, none⟩, 1, rfl, .inr ⟨g, 0, rfl, lt_of_block h, fun j x hj => ?_⟩⟩
  have : j = 0 := by have := (List.getElem?_eq_some_iff.1 hj).1; simp at this; exact this
  subst this
  simp at hj
  subst hj
  simp only [World.cell?, h]
  rfl
theorem rows_nil (W : World) : RowsAt W (.slice none 0 0) [] := ⟨[], ⟨by simp, none, 0, rfl, .inl rfl⟩, rfl, by simp⟩
theorem strs_nil (W : World) : StrsAt W (.slice none 0 0) [] := ⟨by simp, none, 0, rfl, .inl rfl⟩
set_option maxRecDepth 100000 in
theorem tell_any (h : LB S w b vq e) :
    Calls Try.prog 41 #[.pointer (some ⟨b, 0, none⟩)] w fun x w' => x = .returned (.string ⟨(telB e).toArray⟩) ∧ Below w.heap.size w w' := by
  obtain ⟨⟨g0, g1, g2, g3, g4, g5⟩, -⟩ := six_cells h.blk
  have KS : Hid (∀ W, Below w.heap.size w W → W.cell? ⟨b, 1, none⟩ = some (.int .i64 e.ep) ∧ W.cell? ⟨b, 2, none⟩ = some (.int .i64 e.ot) ∧ W.cell? ⟨b, 3, none⟩ = some (.int .i64 e.wt)) := Hid.mk (fun W hW => by
    obtain ⟨⟨k0, k1, k2, k3, k4, k5⟩, -⟩ := six_cells (h.below hW).blk
    exact ⟨k1, k2, k3⟩)
  have b1 : Below w.heap.size w (w.alloc (.cells #[.int .i64 e.ep, .int .i64 e.ot, .int .i64 e.wt] 3)) := (Below.refl _ _).alloc (Nat.le_refl _) _
  have HB := Hid.mk (below_drewE b1)
  have C := Hid.mk (packed_any (.agg #[.int .i64 2, .slice (some ⟨w.heap.size, 0, none⟩) 3 3, .slice none 0 0, .slice none 0 0]) (telN e) (w.alloc (.cells #[.int .i64 e.ep, .int .i64 e.ot, .int .i64 e.wt] 3)).drew
    ⟨_, _, _, rfl, ints_new (by exact box_at w _) (by simp [telN]), strs_nil _, rows_nil _⟩ ⟨by simp [telN], by simp [telN]⟩)
  have HB1 := Hid.mk b1
  clear h b1
  rw [telB]
  go_enter Try.func41, Try.ntmps41
  go_wp2_with fail
  go_region_held3 (fun u => u.cell? ⟨b, 1, none⟩ = some (.int .i64 e.ep) ∧ u.cell? ⟨b, 2, none⟩ = some (.int .i64 e.ot) ∧ u.cell? ⟨b, 3, none⟩ = some (.int .i64 e.wt))
    (first | with_reducible exact KS.out _ (HB.out.trans (hb.mono HB.out.size)) | with_reducible exact KS.out _ (below_drewE (Below.refl _ _)) | with_reducible exact KS.out _ (Below.refl _ _) | with_reducible exact KS.out _ HB.out | with_reducible exact KS.out _ HB1.out)
    (first | (with_reducible refine C.out.mono ?_; rintro x w1 ⟨rfl, hb⟩))
  go_wp2
  go_ret
  exact ⟨rfl, HB.out.trans (hb.mono HB.out.size)⟩

set_option maxRecDepth 100000 in
theorem carry_any (h : LB S w b vq e) (k : Nat) (t : List UInt8) :
    Calls Try.prog 35 #[.pointer (some ⟨b, 0, none⟩), .int .i64 (k : Int), .string ⟨t.toArray⟩] w fun x w' => x = .returned (.string ⟨(carB e k t).toArray⟩) ∧ Below w.heap.size w w' := by
  obtain ⟨⟨g0, g1, g2, g3, g4, g5⟩, -⟩ := six_cells h.blk
  have KS : Hid (∀ W, Below w.heap.size w W → W.cell? ⟨b, 1, none⟩ = some (.int .i64 e.ep) ∧ W.cell? ⟨b, 2, none⟩ = some (.int .i64 e.ot) ∧ W.cell? ⟨b, 3, none⟩ = some (.int .i64 e.wt)) := Hid.mk (fun W hW => by
    obtain ⟨⟨k0, k1, k2, k3, k4, k5⟩, -⟩ := six_cells (h.below hW).blk
    exact ⟨k1, k2, k3⟩)
  obtain ⟨oi, HOI⟩ : ∃ oi, Hid (oi = Obj.cells #[.int .i64 e.ep, .int .i64 e.ot, .int .i64 (k : Int), .int .i64 e.wt] 3) := ⟨_, Hid.mk rfl⟩
  obtain ⟨os, HOS⟩ : ∃ os, Hid (os = Obj.cells #[.string ⟨t.toArray⟩] 9) := ⟨_, Hid.mk rfl⟩
  have bi : Below w.heap.size w (w.alloc oi) := (Below.refl _ _).alloc (Nat.le_refl _) _
  have bs : Below w.heap.size w (w.alloc os) := (Below.refl _ _).alloc (Nat.le_refl _) _
  have bis : Below w.heap.size w ((w.alloc oi).alloc os) := bi.alloc bi.size _
  have bsi : Below w.heap.size w ((w.alloc os).alloc oi) := bs.alloc bs.size _
  have HB1 := Hid.mk (below_drewE bi)
  have HB2 := Hid.mk (below_drewE bs)
  have HB3 := Hid.mk (below_drewE bis)
  have HB4 := Hid.mk (below_drewE bsi)
  have n1 : ((w.alloc oi).alloc os).heap[w.heap.size]? = some oi := (Below.heap_alloc _ _ _ (by simp)).trans (box_at w _)
  have n2 : ((w.alloc oi).alloc os).heap[w.heap.size + 1]? = some os := by have := box_at (w.alloc oi) os; simpa using this
  have n3 : ((w.alloc os).alloc oi).heap[w.heap.size]? = some os := (Below.heap_alloc _ _ _ (by simp)).trans (box_at w _)
  have n4 : ((w.alloc os).alloc oi).heap[w.heap.size + 1]? = some oi := by have := box_at (w.alloc os) oi; simpa using this
  have C1 := Hid.mk (packed_any (.agg #[.int .i64 1, .slice (some ⟨w.heap.size, 0, none⟩) 4 4, .slice (some ⟨w.heap.size + 1, 0, none⟩) 1 1, .slice none 0 0]) (carN e k t) ((w.alloc oi).alloc os).drew
    ⟨_, _, _, rfl, ints_new (n1.trans (by rw [HOI.out]; rfl)) (by simp [carN]), strs_new (n2.trans (by rw [HOS.out])), rows_nil _⟩ ⟨by simp [carN], by simp [carN]⟩)
  have C2 := Hid.mk (packed_any (.agg #[.int .i64 1, .slice (some ⟨w.heap.size + 1, 0, none⟩) 4 4, .slice (some ⟨w.heap.size, 0, none⟩) 1 1, .slice none 0 0]) (carN e k t) ((w.alloc os).alloc oi).drew
    ⟨_, _, _, rfl, ints_new (n4.trans (by rw [HOI.out]; rfl)) (by simp [carN]), strs_new (n3.trans (by rw [HOS.out])), rows_nil _⟩ ⟨by simp [carN], by simp [carN]⟩)
  rw [HOI.out, HOS.out] at C1 C2 HB3 HB4
  rw [HOI.out] at HB1
  rw [HOS.out] at HB2
  clear h bi bs bis bsi n1 n2 n3 n4 HOI HOS
  rw [carB]
  go_enter Try.func35, Try.ntmps35
  go_wp2_with fail
  go_region_held3 (fun u => u.cell? ⟨b, 1, none⟩ = some (.int .i64 e.ep) ∧ u.cell? ⟨b, 2, none⟩ = some (.int .i64 e.ot) ∧ u.cell? ⟨b, 3, none⟩ = some (.int .i64 e.wt))
    (first | with_reducible exact KS.out _ (HB3.out.trans (hb3.mono HB3.out.size)) | with_reducible exact KS.out _ (HB4.out.trans (hb4.mono HB4.out.size)) | with_reducible exact KS.out _ (below_drewE (Below.refl _ _)) | with_reducible exact KS.out _ HB1.out | with_reducible exact KS.out _ HB2.out | with_reducible exact KS.out _ HB3.out | with_reducible exact KS.out _ HB4.out)
    (first | (with_reducible refine C1.out.mono ?_; rintro x w1 ⟨rfl, hb3⟩) | (with_reducible refine C2.out.mono ?_; rintro x w1 ⟨rfl, hb4⟩))
  · go_wp2
    go_ret
    first
      | exact ⟨rfl, HB3.out.trans (hb3.mono HB3.out.size)⟩
      | exact ⟨rfl, HB4.out.trans (hb4.mono HB4.out.size)⟩
  · go_wp2
    go_ret
    first
      | exact ⟨rfl, HB3.out.trans (hb3.mono HB3.out.size)⟩
      | exact ⟨rfl, HB4.out.trans (hb4.mono HB4.out.size)⟩
end
end Go.Proofs.Ytifmpcldiimdbaa
