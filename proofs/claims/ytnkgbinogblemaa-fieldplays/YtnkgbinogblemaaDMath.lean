/- Packets under way, without memory. -/
import Derived.Test.YtnkgbinogblemaaRows
namespace Go.Proofs.Ytnkgbinogblemaa

/-- A packet. -/
structure Pk where
  id : Nat
  fr : Int
  to : Int
  bs : List UInt8
/-- A field: how many nodes, the number given last, what is under way. -/
structure Fd where
  nodes : Nat
  last : Nat
  l : List Pk
def UpP (l : List Pk) : Prop := l.Pairwise (fun a b => a.id < b.id)
/-- A packet that may be under way. -/
structure PkOk (nodes : Nat) (p : Pk) : Prop where
  fr0 : 0 ≤ p.fr
  fr1 : p.fr < (nodes : Int)
  to0 : 0 ≤ p.to
  to1 : p.to < (nodes : Int)
  bs : p.bs.length ≤ 1048640
structure Fd.ok (f : Fd) : Prop where
  n1 : 1 ≤ f.nodes
  n2 : f.nodes ≤ 65
  up : UpP f.l
  id1 : ∀ p ∈ f.l, 1 ≤ p.id
  id2 : ∀ p ∈ f.l, p.id ≤ f.last
  pk : ∀ p ∈ f.l, PkOk f.nodes p
  len : f.l.length ≤ f.last
def Fd.add (f : Fd) (p : Pk) : Fd := ⟨f.nodes, f.last + 1, f.l ++ [{ p with id := f.last + 1 }]⟩
theorem Fd.ok.add {f : Fd} (h : f.ok) {p : Pk} (hp : PkOk f.nodes p) : (f.add p).ok where
  n1 := h.n1
  n2 := h.n2
  up := by
    refine List.pairwise_append.2 ⟨h.up, by simp, fun a ha b hb => ?_⟩
    obtain rfl := List.mem_singleton.1 hb
    have := h.id2 a ha
    show a.id < f.last + 1
    omega
  id1 := fun q hq => by
    rcases List.mem_append.1 hq with hq | hq
    · exact h.id1 q hq
    · obtain rfl := List.mem_singleton.1 hq
      show 1 ≤ f.last + 1
      omega
  id2 := fun q hq => by
    show q.id ≤ f.last + 1
    rcases List.mem_append.1 hq with hq | hq
    · have := h.id2 q hq; omega
    · obtain rfl := List.mem_singleton.1 hq
      exact Nat.le_refl _
  pk := fun q hq => by
    rcases List.mem_append.1 hq with hq | hq
    · exact h.pk q hq
    · obtain rfl := List.mem_singleton.1 hq
      exact ⟨hp.fr0, hp.fr1, hp.to0, hp.to1, hp.bs⟩
  len := by
    have := h.len
    show (f.l ++ [_]).length ≤ f.last + 1
    simp
    omega
theorem Fd.ok.cut {f : Fd} (h : f.ok) {a c : List Pk} {p : Pk} (e : f.l = a ++ p :: c) : (Fd.mk f.nodes f.last (a ++ c)).ok where
  n1 := h.n1
  n2 := h.n2
  up := by
    have := h.up
    rw [e] at this
    obtain ⟨h1, h2, h3⟩ := List.pairwise_append.1 this
    exact List.pairwise_append.2 ⟨h1, (List.pairwise_cons.1 h2).2, fun x hx y hy => h3 x hx y (List.mem_cons_of_mem _ hy)⟩
  id1 := fun q hq => h.id1 q (by rw [e]; rcases List.mem_append.1 hq with h | h <;> simp [h])
  id2 := fun q hq => h.id2 q (by rw [e]; rcases List.mem_append.1 hq with h | h <;> simp [h])
  pk := fun q hq => h.pk q (by rw [e]; rcases List.mem_append.1 hq with h | h <;> simp [h])
  len := by
    have := h.len
    rw [e] at this
    simp at this ⊢
    omega
/-- The packet of a number. -/
theorem up_same {l : List Pk} (h : UpP l) {p q : Pk} (hp : p ∈ l) (hq : q ∈ l) (e : p.id = q.id) : p = q := by
  induction l with
  | nil => simp at hp
  | cons x l ih =>
    obtain ⟨h1, h2⟩ := List.pairwise_cons.1 h
    rcases List.mem_cons.1 hp with e1 | hp1
    · rcases List.mem_cons.1 hq with e2 | hq1
      · rw [e1, e2]
      · subst e1
        have := h1 q hq1; omega
    · rcases List.mem_cons.1 hq with e2 | hq1
      · subst e2
        have := h1 p hp1; omega
      · exact ih h2 hp1 hq1
theorem up_cut {a c : List Pk} {p : Pk} (h : UpP (a ++ p :: c)) : (∀ q ∈ a, q.id < p.id) ∧ (∀ q ∈ c, p.id < q.id) := by
  obtain ⟨h1, h2, h3⟩ := List.pairwise_append.1 h
  exact ⟨fun q hq => h3 q hq p (by simp), (List.pairwise_cons.1 h2).1⟩
/-- The place that is picked. -/
def pix (n : Int) (len : Nat) : Nat := if n = -9223372036854775808 then 0 else n.natAbs % len
def pickF (l : List Pk) (n : Int) : Int := match l[pix n l.length]? with | some p => (p.id : Int) | none => -1
theorem pix_lt (n : Int) {len : Nat} (h : 0 < len) : pix n len < len := by
  unfold pix
  split
  · exact h
  · exact Nat.mod_lt _ h
theorem pickF_nil (n : Int) : pickF [] n = -1 := by simp [pickF]
theorem pickF_some {l : List Pk} (h : l ≠ []) (n : Int) : ∃ p, l[pix n l.length]? = some p ∧ p ∈ l ∧ pickF l n = (p.id : Int) := by
  have h0 : 0 < l.length := List.length_pos_iff.2 h
  have hp := pix_lt n h0
  refine ⟨l[pix n l.length], List.getElem?_eq_getElem hp, List.getElem_mem hp, ?_⟩
  unfold pickF
  rw [List.getElem?_eq_getElem hp]
def toL (l : List Pk) (node : Int) : List Pk := l.filter (fun p => decide (p.to = node))
end Go.Proofs.Ytnkgbinogblemaa
