/- Requests in memory. -/
import Derived.Test.YthdnpddfdlhlaaaQState
namespace Go.Proofs.Ythdnpddfdlhlaaa
open Go.RowKit

/-- A term: is it a variable, its name. -/
abbrev Tm := Bool × List UInt8
/-- An atom in memory. -/
abbrev Am := Tm × Vt × Tm
abbrev csA (a : Am) : List Value := [.bool a.1.1, .string ⟨a.1.2.toArray⟩, .int .i64 a.2.1.kind, .string ⟨a.2.1.word.toArray⟩, a.2.1.val, .bool a.2.2.1, .string ⟨a.2.2.2.toArray⟩]
theorem csA_len (x : Am) : (csA x).length = 7 := rfl
abbrev AtsS := SlS csA 7
/-- A change: does it go, its three words. -/
abbrev Cg := Bool × List UInt8 × List UInt8 × List UInt8
abbrev csC (c : Cg) : List Value := [.bool c.1, .string ⟨c.2.1.toArray⟩, .string ⟨c.2.2.1.toArray⟩, .string ⟨c.2.2.2.toArray⟩]
theorem csC_len (x : Cg) : (csC x).length = 4 := rfl
abbrev CgsS := SlS csC 4
/-- Names that are not too long for any machine. -/
def FineA (a : Am) : Prop := a.1.2.length ≤ 140737488351232 ∧ a.2.2.2.length ≤ 140737488351232
def FineC (c : Cg) : Prop := c.2.1.length ≤ 140737488351232 ∧ c.2.2.1.length ≤ 140737488351232 ∧ c.2.2.2.length ≤ 140737488351232
/-- A query in memory. -/
structure Qm where
  vv : Value
  vars : List (List UInt8)
  av : Value
  atoms : List Am
/-- A request in memory. -/
structure Rm where
  kind : Int
  q : Qm
  cv : Value
  chgs : List Cg
abbrev encQ (q : Qm) : Value := .agg #[q.vv, q.av]
abbrev encR (r : Rm) : Value := .agg #[.int .i64 r.kind, r.q.vv, r.q.av, r.cv]
structure QOk (S : Nat → Prop) (w : World) (q : Qm) : Prop where
  vs : TxtS S w q.vv q.vars
  vb : ∀ s ∈ q.vars, s.length ≤ 140737488351232
  vl : q.vars.length ≤ 9223372036854775807
  vcap : CapS q.vv q.vars.length
  ats : AtsS S w q.av q.atoms
  ok : ∀ a ∈ q.atoms, VOk S w a.2.1
  fine : ∀ a ∈ q.atoms, FineA a
  al : q.atoms.length ≤ 9223372036854775807
structure ROk (S : Nat → Prop) (w : World) (r : Rm) : Prop where
  q : QOk S w r.q
  cs : CgsS S w r.cv r.chgs
  fine : ∀ c ∈ r.chgs, FineC c
  cl : r.chgs.length ≤ 9223372036854775807
theorem QOk.keep {S T : Nat → Prop} {w w' : World} {q : Qm} (h : QOk S w q) (hz : w.heap.size ≤ w'.heap.size) (hk : ∀ b, S b → b < w.heap.size → T b ∧ w'.heap[b]? = w.heap[b]?) : QOk T w' q :=
  ⟨h.vs.keep hz hk, h.vb, h.vl, h.vcap, h.ats.keep hz hk, fun a ha => VOk.keep hz hk _ (h.ok a ha), h.fine, h.al⟩
theorem QOk.below {S : Nat → Prop} {w w' : World} {q : Qm} (h : QOk S w q) (hb : Below w.heap.size w w') : QOk S w' q := h.keep hb.size (fun b hs hl => ⟨hs, hb.block b hl⟩)
theorem QOk.fr {S : Nat → Prop} {w w' : World} {q : Qm} (h : QOk S w q) (hf : Fr S w w') : QOk S w' q := h.keep hf.size (fun b hs _ => ⟨hs, hf.block b hs⟩)
theorem ROk.keep {S T : Nat → Prop} {w w' : World} {r : Rm} (h : ROk S w r) (hz : w.heap.size ≤ w'.heap.size) (hk : ∀ b, S b → b < w.heap.size → T b ∧ w'.heap[b]? = w.heap[b]?) : ROk T w' r :=
  ⟨h.q.keep hz hk, h.cs.keep hz hk, h.fine, h.cl⟩
theorem ROk.below {S : Nat → Prop} {w w' : World} {r : Rm} (h : ROk S w r) (hb : Below w.heap.size w w') : ROk S w' r := h.keep hb.size (fun b hs hl => ⟨hs, hb.block b hl⟩)
theorem ROk.fr {S : Nat → Prop} {w w' : World} {r : Rm} (h : ROk S w r) (hf : Fr S w w') : ROk S w' r := h.keep hf.size (fun b hs _ => ⟨hs, hf.block b hs⟩)
theorem getA {w : World} {g o : Nat} {a : Am} (h : ∀ (c : Nat) u, (csA a)[c]? = some u → w.cell? ⟨g, o + c, none⟩ = some u) :
    w.cell? ⟨g, o, none⟩ = some (.bool a.1.1) ∧ w.cell? ⟨g, o + 1, none⟩ = some (.string ⟨a.1.2.toArray⟩) ∧ w.cell? ⟨g, o + 2, none⟩ = some (.int .i64 a.2.1.kind) ∧ w.cell? ⟨g, o + 3, none⟩ = some (.string ⟨a.2.1.word.toArray⟩) ∧ w.cell? ⟨g, o + 4, none⟩ = some a.2.1.val ∧
    w.cell? ⟨g, o + 5, none⟩ = some (.bool a.2.2.1) ∧ w.cell? ⟨g, o + 6, none⟩ = some (.string ⟨a.2.2.2.toArray⟩) :=
  ⟨h 0 _ rfl, h 1 _ rfl, h 2 _ rfl, h 3 _ rfl, h 4 _ rfl, h 5 _ rfl, h 6 _ rfl⟩
theorem getC {w : World} {g o : Nat} {c : Cg} (h : ∀ (i : Nat) u, (csC c)[i]? = some u → w.cell? ⟨g, o + i, none⟩ = some u) :
    w.cell? ⟨g, o, none⟩ = some (.bool c.1) ∧ w.cell? ⟨g, o + 1, none⟩ = some (.string ⟨c.2.1.toArray⟩) ∧ w.cell? ⟨g, o + 2, none⟩ = some (.string ⟨c.2.2.1.toArray⟩) ∧ w.cell? ⟨g, o + 3, none⟩ = some (.string ⟨c.2.2.2.toArray⟩) :=
  ⟨h 0 _ rfl, h 1 _ rfl, h 2 _ rfl, h 3 _ rfl⟩

theorem box_keptQ {w wr : World} {o : Obj} (h : Below (w.alloc o).heap.size (w.alloc o) wr) : wr.heap[w.heap.size]? = some o := by
  rw [h.block w.heap.size (by simp), heap_alloc_new]
theorem below_boxQ {w wr : World} {o : Obj} (h : Below (w.alloc o).heap.size (w.alloc o) wr) : Below w.heap.size w wr :=
  ((Below.refl _ _).alloc (Nat.le_refl _) o).trans (h.mono (by simp))
/-! What requests are, without memory. -/
abbrev Pa := Tm × Pt × Tm
/-- A name comes behind those that are there, if it is a variable's and not yet there. -/
def addN (l : List (List UInt8)) (t : Tm) : List (List UInt8) := if t.1 = true ∧ t.2 ∉ l then l ++ [t.2] else l
def namesP (l : List Pa) : List (List UInt8) := l.foldl (fun n a => addN (addN n a.1) a.2.2) []
def Am.pa (a : Am) : Pa := (a.1, a.2.1.pt, a.2.2)
def likeN : List (List UInt8) → Bool
  | [] => false
  | s :: l => decide (s ∈ l) || likeN l
/-- What is wrong with a query of the grammar. -/
def whyQ (vars : List (List UInt8)) (l : List Pa) : Nat :=
  if ∃ a ∈ l, mayP a.2.1 = false then 100
  else if 6 < vars.length ∨ 6 < l.length ∨ 6 < (namesP l).length then 2
  else if ¬ vars.Nodup then 1
  else if ∃ v ∈ vars, v ∉ namesP l then 91
  else 0
theorem namesP_snoc (l : List Pa) (a : Pa) : namesP (l ++ [a]) = addN (addN (namesP l) a.1) a.2.2 := by simp [namesP]
theorem addN_len (l : List (List UInt8)) (t : Tm) : (addN l t).length ≤ l.length + 1 := by
  unfold addN; split <;> simp
theorem addN_sub {l : List (List UInt8)} {t : Tm} {s : List UInt8} (h : s ∈ l) : s ∈ addN l t := by
  unfold addN; split
  · exact List.mem_append_left _ h
  · exact h
end Go.Proofs.Ythdnpddfdlhlaaa
