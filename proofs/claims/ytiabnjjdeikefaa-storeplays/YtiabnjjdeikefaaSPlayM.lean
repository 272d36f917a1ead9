/- A store and the document's, side by side. -/
import Derived.Test.YtiabnjjdeikefaaSRef8
import Derived.Test.YtiabnjjdeikefaaCRow
namespace Go.Proofs.Ytiabnjjdeikefaa
open Go.RowKit

theorem Live.keepOut {w0 w w' : World} {S : Nat → Prop} {b : Nat} {All : List (List Tri)} (h : Live w0 w S b All) (hz : w.heap.size ≤ w'.heap.size) (key : ∀ k (o : Obj), ¬ S k → w.heap[k]? = some o → w'.heap[k]? = some o) (hb : Below w0.heap.size w0 w') : Live w0 w' S b All :=
  ⟨h.low.size hz, h.sub, h.q.keepOut key, hb⟩
/-- The store at b has the versions All; so has the document's, whose lists lie at vq, which the block qb holds. -/
structure Pl (w0 w : World) (S : Nat → Prop) (b qb : Nat) (All : List (List Tri)) (vq : Value) (ps : List (Value × List Tri)) : Prop where
  live : Live w0 w S b All
  inS : S qb
  hi : w0.heap.size ≤ qb
  box : w.heap[qb]? = some (.cells #[vq] 30 (0, 0))
  all : RAll (fun k => S k ∧ k ≠ qb) w vq ps
  eq : ps.map (·.2) = All
section
variable {w0 w w' : World} {S : Nat → Prop} {b qb : Nat} {All : List (List Tri)} {vq : Value} {ps : List (Value × List Tri)}
theorem Pl.cell (h : Pl w0 w S b qb All vq ps) : w.cell? ⟨qb, 0, none⟩ = some vq ∧ w.frozen? ⟨qb, 0, none⟩ = false := one_cell h.box
theorem Pl.lt (h : Pl w0 w S b qb All vq ps) : qb < w.heap.size := lt_of_block h.box
theorem Pl.plus (h : Pl w0 w S b qb All vq ps) (hb : Below w.heap.size w w') : Pl w0 w' (Plus S w.heap.size w'.heap.size) b qb All vq ps :=
  ⟨h.live.plus hb, .inl h.inS, h.hi, (hb.block qb h.lt).trans h.box, (h.all.plus hb).sub (fun k hk _ => by
    rcases hk with hk | hk
    · exact ⟨.inl hk.1, hk.2⟩
    · exact ⟨.inr hk, by have := h.lt; omega⟩), h.eq⟩
theorem Pl.below (h : Pl w0 w S b qb All vq ps) (hb : Below w.heap.size w w') : Pl w0 w' S b qb All vq ps :=
  ⟨h.live.below hb, h.inS, h.hi, (hb.block qb h.lt).trans h.box, h.all.below hb, h.eq⟩
theorem RAll.frO (h : RAll (fun k => S k ∧ k ≠ qb) w vq ps) (hf : Fr S w w') : RAll (fun k => S k ∧ k ≠ qb) w' vq ps :=
  ⟨h.sl.keep hf.size (fun k hk _ => ⟨hk, hf.block k hk.1⟩), fun p hp => (h.lists p hp).keep hf.size (fun k hk _ => ⟨hk, hf.block k hk.1⟩)⟩
/-- The document's lists are laid anew into its block. -/
theorem pl_set {v' : Value} {ps' : List (Value × List Tri)} (hl : Live w0 w S b All) (hi : S qb) (hh : w0.heap.size ≤ qb) (hbx : w.heap[qb]? = some (.cells #[vq] 30 (0, 0))) (ha : RAll (fun k => S k ∧ k ≠ qb) w v' ps') (he : ps'.map (·.2) = All) : Pl w0 (w.setCell ⟨qb, 0, none⟩ v') S b qb All v' ps' := by
  have hsame : ∀ k, k ≠ qb → (w.setCell ⟨qb, 0, none⟩ v').heap[k]? = w.heap[k]? := fun k hk => Below.heap_setCell _ ⟨qb, 0, none⟩ _ k hk
  refine ⟨hl.keepOut (by simp) (fun k o hk ho => (hsame k (fun e => hk (by rw [e]; exact hi))).trans ho) (hl.bel.setCell (p := ⟨qb, 0, none⟩) hh _), hi, hh, ?_, ⟨ha.sl.keep (by simp) (fun k hk _ => ⟨hk, hsame k hk.2⟩), fun p hp => (ha.lists p hp).keep (by simp) (fun k hk _ => ⟨hk, hsame k hk.2⟩)⟩, he⟩
  simp [World.setCell, Array.getElem?_modify, hbx]
end
end Go.Proofs.Ytiabnjjdeikefaa
