/- How long the lists of a path's automaton under way may be. -/
import Derived.Test.YthdnpddfdlhlaaaAMath3
namespace Go.Proofs.Ythdnpddfdlhlaaa
open Go.RowKit

def Lim (d : Nat) (p : Prt) : Prop := p.first.length ≤ p.words.length ∧ p.last.length ≤ p.words.length ∧ p.pairs.length ≤ d * (p.words.length * p.words.length)
theorem sq_add (a b : Nat) : (a + b) * (a + b) = a * a + 2 * (a * b) + b * b := by
  rw [Nat.add_mul, Nat.mul_add, Nat.mul_add, Nat.mul_comm b a]
  omega
theorem cross_len (a b : List Nat) : (cross a b).length = a.length * b.length := by
  unfold cross
  induction a with
  | nil => simp
  | cons x l ih => rw [List.flatMap_cons, List.length_append, ih, List.length_map, List.length_cons, Nat.succ_mul]; omega
theorem Lim.more {d : Nat} {p : Prt} (h : Lim d p) : Lim (d + 1) p := ⟨h.1, h.2.1, by have := h.2.2; rw [Nat.succ_mul]; omega⟩
theorem lim_seq {d : Nat} {x y : Prt} (hx : Lim (d + 1) x) (hy : Lim d y) : Lim (d + 1) (seqC x y) := by
  obtain ⟨x1, x2, x3⟩ := hx
  obtain ⟨y1, y2, y3⟩ := hy
  refine ⟨?_, ?_, ?_⟩
  · show (if x.empty = true then x.first ++ up x.words.length y.first else x.first).length ≤ (x.words ++ y.words).length
    rw [List.length_append]
    split
    · simp only [List.length_append, up, List.length_map]; omega
    · omega
  · show (if y.empty = true then x.last ++ up x.words.length y.last else up x.words.length y.last).length ≤ (x.words ++ y.words).length
    rw [List.length_append]
    split
    · simp only [List.length_append, up, List.length_map]; omega
    · simp only [up, List.length_map]; omega
  · show (x.pairs ++ upP x.words.length y.pairs ++ cross x.last (up x.words.length y.first)).length ≤ (d + 1) * ((x.words ++ y.words).length * (x.words ++ y.words).length)
    rw [List.length_append, List.length_append, List.length_append, sq_add, cross_len, Nat.mul_add, Nat.mul_add]
    simp only [up, upP, List.length_map]
    have h1 : x.last.length * y.first.length ≤ x.words.length * y.words.length := Nat.mul_le_mul x2 y1
    have h2 : (d + 1) * (y.words.length * y.words.length) = d * (y.words.length * y.words.length) + y.words.length * y.words.length := Nat.succ_mul _ _
    have h3 : (d + 1) * (2 * (x.words.length * y.words.length)) = d * (2 * (x.words.length * y.words.length)) + 2 * (x.words.length * y.words.length) := Nat.succ_mul _ _
    omega
theorem lim_alt {d : Nat} {x y : Prt} (hx : Lim d x) (hy : Lim d y) : Lim d (altC x y) := by
  obtain ⟨x1, x2, x3⟩ := hx
  obtain ⟨y1, y2, y3⟩ := hy
  refine ⟨?_, ?_, ?_⟩
  · show (x.first ++ up x.words.length y.first).length ≤ (x.words ++ y.words).length
    simp only [List.length_append, up, List.length_map]; omega
  · show (x.last ++ up x.words.length y.last).length ≤ (x.words ++ y.words).length
    simp only [List.length_append, up, List.length_map]; omega
  · show (x.pairs ++ upP x.words.length y.pairs).length ≤ d * ((x.words ++ y.words).length * (x.words ++ y.words).length)
    rw [List.length_append, List.length_append, sq_add, Nat.mul_add, Nat.mul_add]
    simp only [upP, List.length_map]
    omega
theorem lim_loop {d : Nat} {x : Prt} (hx : Lim d x) : Lim (d + 1) (loopC x) := by
  obtain ⟨x1, x2, x3⟩ := hx
  refine ⟨x1, x2, ?_⟩
  show (x.pairs ++ cross x.last x.first).length ≤ (d + 1) * (x.words.length * x.words.length)
  rw [List.length_append, cross_len, Nat.succ_mul]
  have h1 : x.last.length * x.first.length ≤ x.words.length * x.words.length := Nat.mul_le_mul x2 x1
  omega
theorem lim_may {d : Nat} {x : Prt} (hx : Lim d x) : Lim d (mayC2 x) := hx
theorem lim_zero (d : Nat) (e : Bool) : Lim d (prt0 e) := by simp [Lim, prt0]
theorem lim_seqs {d : Nat} : ∀ (ps : List Prt) (x : Prt), Lim (d + 1) x → (∀ p ∈ ps, Lim d p) → Lim (d + 1) (ps.foldl seqC x)
  | [], _, hx, _ => hx
  | p :: ps, x, hx, h => lim_seqs ps (seqC x p) (lim_seq hx (h p (List.mem_cons_self ..))) (fun q hq => h q (List.mem_cons_of_mem _ hq))
theorem lim_alts {d : Nat} : ∀ (ps : List Prt) (x : Prt), Lim d x → (∀ p ∈ ps, Lim d p) → Lim d (ps.foldl altC x)
  | [], _, hx, _ => hx
  | p :: ps, x, hx, h => lim_alts ps (altC x p) (lim_alt hx (h p (List.mem_cons_self ..))) (fun q hq => h q (List.mem_cons_of_mem _ hq))
/-- The lists of a path that is d deep. -/
theorem prt_lim : ∀ (t : Pt) (d : Nat), shapedP d t = true → Lim d (prtOf t) := by
  refine Pt.ind (fun k w kids ih => ?_)
  intro d hd
  cases d with
  | zero => cases hd
  | succ d =>
    simp only [shapedP, Bool.and_eq_true, List.all_eq_true] at hd
    have hk : ∀ p ∈ kids.map prtOf, Lim d p := fun p hp => by
      obtain ⟨x, hx, rfl⟩ := List.mem_map.1 hp
      exact ih x hx d (hd.2 x hx)
    have ha := lim_alts _ _ (lim_zero d false) hk
    rw [prtOf_mk]
    unfold kindC
    split
    · simp [Lim]
    · split
      · exact lim_seqs _ _ (lim_zero _ _) hk
      · split
        · exact lim_may (lim_loop ha)
        · split
          · exact lim_loop ha
          · split
            · exact lim_may ha.more
            · exact ha.more
/-- Up to which kid a fold has come. -/
theorem foldl_take {α β : Type} {f : β → α → β} {b : β} {L : List α} {i : Nat} {x : α} (hx : L[i]? = some x) : (L.take (i + 1)).foldl f b = f ((L.take i).foldl f b) x := by
  rw [List.take_add_one, hx, List.foldl_append]
  rfl
end Go.Proofs.Ythdnpddfdlhlaaa
