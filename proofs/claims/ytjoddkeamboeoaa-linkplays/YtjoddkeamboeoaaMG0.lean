/- A quiet operation of a region, taken first; three laws by short names. -/
import Derived.Deep.RegionHeld3
import Derived.WalkKit
import Derived.KernelRfl
import Derived.Below
namespace Go.Proofs.Ytjoddkeamboeoaa
open Go.RowKit
theorem tkH {P : Program} {md : Region.Mode} {ops : Array Oper} {Q : Exit → Act → World → Prop} {S : World → Prop} {i : Nat} {oi : Oper} {v : Value} {fuel : Nat} {listed : Array Bool} {a : Act} {w : World} (hi : ops[i]? = some oi) (hy : ∀ W, S W → (execOp a.eval oi).run P W = .ok (.value v) W) (hS : S w)
    (h : wpAnyH P md ops Q S fuel (listed.setIfInBounds i true) (a.put oi.dst v) w)
    (hs : Region.noSelect ops = true := by kernel_rfl) (hf : Region.free md ops listed i = true := by kernel_rfl) (hr : (Region.ready md ops listed).contains i = true := by kernel_rfl)
    (hQ : ∀ c a w, Q (.panic c) (a.put oi.dst v) w → Q (.panic c) a w := by exact fun _ _ _ h => h) (hg : Region.wanted oi (yielded ops a.tmps) = true := by rfl) : wpAnyH P md ops Q S (fuel + 1) listed a w :=
  wpAnyH_take hi hs hf hr hQ (Or.inl ⟨hg, hy⟩) hS h
theorem rdH {P : Program} {md : Region.Mode} {ops : Array Oper} {Q : Exit → Act → World → Prop} {S : World → Prop} {k : Nat} {o : Oper} {fuel : Nat} {listed : Array Bool} {a : Act} {w : World} (ho : ops[k]? = some o)
    (h : ∀ K' : Act → World → Prop, Shut (∀ (a : Act) (w : World), S w → (S w → wpAnyH P md ops Q S fuel (listed.setIfInBounds k true) a w) → K' a w) → if Region.wanted o (yielded ops a.tmps) = true then Oper.wp P o a w K' Q else K' (a.put o.dst undef) w)
    (hr : Region.ready md ops listed = [k] := by kernel_rfl) : wpAnyH P md ops Q S (fuel + 1) listed a w :=
  wpAnyH_ready hr (by simp) (AllReadyH.cons ho h AllReadyH.nil)
theorem eX.{u} {α : Sort u} (a : α) : ∃ x, x = a := ⟨a, rfl⟩
theorem zIB {α : Type} (l : List α) (i : Nat) (a : α) : l.toArray.setIfInBounds i a = (l.set i a).toArray := List.setIfInBounds_toArray l i a
theorem zSZ {α : Type} (x : α) (l : List α) (a : α) : (x :: l).set 0 a = a :: l := List.set_cons_zero
theorem zSS {α : Type} (x : α) (l : List α) (i : Nat) (a : α) : (x :: l).set (i + 1) a = x :: l.set i a := List.set_cons_succ
theorem zA {p : Prop} (h : p) : Hid p := h
theorem zB : ∀ (B : Nat) (w : World), Below B w w := @Below.refl
theorem zC : ∀ (n : Nat), n ≤ n := @Nat.le_refl
theorem zD.{u_1} : ∀ {α : Type u_1} {l : List α} {i : Nat} (h : i < List.length l), l[i]? = some l[i] := @List.getElem?_eq_getElem
theorem zE.{u_1} : ∀ {α : Type u_1} {as bs : List α}, List.length (as ++ bs) = List.length as + List.length bs := @List.length_append
theorem zF : ∀ {n m k : Nat}, n < m → m ≤ k → n < k := @Nat.lt_of_lt_of_le
theorem zG.{u_1} : ∀ {α : Type u_1} {i : Nat} {a : α} {l : List α}, l[i]? = some a ↔ ∃ h, l[i] = a := @List.getElem?_eq_some_iff
theorem zH.{u_1} : ∀ {α : Type u_1} {xs : Array α} {i : Nat} {f : α → α} {j : Nat}, (Array.modify xs i f)[j]? = if i = j then Option.map f xs[j]? else xs[j]? := @Array.getElem?_modify
theorem zI.{u_1} : ∀ {α : Type u_1} {i : Nat} {l : List α}, List.length l ≤ i → List.take i l = l := @List.take_of_length_le
theorem zJ.{u_1} : ∀ {α : Type u_1} {l : List α} {i : Nat} {a : α}, l[i]? = some a → a ∈ l := @List.mem_of_getElem?
theorem zK : ∀ (w : World) (a : Addr) (u : Value) (k : Nat), k ≠ a.block → (World.setCell w a u).heap[k]? = w.heap[k]? := @Below.heap_setCell
theorem zM : ∀ {p : Prop} [Decidable p], p → decide p = true := @decide_eq_true
theorem zN.{u_1} : ∀ {α : Type u_1} {i : Nat} {l : List α}, List.length (List.drop i l) = List.length l - i := @List.length_drop
theorem zO : ∀ (n : Nat), 0 ≤ n := @Nat.zero_le
theorem zP.{u_1, u_2} : ∀ {α : Type u_1} {β : Type u_2} {f : α → β} {l : List α} {i : Nat}, (List.map f l)[i]? = Option.map f l[i]? := @List.getElem?_map
theorem zQ.{u_1} : ∀ {α : Type u_1} {i : Nat} {l : List α}, List.length (List.take i l) = min i (List.length l) := @List.length_take
theorem zR.{u_1} : ∀ {α : Type u_1} {a : α} {as : List α}, List.length (a :: as) = List.length as + 1 := @List.length_cons
theorem zS : ∀ {n m k : Nat}, n ≤ m → m ≤ k → n ≤ k := @Nat.le_trans
theorem zT.{u_1} : ∀ {α : Type u_1} {l₁ l₂ : List α} {i : Nat}, List.length l₁ ≤ i → (l₁ ++ l₂)[i]? = l₂[i - List.length l₁]? := @List.getElem?_append_right
theorem zU.{u_1} : ∀ {α : Type u_1} {l : List α}, List.length l = 0 ↔ l = [] := @List.length_eq_zero_iff
theorem zV.{u_1} : ∀ {α : Type u_1} {l₁ l₂ : List α} {i : Nat}, i < List.length l₁ → (l₁ ++ l₂)[i]? = l₁[i]? := @List.getElem?_append_left
theorem zW.{u_1} : ∀ {α : Type u_1} {l : List α} {i : Nat}, List.take (i + 1) l = List.take i l ++ Option.toList l[i]? := @List.take_add_one
theorem zX.{u_1} : ∀ {α : Type u_1} {a b : α}, a ∈ [b] ↔ a = b := @List.mem_singleton
theorem zY.{u_1} : ∀ {α : Type u_1} (a : α), Option.toList (some a) = [a] := @Option.toList_some
theorem zZ.{u_1} : ∀ {α : Type u_1} {a : α} {s t : List α}, a ∈ s ++ t ↔ a ∈ s ∨ a ∈ t := @List.mem_append
theorem yA : ∀ (n : Nat), n + 0 = n := @Nat.add_zero
end Go.Proofs.Ytjoddkeamboeoaa
