/- A quiet operation of a region, taken first; three laws by short names. -/
import Derived.Deep.RegionHeld3
import Derived.WalkKit
import Derived.KernelRfl
import Derived.Below
namespace Go.Proofs.YtdalcipmpelifaaGreatDoor
open Go.RowKit
theorem tkH {P : Program} {md : Region.Mode} {ops : Array Oper} {Q : Exit → Act → World → Prop} {S : World → Prop} {i : Nat} {oi : Oper} {v : Value} {fuel : Nat} {listed : Array Bool} {a : Act} {w : World} (hi : ops[i]? = some oi) (hy : ∀ W, S W → (execOp a.eval oi).run P W = .ok (.value v) W) (hS : S w)
    (h : wpAnyH P md ops Q S fuel (listed.setIfInBounds i true) (a.put oi.dst v) w)
    (hs : Region.noSelect ops = true := by kernel_rfl) (hf : Region.free md ops listed i = true := by kernel_rfl) (hr : (Region.ready md ops listed).contains i = true := by kernel_rfl)
    (hQ : ∀ c a w, Q (.panic c) (a.put oi.dst v) w → Q (.panic c) a w := by exact fun _ _ _ h => h) (hg : Region.wanted oi (yielded ops a.tmps) = true := by rfl) : wpAnyH P md ops Q S (fuel + 1) listed a w :=
  wpAnyH_take hi hs hf hr hQ (Or.inl ⟨hg, hy⟩) hS h
theorem rdH {P : Program} {md : Region.Mode} {ops : Array Oper} {Q : Exit → Act → World → Prop} {S : World → Prop} {k : Nat} {o : Oper} {fuel : Nat} {listed : Array Bool} {a : Act} {w : World} (ho : ops[k]? = some o)
    (h : ∀ K' : Act → World → Prop, Shut (∀ (a : Act) (w : World), S w → (S w → wpAnyH P md ops Q S fuel (listed.setIfInBounds k true) a w) → K' a w) → if Region.wanted o (yielded ops a.tmps) = true then Oper.wp P o a w K' Q else K' (a.put o.dst undef) w)
    (hr : Region.ready md ops listed = [k] := by kernel_rfl) : wpAnyH P md ops Q S (fuel + 1) listed a w :=
  wpAnyH_ready hr (by simp) (AllReadyH.cons ho h AllReadyH.nil)
theorem eX.{u} {α : Sort u} (a : α) : ∃ x, x = a := ⟨a, rfl⟩
theorem zIB {α : Type} (l : List α) (i : Nat) (a : α) : l.toArray.setIfInBounds i a = (l.set i a).toArray := List.setIfInBounds_toArray l i a
theorem zSZ {α : Type} (x : α) (l : List α) (a : α) : (x :: l).set 0 a = a :: l := List.set_cons_zero
theorem zSS {α : Type} (x : α) (l : List α) (i : Nat) (a : α) : (x :: l).set (i + 1) a = x :: l.set i a := List.set_cons_succ
theorem zA {p : Prop} (h : p) : Hid p := h
theorem zB.{u_1} : ∀ {α : Type u_1} {l : List α} {i : Nat} (h : i < List.length l), l[i]? = some l[i] := @List.getElem?_eq_getElem
theorem zC.{u_1} : ∀ {α : Type u_1} {l : List α} {i : Nat} {a : α}, l[i]? = some a → a ∈ l := @List.mem_of_getElem?
theorem zD : ∀ (n : Nat), n ≤ n := @Nat.le_refl
theorem zE.{u_1} : ∀ {α : Type u_1} {i : Nat} {a : α} {l : List α}, l[i]? = some a ↔ ∃ h, l[i] = a := @List.getElem?_eq_some_iff
theorem zF : ∀ (B : Nat) (w : World), Below B w w := @Below.refl
theorem zG.{u_1} : ∀ {α : Type u_1} {as bs : List α}, List.length (as ++ bs) = List.length as + List.length bs := @List.length_append
theorem zH.{u_1, u_2} : ∀ {α : Type u_1} {β : Type u_2} {as : List α} (f : α → β), List.length (List.map f as) = List.length as := @List.length_map
theorem zI.{u_1, u_2} : ∀ {α : Type u_1} {β : Type u_2} {f : α → β} {l : List α} {i : Nat}, (List.map f l)[i]? = Option.map f l[i]? := @List.getElem?_map
theorem zJ.{u_1} : ∀ {α : Type u_1} {a b : α}, a ∈ [b] ↔ a = b := @List.mem_singleton
theorem zK.{u_1} : ∀ {α : Type u_1} {i : Nat} {l : List α}, List.length l ≤ i → List.take i l = l := @List.take_of_length_le
theorem zL.{u_1} : ∀ {α : Type u_1} {a : α} {l : List α}, a ∈ a :: l := @List.mem_cons_self
theorem zM : ∀ (w : World) (a : Addr) (u : Value) (k : Nat), k ≠ a.block → (World.setCell w a u).heap[k]? = w.heap[k]? := @Below.heap_setCell
theorem zN.{u_1} : ∀ {α : Type u_1} {a : α} {s t : List α}, a ∈ s ++ t ↔ a ∈ s ∨ a ∈ t := @List.mem_append
theorem zO : ∀ {n m k : Nat}, n < m → m ≤ k → n < k := @Nat.lt_of_lt_of_le
theorem zP.{u_1} : ∀ {α : Type u_1} (y : α) {a : α} {l : List α}, a ∈ l → a ∈ y :: l := @List.mem_cons_of_mem
theorem zQ : ∀ {n m k : Nat}, n ≤ m → m ≤ k → n ≤ k := @Nat.le_trans
theorem zR.{u_1, u_2} : ∀ {α : Type u_1} {β : Type u_2} {b : β} {f : α → β} {l : List α}, b ∈ List.map f l ↔ ∃ a, a ∈ l ∧ f a = b := @List.mem_map
theorem zS : ∀ (n : Nat), 0 ≤ n := @Nat.zero_le
theorem zT.{u_1} : ∀ {α : Type u_1} {l : List α} {i : Nat}, List.take (i + 1) l = List.take i l ++ Option.toList l[i]? := @List.take_add_one
theorem zU.{u_1, u_2} : ∀ {α : Type u_1} {β : Type u_2} {l : List α} {a : α} {f : α → β}, a ∈ l → f a ∈ List.map f l := @List.mem_map_of_mem
theorem zV.{u_1} : ∀ {α : Type u_1} {p : α → Bool} {as : List α} {x : α}, x ∈ List.filter p as ↔ x ∈ as ∧ p x = true := @List.mem_filter
theorem zW.{u_1} : ∀ {α : Type u_1} {xs : Array α} {i : Nat} {f : α → α} {j : Nat}, (Array.modify xs i f)[j]? = if i = j then Option.map f xs[j]? else xs[j]? := @Array.getElem?_modify
theorem zX.{u_1} : ∀ {α : Type u_1} {b : α} {l : List α} {a : α}, a ∈ b :: l ↔ a = b ∨ a ∈ l := @List.mem_cons
theorem zY.{u_1, u_2} : ∀ {α : Type u_1} {β : Type u_2} {xs ys : List α} {f : α → List β}, List.flatMap f (xs ++ ys) = List.flatMap f xs ++ List.flatMap f ys := @List.flatMap_append
theorem zZ.{u_1} : ∀ {α : Type u_1} {a : α} [BEq α] [EquivBEq α] {l : List α}, a ∈ l → List.idxOf a l < List.length l := @List.idxOf_lt_length_of_mem
theorem yA : ∀ {m n : Nat}, m ∈ List.range n ↔ m < n := @List.mem_range
theorem yB.{u_1} : ∀ {α : Type u_1} {l : List α} {i : Nat}, List.length l ≤ i → l[i]? = none := @List.getElem?_eq_none
theorem yC : ∀ {p : Prop} [Decidable p], p → decide p = true := @decide_eq_true
theorem yD.{u_1} : ∀ {α : Type u_1} (p : α → Bool) (l : List α), List.length (List.filter p l) ≤ List.length l := @List.length_filter_le
theorem yE.{u_1} : ∀ {α : Type u_1} {a : α} {as : List α}, List.length (a :: as) = List.length as + 1 := @List.length_cons
theorem yF : ∀ (n : Nat), n + 0 = n := @Nat.add_zero
theorem yG.{u_1} : ∀ {α : Type u_1} {l : List α}, List.length l = 0 ↔ l = [] := @List.length_eq_zero_iff
theorem yH.{u_1} : ∀ {α : Type u_1} {l₁ l₂ : List α} {i : Nat}, i < List.length l₁ → (l₁ ++ l₂)[i]? = l₁[i]? := @List.getElem?_append_left
theorem yI.{u_1} : ∀ {α : Type u_1} {a : α} {as : List α} (bs : List α), a ∈ as → a ∈ as ++ bs := @List.mem_append_left
theorem yJ.{u_1} : ∀ {α : Type u_1} {p : α → Bool} {l : List α}, List.all l p = true ↔ ∀ (x : α), x ∈ l → p x = true := @List.all_eq_true
theorem yK : ∀ (n : Nat), n * 1 = n := @Nat.mul_one
theorem yL.{u_1} : ∀ {α : Type u_1} {i : Nat} {l : List α}, List.length (List.take i l) = min i (List.length l) := @List.length_take
theorem yM.{u_1} : ∀ {α : Type u_1} {l₁ l₂ : List α} {i : Nat}, List.length l₁ ≤ i → (l₁ ++ l₂)[i]? = l₂[i - List.length l₁]? := @List.getElem?_append_right
theorem yN.{u_1, u_2} : ∀ {α : Type u_1} {β : Type u_2} {a : α} {l : List α} {f : β → α → β} {b : β}, List.foldl f b (a :: l) = List.foldl f (f b a) l := @List.foldl_cons
theorem yO : ∀ {i n : Nat}, i < n → (List.range n)[i]? = some i := @List.getElem?_range
theorem yP.{u_1, u_2} : ∀ {α : Type u_1} {β : Type u_2} {f : α → β} {l₁ l₂ : List α}, List.map f (l₁ ++ l₂) = List.map f l₁ ++ List.map f l₂ := @List.map_append
theorem yQ.{u_1, u_2} : ∀ {α : Type u_1} {l : List α} {α_1 : Type u_2} {f g : α → α_1}, (∀ (a : α), a ∈ l → f a = g a) → List.map f l = List.map g l := @List.map_congr_left
theorem yR.{u_1} : ∀ {α : Type u_1} (a : α), Option.toList (some a) = [a] := @Option.toList_some
theorem yS.{u_1, u_2} : ∀ {α : Type u_1} {β : Type u_2} {x : α} {xs : List α} {f : α → List β}, List.flatMap f (x :: xs) = f x ++ List.flatMap f xs := @List.flatMap_cons
end Go.Proofs.YtdalcipmpelifaaGreatDoor
