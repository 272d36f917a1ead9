/- Lists put behind lists: 'append(v, list...)' for elements of any size; slices that are cut out of rows. -/
import Derived.Test.YtfocpjplokabgaaPSame
import Derived.Maps.AppendAt
namespace Go.Proofs.Ytfocpjplokabgaa
open Go.RowKit Go.Shelf

/-- 'append(v, list...)': the list may be nil, empty or of any length. -/
theorem run_append_many {w : World} {B n k : Nat} {v : Value} {xs : List Value} {t e : TypeId} {i0 : TypeInfo} {z : Value} {bytes : Nat} (ht : Try.prog.underlying t = some (.slice e)) (hi : Try.prog.info? e = some i0) (hz0 : i0.zero = some z) (hz1 : i0.size = k) (hz2 : i0.bytes = bytes) (hz3 : z.cells.size = k) (hk : 0 < k)
    (hown : w.ownsRow B e k v n xs) (ao : Option Addr) (us : List Value) (m cap : Nat) (hm : us.length = m * k) (hnone : ao = none → m = 0 ∧ cap = 0) (hc : ∀ ad, ao = some ad → ∀ j u, us[j]? = some u → w.cell? (ad.add j) = some u) (h1 : ∀ u ∈ us, u.oneCell' = true)
    (h63 : n + m ≤ maxLen) (hb : (n + m) * bytes ≤ 140737488355328) (hB : B ≤ w.heap.size) (ty : TypeId) :
    ∃ v' w', (Builtin.append_ #[t, t] ty #[v, .slice ao m cap]).run Try.prog w = .ok v' w' ∧ w'.ownsRow B e k v' (n + m) (xs ++ us) ∧ w.grownBy w' v.ownBlock := by
  cases ao with
  | some ad =>
    obtain ⟨v', w', hr, h2, h3, _, _⟩ := run_append_own_at (P := Try.prog) w B t ty e i0 z k bytes ht hi hz0 hz1 hz2 hz3 hk v n xs hown ad m cap us hm (hc ad rfl) h1 h63 hb hB
    exact ⟨v', w', hr, h2, h3⟩
  | none =>
    obtain ⟨rfl, rfl⟩ := hnone rfl
    have e0 : us = [] := List.length_eq_zero_iff.1 (by omega)
    subst e0
    have hrun := run_append_owned_none (P := Try.prog) w B t ty e i0 k ht hi v n xs hown
    exact ⟨v, w, hrun, by simpa using hown, World.grownBy.refl _ _⟩
/-- The operation, for a walk. -/
theorem wpList_append_many {w : World} {ops : Array Oper} {rest : List Oper} {o : Oper} {a : Act} {Q : Exit → Act → World → Prop} (hgd : o.guard = none) (sl x : Operand) {t : TypeId}
    (ho : o.op = .call { callee := .builtin .append, args := #[sl, x], argTypes := #[t, t] })
    {B n k : Nat} {v : Value} {xs : List Value} {e : TypeId} {i0 : TypeInfo} {z : Value} {bytes : Nat} (ht : Try.prog.underlying t = some (.slice e)) (hi : Try.prog.info? e = some i0) (hz0 : i0.zero = some z) (hz1 : i0.size = k) (hz2 : i0.bytes = bytes) (hz3 : z.cells.size = k) (hk : 0 < k)
    (hs : a.eval sl = v) (hown : w.ownsRow B e k v n xs) (ao : Option Addr) (us : List Value) (m cap : Nat) (hx : a.eval x = .slice ao m cap) (hm : us.length = m * k) (hnone : ao = none → m = 0 ∧ cap = 0) (hc : ∀ ad, ao = some ad → ∀ j u, us[j]? = some u → w.cell? (ad.add j) = some u) (h1 : ∀ u ∈ us, u.oneCell' = true)
    (h63 : n + m ≤ maxLen) (hb : (n + m) * bytes ≤ 140737488355328) (hB : B ≤ w.heap.size)
    (h : ∀ v' w', w'.ownsRow B e k v' (n + m) (xs ++ us) → w.grownBy w' v.ownBlock → wpList Try.prog ops Q rest (a.put o.dst v') w') : wpList Try.prog ops Q (o :: rest) a w := by
  refine wpList_plain hgd fun K hK => ?_
  obtain ⟨v', w', hr, h2, h3⟩ := run_append_many ht hi hz0 hz1 hz2 hz3 hk hown ao us m cap hm hnone hc h1 h63 hb hB o.type
  unfold Oper.wp execOp
  simp only [ho, resolve, invoke, builtin, Sem.run_bind, Sem.run_pure, Result.andThen_ok, List.map_toArray, List.map_cons, List.map_nil, hs, hx, hr]
  exact hK _ _ (h v' w' h2 h3)

theorem ownsRow_base {w : World} {B C n k : Nat} {e : TypeId} {v : Value} {xs : List Value} (h : w.ownsRow B e k v n xs) (hC : C ≤ B) : w.ownsRow C e k v n xs := by
  refine ⟨h.1, ?_⟩
  rcases h.2 with h0 | ⟨g, cap, cur, e1, e2, e3⟩
  · exact .inl h0
  · exact .inr ⟨g, cap, cur, e1, Nat.le_trans hC e2, e3⟩
theorem ownsRow_below {w w' : World} {B n k : Nat} {e : TypeId} {v : Value} {xs : List Value} (h : w.ownsRow B e k v n xs) (hb : Below w.heap.size w w') : w'.ownsRow B e k v n xs :=
  owns_key h (fun g _ hg ho => (hb.block g (h.lt g hg).2).trans ho)

/-- A part of a row that is owned: what can be read of it. -/
structure Cut (w : World) (k : Nat) (us : List Value) (aa : Option Addr) (m cc : Nat) : Prop where
  len : us.length = m * k
  none_ : aa = none → m = 0 ∧ cc = 0
  cell : ∀ ad, aa = some ad → ∀ j u, us[j]? = some u → w.cell? (ad.add j) = some u ∧ ad.block < w.heap.size
theorem addr_add (g i j : Nat) : (⟨g, i, none⟩ : Addr).add j = ⟨g, i + j, none⟩ := by
  unfold Addr.add
  split <;> simp_all
theorem Cut.below {w w' : World} {k m cc : Nat} {us : List Value} {aa : Option Addr} (h : Cut w k us aa m cc) (hb : Below w.heap.size w w') : Cut w' k us aa m cc :=
  ⟨h.len, h.none_, fun ad e j u hu => by
    obtain ⟨h1, h2⟩ := h.cell ad e j u hu
    refine ⟨?_, Nat.lt_of_lt_of_le h2 hb.size⟩
    rw [hb.cell (p := ad.add j) (by rw [show (ad.add j).block = ad.block by unfold Addr.add; split <;> rfl]; exact h2)]
    exact h1⟩
theorem Cut.reads {w : World} {k m cc : Nat} {us : List Value} {aa : Option Addr} (h : Cut w k us aa m cc) : ∀ ad, aa = some ad → ∀ j u, us[j]? = some u → w.cell? (ad.add j) = some u := fun ad e j u hu => (h.cell ad e j u hu).1

theorem rowCs_append (a b : List R3) : rowCs (a ++ b) = rowCs a ++ rowCs b := by simp [rowCs]
/-- 'out[:k]' and 'out[k:]' of rows. -/
theorem rows_cut {w : World} {B : Nat} {ao : Option Addr} {n cap : Nat} {out : List R3} (h : w.ownsRow B 23 3 (.slice ao n cap) n (rowCs out)) {k : Nat} (hk : k ≤ n) :
    (∃ aa cc, (∀ w', (Instr.slice 22 (.slice ao n cap) none (some (.int .i64 (k : Int))) none).run Try.prog w' = .ok (.slice aa k cc) w') ∧ Cut w 3 (rowCs (out.take k)) aa k cc) ∧
    (∃ aa cc, (∀ w', (Instr.slice 22 (.slice ao n cap) (some (.int .i64 (k : Int))) none none).run Try.prog w' = .ok (.slice aa (n - k) cc) w') ∧ Cut w 3 (rowCs (out.drop k)) aa (n - k) cc) := by
  have hlen : out.length = n := by have := h.1; rw [rowCs_len] at this; omega
  have helem : Try.prog.elem 22 = 23 := by kernel_rfl
  have ht : Try.prog.underlying 22 = some (.slice (Try.prog.elem 22)) := by rw [helem]; exact Try.underlying22
  have hsz : ∀ w', (sizeOf (Try.prog.elem 22)).run Try.prog w' = .ok 3 w' := fun w' => by rw [helem]; exact sizeR w'
  have e2 : rowCs out = rowCs (out.take k) ++ rowCs (out.drop k) := by rw [← rowCs_append, List.take_append_drop]
  have l1 : (rowCs (out.take k)).length = k * 3 := by rw [rowCs_len, List.length_take, Nat.min_eq_left (by omega)]
  have l2 : (rowCs (out.drop k)).length = (n - k) * 3 := by rw [rowCs_len, List.length_drop, hlen]
  rcases h.2 with ⟨e0, h0⟩ | ⟨g, cap2, cur, e0, hg, hgb, hcap, _⟩
  · injection e0 with e1 _ e3
    subst e1 e3 h0
    have hk0 : k = 0 := by omega
    subst hk0
    refine ⟨⟨none, 0, fun w' => ?_, l1, fun _ => ⟨rfl, rfl⟩, fun ad e => by cases e⟩, ⟨none, 0, fun w' => ?_, l2, fun _ => ⟨rfl, rfl⟩, fun ad e => by cases e⟩⟩
    · rw [run_slice_h w' _ none 0 0 ht .i64 ((0 : Nat) : Int) (by omega) (by omega), hsz]
      simp [sliced, Result.andThen]
    · rw [run_slice_l w' _ none 0 0 ht .i64 ((0 : Nat) : Int) (by omega) (by omega), hsz]
      simp [sliced, Result.andThen]
  · injection e0 with e1 _ e3
    subst e1 e3
    have hgl := lt_of_block hgb
    have rd : ∀ j u, (rowCs out)[j]? = some u → w.cell? ⟨g, j, none⟩ = some u := fun j u hu => by
      have hj := (List.getElem?_eq_some_iff.1 hu).1
      rw [rowCs_len, hlen] at hj
      rw [h.cellAt j hj]
      exact hu
    refine ⟨⟨some ⟨g, 0, none⟩, cap, fun w' => ?_, l1, (fun e => by cases e), fun ad e j u hu => ?_⟩, ⟨some (if cap = k then ⟨g, 0, none⟩ else ⟨g, k * 3, none⟩), cap - k, fun w' => ?_, l2, (fun e => by cases e), fun ad e j u hu => ?_⟩⟩
    · rw [run_slice_h w' _ _ n cap ht .i64 (k : Int) (by omega) (by omega), hsz]
      simp [sliced, Result.andThen, addr_add]
    · obtain rfl := Option.some.inj e
      refine ⟨?_, hgl⟩
      rw [addr_add, Nat.zero_add]
      refine rd j u ?_
      rw [e2, List.getElem?_append_left (List.getElem?_eq_some_iff.1 hu).1]
      exact hu
    · rw [run_slice_l w' _ _ n cap ht .i64 (k : Int) (by omega) (by omega), hsz]
      by_cases hc : cap = k
      · simp [sliced, Result.andThen, hc]
      · simp [sliced, Result.andThen, hc, addr_add]
    · obtain rfl := Option.some.inj e
      have hj := (List.getElem?_eq_some_iff.1 hu).1
      rw [l2] at hj
      rw [if_neg (by omega)]
      refine ⟨?_, hgl⟩
      rw [addr_add]
      refine rd _ u ?_
      rw [e2, List.getElem?_append_right (by omega), l1, Nat.add_sub_cancel_left]
      exact hu
end Go.Proofs.Ytfocpjplokabgaa
