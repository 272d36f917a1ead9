/- Lists that the document's walk keeps: what can be read of them, cut out of them, put behind another. -/
import Derived.Test.YtiabnjjdeikefaaSLike
import Derived.Test.YtiabnjjdeikefaaVAre
import Derived.Maps.AppendAt
namespace Go.Proofs.Ytiabnjjdeikefaa
open Go.RowKit Go.Shelf

theorem addr_add (g i j : Nat) : (⟨g, i, none⟩ : Addr).add j = ⟨g, i + j, none⟩ := by
  unfold Addr.add
  split <;> simp_all
/-- 'append(v, list...)': the list may be nil, empty or of any length. -/
theorem run_append_many {w : World} {B n k : Nat} {v : Value} {xs : List Value} {t e : TypeId} {i0 : TypeInfo} {z : Value} {bytes : Nat} (ht : Try.prog.underlying t = some (.slice e)) (hi : Try.prog.info? e = some i0) (hz0 : i0.zero = some z) (hz1 : i0.size = k) (hz2 : i0.bytes = bytes) (hz3 : z.cells.size = k) (hk : 0 < k)
    (hown : w.ownsRow B e k v n xs) (ao : Option Addr) (us : List Value) (m cap : Nat) (hm : us.length = m * k) (hnone : ao = none → m = 0 ∧ cap = 0) (hc : ∀ ad, ao = some ad → ∀ j u, us[j]? = some u → w.cell? (ad.add j) = some u) (h1 : ∀ u ∈ us, u.oneCell' = true)
    (h63 : n + m ≤ maxLen) (hb : (n + m) * bytes ≤ 140737488355328) (hB : B ≤ w.heap.size) (ty : TypeId) :
    ∃ v' w', (Builtin.append_ #[t, t] ty #[v, .slice ao m cap]).run Try.prog w = .ok v' w' ∧ w'.ownsRow B e k v' (n + m) (xs ++ us) ∧ w.grownBy w' v.ownBlock := by
  cases ao with
  | some ad =>
    obtain ⟨v', w', hr, h2, h3, _, _⟩ := run_append_own_at (P := Try.prog) w B t ty e i0 z k bytes ht hi hz0 hz1 hz2 hz3 hk v n xs hown ad m cap us hm (hc ad rfl) h1 h63 hb hB
    exact ⟨v', w', hr, h2, h3⟩
  | none =>
    obtain ⟨rfl, rfl⟩ := hnone rfl
    have e0 : us = [] := List.length_eq_zero_iff.1 (by omega)
    subst e0
    have hrun := run_append_owned_none (P := Try.prog) w B t ty e i0 k ht hi v n xs hown
    exact ⟨v, w, hrun, by simpa using hown, World.grownBy.refl _ _⟩
/-- The operation, for a walk. -/
theorem wpList_append_many {w : World} {ops : Array Oper} {rest : List Oper} {o : Oper} {a : Act} {Q : Exit → Act → World → Prop} (hgd : o.guard = none) (sl x : Operand) {t : TypeId}
    (ho : o.op = .call { callee := .builtin .append, args := #[sl, x], argTypes := #[t, t] })
    {B n k : Nat} {v : Value} {xs : List Value} {e : TypeId} {i0 : TypeInfo} {z : Value} {bytes : Nat} (ht : Try.prog.underlying t = some (.slice e)) (hi : Try.prog.info? e = some i0) (hz0 : i0.zero = some z) (hz1 : i0.size = k) (hz2 : i0.bytes = bytes) (hz3 : z.cells.size = k) (hk : 0 < k)
    (hs : a.eval sl = v) (hown : w.ownsRow B e k v n xs) (ao : Option Addr) (us : List Value) (m cap : Nat) (hx : a.eval x = .slice ao m cap) (hm : us.length = m * k) (hnone : ao = none → m = 0 ∧ cap = 0) (hc : ∀ ad, ao = some ad → ∀ j u, us[j]? = some u → w.cell? (ad.add j) = some u) (h1 : ∀ u ∈ us, u.oneCell' = true)
    (h63 : n + m ≤ maxLen) (hb : (n + m) * bytes ≤ 140737488355328) (hB : B ≤ w.heap.size)
    (h : ∀ v' w', w'.ownsRow B e k v' (n + m) (xs ++ us) → w.grownBy w' v.ownBlock → wpList Try.prog ops Q rest (a.put o.dst v') w') : wpList Try.prog ops Q (o :: rest) a w := by
  refine wpList_plain hgd fun K hK => ?_
  obtain ⟨v', w', hr, h2, h3⟩ := run_append_many ht hi hz0 hz1 hz2 hz3 hk hown ao us m cap hm hnone hc h1 h63 hb hB o.type
  unfold Oper.wp execOp
  simp only [ho, resolve, invoke, builtin, Sem.run_bind, Sem.run_pure, Result.andThen_ok, List.map_toArray, List.map_cons, List.map_nil, hs, hx, hr]
  exact hK _ _ (h v' w' h2 h3)

section
variable {α : Type} {enc : α → List Value} {k : Nat}
/-- A slice that can be read, cut and put behind another. -/
structure SlC (enc : α → List Value) (k : Nat) (S : Nat → Prop) (w : World) (v : Value) (L : List α) : Prop where
  sl : SlS enc k S w v L
  form : (v = .slice none 0 0 ∧ L = []) ∨ ∃ g off c, v = .slice (some ⟨g, off, none⟩) L.length c ∧ L.length ≤ c
section
variable {S T : Nat → Prop} {w w' : World} {v : Value} {L : List α}
theorem SlC.keep (h : SlC enc k S w v L) (hz : w.heap.size ≤ w'.heap.size) (hk : ∀ b, S b → b < w.heap.size → T b ∧ w'.heap[b]? = w.heap[b]?) : SlC enc k T w' v L := ⟨h.sl.keep hz hk, h.form⟩
theorem SlC.below (h : SlC enc k S w v L) (hb : Below w.heap.size w w') : SlC enc k S w' v L := ⟨h.sl.below hb, h.form⟩
theorem SlC.fr (h : SlC enc k S w v L) (hf : Fr S w w') : SlC enc k S w' v L := ⟨h.sl.fr hf, h.form⟩
theorem SlC.plus (h : SlC enc k S w v L) (hb : Below w.heap.size w w') : SlC enc k (Plus S w.heap.size w'.heap.size) w' v L := ⟨h.sl.plus hb, h.form⟩
theorem SlC.sub (h : SlC enc k S w v L) (hs : ∀ b, S b → b < w.heap.size → T b) : SlC enc k T w v L := ⟨h.sl.sub hs, h.form⟩
theorem SlC.nil (S : Nat → Prop) (w : World) : SlC enc k S w (.slice none 0 0) ([] : List α) := ⟨SlS.nil _ _, .inl ⟨rfl, rfl⟩⟩
end
theorem own_slc (hk : ∀ x, (enc x).length = k) {w : World} {B n : Nat} {e : TypeId} {v : Value} {L : List α} (h : w.ownsRow B e k v n (L.flatMap enc)) (hn : n = L.length) : SlC enc k (fun g => B ≤ g ∧ g < w.heap.size) w v L := by
  refine ⟨(own_sl hk h hn).sub (fun g hg _ => h.lt g hg), ?_⟩
  rcases h.2 with ⟨rfl, h1⟩ | ⟨g, cap, cur, rfl, _, _, hcap, _⟩
  · exact .inl ⟨rfl, List.length_eq_zero_iff.1 (by omega)⟩
  · subst hn
    exact .inr ⟨g, 0, cap, rfl, by omega⟩
theorem SlC.cells (hk : ∀ x, (enc x).length = k) (hk0 : 0 < k) {S : Nat → Prop} {w : World} {ao : Option Addr} {n c : Nat} {L : List α} (h : SlC enc k S w (.slice ao n c) L) : ∀ ad, ao = some ad → ∀ j u, (L.flatMap enc)[j]? = some u → w.cell? (ad.add j) = some u := by
  intro ad e j u hu
  subst e
  obtain ⟨ao', cap', e1, h2⟩ := h.sl
  injection e1 with e1 e2 e3
  subst e1
  rcases h2 with rfl | ⟨g, off, e4, _, _, hc⟩
  · simp at hu
  · obtain rfl := Option.some.inj e4
    have hj := (List.getElem?_eq_some_iff.1 hu).1
    rw [flat_len hk] at hj
    have hq : j / k < L.length := (Nat.div_lt_iff_lt_mul hk0).2 hj
    have hx := List.getElem?_eq_getElem hq
    have hr : j % k < k := Nat.mod_lt _ hk0
    have hjd : j / k * k + j % k = j := by rw [Nat.mul_comm]; exact Nat.div_add_mod j k
    have := flat_at hk L (j / k) (j % k) _ hx hr
    rw [hjd, hu] at this
    rw [addr_add, show off + j = off + j / k * k + j % k by omega]
    exact hc (j / k) _ hx (j % k) u this.symm
theorem SlC.none_ {S : Nat → Prop} {w : World} {ao : Option Addr} {n c : Nat} {L : List α} (h : SlC enc k S w (.slice ao n c) L) : ao = none → n = 0 ∧ c = 0 := by
  intro e
  rcases h.form with ⟨h1, _⟩ | ⟨g, off, c', h1, _⟩
  · injection h1 with _ h2 h3; exact ⟨h2, h3⟩
  · injection h1 with h2; rw [e] at h2; cases h2
end

theorem sizeT3 (w : World) : (Go.sizeOf 25).run Try.prog w = .ok 3 w := by kernel_rfl
/-- 'l[:k]' and 'l[k:]'. -/
theorem tris_cut {S : Nat → Prop} {w : World} {ao : Option Addr} {n cap : Nat} {L : List Tri} (h : SlC cs3 3 S w (.slice ao n cap) L) (hn : n = L.length) {k : Nat} (hk : k ≤ n) :
    (∃ aa cc, (∀ w', (Instr.slice 34 (.slice ao n cap) none (some (.int .i64 (k : Int))) none).run Try.prog w' = .ok (.slice aa k cc) w') ∧ SlC cs3 3 S w (.slice aa k cc) (L.take k)) ∧
    (∃ aa cc, (∀ w', (Instr.slice 34 (.slice ao n cap) (some (.int .i64 (k : Int))) none none).run Try.prog w' = .ok (.slice aa (n - k) cc) w') ∧ SlC cs3 3 S w (.slice aa (n - k) cc) (L.drop k)) := by
  have helem : Try.prog.elem 34 = 25 := by kernel_rfl
  have ht : Try.prog.underlying 34 = some (.slice (Try.prog.elem 34)) := by rw [helem]; exact Try.underlying34
  have hsz : ∀ w', (sizeOf (Try.prog.elem 34)).run Try.prog w' = .ok 3 w' := fun w' => by rw [helem]; exact sizeT3 w'
  have lt : (L.take k).length = k := by rw [List.length_take, Nat.min_eq_left (by omega)]
  have ld : (L.drop k).length = n - k := by rw [List.length_drop, hn]
  rcases h.form with ⟨e0, h0⟩ | ⟨g, off, c, e0, hcap⟩
  · injection e0 with e1 e2 e3
    subst e1 e2 e3 h0
    have hk0 : k = 0 := by omega
    subst hk0
    refine ⟨⟨none, 0, fun w' => ?_, SlC.nil _ _⟩, ⟨none, 0, fun w' => ?_, SlC.nil _ _⟩⟩
    · rw [run_slice_h w' _ none 0 0 ht .i64 ((0 : Nat) : Int) (by omega) (by omega), hsz]
      simp [sliced, Result.andThen]
    · rw [run_slice_l w' _ none 0 0 ht .i64 ((0 : Nat) : Int) (by omega) (by omega), hsz]
      simp [sliced, Result.andThen]
  · injection e0 with e1 e2 e3
    subst e1 e3
    have hcn : n ≤ cap := by omega
    refine ⟨⟨some ⟨g, off, none⟩, cap, fun w' => ?_, ⟨⟨_, cap, by rw [lt], ?_⟩, .inr ⟨g, off, cap, by rw [lt], by rw [lt]; omega⟩⟩⟩, ⟨some (if cap = k then ⟨g, off, none⟩ else ⟨g, off + k * 3, none⟩), cap - k, fun w' => ?_, ⟨⟨_, cap - k, by rw [ld], ?_⟩, ?_⟩⟩⟩
    · rw [run_slice_h w' _ _ n cap ht .i64 (k : Int) (by omega) (by omega), hsz]
      simp [sliced, Result.andThen, addr_add]
    · obtain ⟨ao', cap', e1, h2⟩ := h.sl
      injection e1 with e1 _ _
      subst e1
      rcases h2 with rfl | ⟨g', off', e4, hs, hl, hc⟩
      · exact .inl (by simp)
      · refine .inr ⟨g', off', e4, hs, hl, fun j x hx => hc j x ?_⟩
        have := (List.getElem?_eq_some_iff.1 hx).1
        rw [lt] at this
        rw [List.getElem?_take_of_lt this] at hx
        exact hx
    · rw [run_slice_l w' _ _ n cap ht .i64 (k : Int) (by omega) (by omega), hsz]
      by_cases hc : cap = k
      · simp [sliced, Result.andThen, hc]
      · simp [sliced, Result.andThen, hc, addr_add]
    · by_cases hc : n = k
      · exact .inl (List.length_eq_zero_iff.1 (by omega))
      · rw [if_neg (by omega)]
        obtain ⟨ao', cap', e1, h2⟩ := h.sl
        injection e1 with e1 _ _
        subst e1
        rcases h2 with rfl | ⟨g', off', e4, hs, hl, hc⟩
        · exact .inl (by simp)
        · obtain ⟨rfl, rfl⟩ : g = g' ∧ off = off' := by
            have := Option.some.inj e4
            injection this with a b _
            exact ⟨a, b⟩
          refine .inr ⟨g, off + k * 3, rfl, hs, hl, fun j x hx c u hu => ?_⟩
          rw [List.getElem?_drop] at hx
          rw [show off + k * 3 + j * 3 + c = off + (k + j) * 3 + c by omega]
          exact hc (k + j) x hx c u hu
    · rw [ld]
      by_cases hc : cap = k
      · rw [if_pos hc]; exact .inr ⟨g, off, cap - k, rfl, by omega⟩
      · rw [if_neg hc]; exact .inr ⟨g, off + k * 3, cap - k, rfl, by omega⟩
theorem one_cs3 (L : List Tri) : ∀ u ∈ L.flatMap cs3, u.oneCell' = true := by
  intro u hu
  obtain ⟨t, _, ht⟩ := List.mem_flatMap.1 hu
  simp [cs3] at ht
  rcases ht with rfl | rfl | rfl <;> rfl
end Go.Proofs.Ytiabnjjdeikefaa
