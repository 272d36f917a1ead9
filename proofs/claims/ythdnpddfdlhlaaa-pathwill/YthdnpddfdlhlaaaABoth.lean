/- Lists put behind lists: both, cross of the document. -/
import Derived.Test.YthdnpddfdlhlaaaASame
import Derived.Maps.AppendAt
namespace Go.Proofs.Ythdnpddfdlhlaaa
open Go.RowKit Go.Shelf

/-- 'append(v, list...)': the list may be nil, empty or of any length. -/
theorem run_append_many {w : World} {B n k : Nat} {v : Value} {xs : List Value} {t e : TypeId} {i0 : TypeInfo} {z : Value} {bytes : Nat} (ht : Try.prog.underlying t = some (.slice e)) (hi : Try.prog.info? e = some i0) (hz0 : i0.zero = some z) (hz1 : i0.size = k) (hz2 : i0.bytes = bytes) (hz3 : z.cells.size = k) (hk : 0 < k)
    (hown : w.ownsRow B e k v n xs) (ao : Option Addr) (us : List Value) (m cap : Nat) (hm : us.length = m * k) (hnone : ao = none → m = 0 ∧ cap = 0) (hc : ∀ ad, ao = some ad → ∀ j u, us[j]? = some u → w.cell? (ad.add j) = some u) (h1 : ∀ u ∈ us, u.oneCell' = true)
    (h63 : n + m ≤ maxLen) (hb : (n + m) * bytes ≤ 140737488355328) (hB : B ≤ w.heap.size) (ty : TypeId) :
    ∃ v' w', (Builtin.append_ #[t, t] ty #[v, .slice ao m cap]).run Try.prog w = .ok v' w' ∧ w'.ownsRow B e k v' (n + m) (xs ++ us) ∧ w.grownBy w' v.ownBlock := by
  cases ao with
  | some ad =>
    obtain ⟨v', w', hr, h2, h3, _, _⟩ := run_append_own_at (P := Try.prog) w B t ty e i0 z k bytes ht hi hz0 hz1 hz2 hz3 hk v n xs hown ad m cap us hm (hc ad rfl) h1 h63 hb hB
    exact ⟨v', w', hr, h2, h3⟩
  | none =>
    obtain ⟨rfl, rfl⟩ := hnone rfl
    have e0 : us = [] := List.length_eq_zero_iff.1 (by omega)
    subst e0
    have hrun := run_append_owned_none (P := Try.prog) w B t ty e i0 k ht hi v n xs hown
    exact ⟨v, w, hrun, by simpa using hown, World.grownBy.refl _ _⟩
/-- The operation, for a walk. -/
theorem wpList_append_many {w : World} {ops : Array Oper} {rest : List Oper} {o : Oper} {a : Act} {Q : Exit → Act → World → Prop} (hgd : o.guard = none) (sl x : Operand) {t : TypeId}
    (ho : o.op = .call { callee := .builtin .append, args := #[sl, x], argTypes := #[t, t] })
    {B n k : Nat} {v : Value} {xs : List Value} {e : TypeId} {i0 : TypeInfo} {z : Value} {bytes : Nat} (ht : Try.prog.underlying t = some (.slice e)) (hi : Try.prog.info? e = some i0) (hz0 : i0.zero = some z) (hz1 : i0.size = k) (hz2 : i0.bytes = bytes) (hz3 : z.cells.size = k) (hk : 0 < k)
    (hs : a.eval sl = v) (hown : w.ownsRow B e k v n xs) (ao : Option Addr) (us : List Value) (m cap : Nat) (hx : a.eval x = .slice ao m cap) (hm : us.length = m * k) (hnone : ao = none → m = 0 ∧ cap = 0) (hc : ∀ ad, ao = some ad → ∀ j u, us[j]? = some u → w.cell? (ad.add j) = some u) (h1 : ∀ u ∈ us, u.oneCell' = true)
    (h63 : n + m ≤ maxLen) (hb : (n + m) * bytes ≤ 140737488355328) (hB : B ≤ w.heap.size)
    (h : ∀ v' w', w'.ownsRow B e k v' (n + m) (xs ++ us) → w.grownBy w' v.ownBlock → wpList Try.prog ops Q rest (a.put o.dst v') w') : wpList Try.prog ops Q (o :: rest) a w := by
  refine wpList_plain hgd fun K hK => ?_
  obtain ⟨v', w', hr, h2, h3⟩ := run_append_many ht hi hz0 hz1 hz2 hz3 hk hown ao us m cap hm hnone hc h1 h63 hb hB o.type
  unfold Oper.wp execOp
  simp only [ho, resolve, invoke, builtin, Sem.run_bind, Sem.run_pure, Result.andThen_ok, List.map_toArray, List.map_cons, List.map_nil, hs, hx, hr]
  exact hK _ _ (h v' w' h2 h3)

/-- A slice that can be read and that has room only where it lies somewhere. -/
structure Src {α : Type} (enc : α → List Value) (k : Nat) (w : World) (v : Value) (L : List α) : Prop where
  sl : SlS enc k (fun _ => True) w v L
  no : ∀ n cap, v = .slice none n cap → n = 0 ∧ cap = 0
section
variable {α : Type} {enc : α → List Value} {k : Nat}
theorem Src.below {w w' : World} {v : Value} {L : List α} (h : Src enc k w v L) (hb : Below w.heap.size w w') : Src enc k w' v L := ⟨h.sl.below hb, h.no⟩
theorem Src.own (hk : ∀ x, (enc x).length = k) {w : World} {B n : Nat} {e : TypeId} {v : Value} {L : List α} (h : w.ownsRow B e k v n (L.flatMap enc)) (hn : n = L.length) : Src enc k w v L := by
  refine ⟨(own_sl hk h hn).sub (fun _ _ _ => trivial), fun m cap e => ?_⟩
  rcases h.2 with ⟨h1, _⟩ | ⟨g, c, cur, h1, _⟩
  · rw [h1] at e
    injection e with _ e2 e3
    exact ⟨e2.symm, e3.symm⟩
  · rw [h1] at e
    injection e with e1
    cases e1
theorem addA (g i j : Nat) : (⟨g, i, none⟩ : Addr).add j = ⟨g, i + j, none⟩ := by
  unfold Addr.add
  split <;> simp_all
theorem Src.cells (hk : ∀ x, (enc x).length = k) (hk0 : 0 < k) {w : World} {ao : Option Addr} {n cap : Nat} {L : List α} (h : Src enc k w (.slice ao n cap) L) : ∀ ad, ao = some ad → ∀ j u, (L.flatMap enc)[j]? = some u → w.cell? (ad.add j) = some u := by
  intro ad he j u hu
  have hj : j < (L.flatMap enc).length := (List.getElem?_eq_some_iff.1 hu).1
  rw [flat_len hk] at hj
  have hq : j / k < L.length := Nat.div_lt_of_lt_mul (by rw [Nat.mul_comm]; exact hj)
  have hx := List.getElem?_eq_getElem hq
  have hc := Nat.mod_lt j hk0
  have hs := Nat.div_add_mod' j k
  obtain ⟨g, off, e1, _, _, hcell⟩ := h.sl.get hx
  rw [he] at e1
  injection e1 with e1
  subst e1
  rw [addA, ← hs, show off + (j / k * k + j % k) = off + j / k * k + j % k by omega]
  refine hcell _ u ?_
  rw [← flat_at hk L _ _ _ hx hc, hs]
  exact hu
end
theorem csZ_len (x : Int) : (csZ x).length = 1 := rfl
theorem one_csZ (L : List Int) : ∀ u ∈ L.flatMap csZ, u.oneCell' = true := by
  intro u hu
  obtain ⟨x, _, h⟩ := List.mem_flatMap.1 hu
  simp at h
  subst h
  rfl
set_option maxHeartbeats 2000000 in
set_option maxRecDepth 100000 in
theorem both_any {w : World} {v1 v2 : Value} {L1 L2 : List Int} (h1 : Src csZ 1 w v1 L1) (h2 : Src csZ 1 w v2 L2) (hl1 : L1.length ≤ 1000000) (hl2 : L2.length ≤ 1000000) :
    Calls Try.prog 58 #[v1, v2] w fun e w' => ∃ v', e = .returned v' ∧ w'.ownsRow w.heap.size 3 1 v' (L1 ++ L2).length ((L1 ++ L2).flatMap csZ) ∧ Below w.heap.size w w' := by
  obtain ⟨i0, hi0, hz0, hz1, hz2⟩ := info_parts infoZ
  obtain ⟨a1, c1, rfl⟩ := h1.sl.slice
  obtain ⟨a2, c2, rfl⟩ := h2.sl.slice
  have H1 := Hid.mk h1
  have H2 := Hid.mk h2
  obtain ⟨n1, hn1⟩ : ∃ n, n = L1.length := ⟨_, rfl⟩
  obtain ⟨n2, hn2⟩ : ∃ n, n = L2.length := ⟨_, rfl⟩
  rw [← hn1] at H1 hl1 ⊢
  rw [← hn2] at H2 hl2 ⊢
  have HN1 := Hid.mk hn1
  have HN2 := Hid.mk hn2
  clear h1 h2 hn1 hn2
  go_enter Try.func58, Try.ntmps58
  go_wp2_with (at_builtin; refine wpList_append_many rfl _ _ rfl Try.underlying28 hi0 hz0 hz1 hz2 rfl (by decide) (by rfl) (World.ownsRow_nil _ w.heap.size _ _) a1 (L1.flatMap csZ) n1 c1 (by rfl) (by rw [flat_len csZ_len, HN1.out]) (fun e => H1.out.no _ _ (by rw [e])) (H1.out.cells csZ_len (by decide)) (one_csZ _) ?c1 ?c2 (Nat.le_refl _) ?_)
  case c1 => unfold maxLen; omega
  case c2 => omega
  intro v3 w3 hown3 hgrow3
  have HB3 : Hid (Below w.heap.size w w3) := Hid.mk (Below.grown (Below.refl _ _) hgrow3 (Nat.le_refl _) (fun k hk => by cases hk))
  obtain ⟨a3, c3, rfl⟩ := own_slice hown3
  have HO3 := Hid.mk hown3
  have H23 := Hid.mk (H2.out.below HB3.out)
  clear hown3 hgrow3
  go_wp2_with (at_builtin; refine wpList_append_many rfl _ _ rfl Try.underlying28 hi0 hz0 hz1 hz2 rfl (by decide) (by rfl) HO3.out a2 (L2.flatMap csZ) n2 c2 (by rfl) (by rw [flat_len csZ_len, HN2.out]) (fun e => H23.out.no _ _ (by rw [e])) (H23.out.cells csZ_len (by decide)) (one_csZ _) ?d1 ?d2 HB3.out.size ?_)
  case d1 => unfold maxLen; omega
  case d2 => omega
  intro v4 w4 hown4 hgrow4
  have HB4 : Hid (Below w.heap.size w w4) := Hid.mk (HB3.out.grown hgrow4 HB3.out.size (fun k hk => (HO3.out.lt k hk).1))
  obtain ⟨a4, c4, rfl⟩ := own_slice hown4
  have HO4 := Hid.mk hown4
  clear hown4 hgrow4
  go_wp2
  go_ret
  refine ⟨_, rfl, ?_, HB4.out⟩
  have := HO4.out
  rw [List.length_append, ← HN1.out, ← HN2.out, List.flatMap_append]
  simpa using this
end Go.Proofs.Ythdnpddfdlhlaaa
