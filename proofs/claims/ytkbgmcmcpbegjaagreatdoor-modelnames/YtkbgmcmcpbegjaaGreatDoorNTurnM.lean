/- Facts and atoms turned about: the same rows, without memory. -/
import Derived.Test.YtkbgmcmcpbegjaaGreatDoorMG50
import Derived.Test.YtkbgmcmcpbegjaaGreatDoorMG13
import Derived.Test.YtkbgmcmcpbegjaaGreatDoorMG14
namespace Go.Proofs.YtkbgmcmcpbegjaaGreatDoor
open Go.RowKit

theorem i64_and255N (n : Int) : bits .and .i64 n 255 = n % 256 := by
  have hm : (BitVec.ofInt 64 255).toNat = 2 ^ 8 - 1 := by decide
  have key : (BitVec.ofInt 64 n &&& BitVec.ofInt 64 255).toNat = (n % ((2 ^ 64 : Nat) : Int)).toNat % 2 ^ 8 := by
    rw [BitVec.toNat_and, BitVec.toNat_ofInt, hm, Nat.and_two_pow_sub_one_eq_mod]
  show IntKind.i64.wrap ((BitVec.ofInt 64 n &&& BitVec.ofInt 64 255).toNat : Nat) = n % 256
  rw [key, IntKind.wrap_i64]
  omega
/-- A list from one on, round and round. -/
def rndL {α : Type} (d : α) (rs : List α) (c i : Nat) : List α := (List.range i).map (fun k => rs.getD ((k + c) % rs.length) d)
theorem rnd_len {α : Type} (d : α) (rs : List α) (c i : Nat) : (rndL d rs c i).length = i := by simp [rndL]
theorem rnd_succ {α : Type} {d : α} {rs : List α} {c i : Nat} {r : α} (h : rs[(i + c) % rs.length]? = some r) : rndL d rs c (i + 1) = rndL d rs c i ++ [r] := by
  unfold rndL
  rw [List.range_succ, List.map_append, List.map_singleton, List.getD, h]
  rfl
theorem rnd_mem {α : Type} (d : α) (rs : List α) (c i : Nat) (hi : rs.length ≤ i) (h0 : rs = [] → i = 0) (r : α) : r ∈ rndL d rs c i ↔ r ∈ rs := by
  unfold rndL
  rw [List.mem_map]
  constructor
  · rintro ⟨k, hk, rfl⟩
    have hk := List.mem_range.1 hk
    have hp : 0 < rs.length := by
      rcases Nat.eq_zero_or_pos rs.length with h | h
      · have := h0 (List.length_eq_zero_iff.1 h); omega
      · exact h
    have hlt : (k + c) % rs.length < rs.length := Nat.mod_lt _ hp
    rw [List.getD, List.getElem?_eq_getElem hlt]
    exact List.getElem_mem hlt
  · intro hr
    obtain ⟨j, hj⟩ := List.getElem?_of_mem hr
    have hjl := (List.getElem?_eq_some_iff.1 hj).1
    have hp : 0 < rs.length := by omega
    have hcl : c % rs.length < rs.length := Nat.mod_lt _ hp
    have hcd := Nat.div_add_mod c rs.length
    by_cases hle : c % rs.length ≤ j
    · refine ⟨j - c % rs.length, List.mem_range.2 (by omega), ?_⟩
      have e : (j - c % rs.length + c) % rs.length = j := by
        have e2 : j - c % rs.length + c = j + rs.length * (c / rs.length) := by
          generalize rs.length * (c / rs.length) = X at *
          omega
        rw [e2, Nat.add_mul_mod_self_left, Nat.mod_eq_of_lt hjl]
      rw [e, List.getD, hj]
      rfl
    · refine ⟨j + rs.length - c % rs.length, List.mem_range.2 (by omega), ?_⟩
      have e : (j + rs.length - c % rs.length + c) % rs.length = j := by
        have e2 : j + rs.length - c % rs.length + c = j + rs.length * (c / rs.length + 1) := by
          rw [Nat.mul_add, Nat.mul_one]
          generalize rs.length * (c / rs.length) = X at *
          omega
        rw [e2, Nat.add_mul_mod_self_left, Nat.mod_eq_of_lt hjl]
      rw [e, List.getD, hj]
      rfl
theorem nodup_sub_lenN {α : Type} [DecidableEq α] : ∀ (l m : List α), l.Nodup → (∀ r, r ∈ l → r ∈ m) → l.length ≤ m.length
  | [], _, _, _ => by simp
  | x :: l, m, hn, hs => by
    have h1 := nodup_sub_lenN l (m.erase x) (List.nodup_cons.1 hn).2 (fun r hr => by
      have hne : r ≠ x := fun e => (List.nodup_cons.1 hn).1 (e ▸ hr)
      exact (List.mem_erase_of_ne hne).2 (hs r (by simp [hr])))
    have hx := hs x (by simp)
    rw [List.length_erase_of_mem hx] at h1
    have := List.length_pos_of_mem hx
    simp only [List.length_cons]
    omega
theorem addN_nodup {l : List Wd} (h : l.Nodup) (t : Tm) : (addN l t).Nodup := by
  unfold addN
  split
  · rename_i hc
    exact List.nodup_append.2 ⟨h, by simp, fun a ha b hb e => hc.2 (by simp at hb; rw [← hb, ← e]; exact ha)⟩
  · exact h
theorem namesP_nodup (l : List Pa) : (namesP l).Nodup := by
  unfold namesP
  have key : ∀ (l : List Pa) (n : List Wd), n.Nodup → (l.foldl (fun n a => addN (addN n a.1) a.2.2) n).Nodup := by
    intro l
    induction l with
    | nil => intro n h; exact h
    | cons a l ih => intro n h; exact ih _ (addN_nodup (addN_nodup h _) _)
  exact key l [] (by simp)
theorem names_same {l m : List Pa} (h : ∀ a, a ∈ l ↔ a ∈ m) (s : Wd) : s ∈ namesP l ↔ s ∈ namesP m := by
  rw [mem_namesP_iff, mem_namesP_iff]
  constructor
  · rintro ⟨a, ha, k⟩
    exact ⟨a, (h a).1 ha, k⟩
  · rintro ⟨a, ha, k⟩
    exact ⟨a, (h a).2 ha, k⟩
theorem names_lenN {l m : List Pa} (h : ∀ a, a ∈ l ↔ a ∈ m) : (namesP l).length = (namesP m).length :=
  Nat.le_antisymm (nodup_sub_lenN _ _ (namesP_nodup l) (fun r hr => (names_same h r).1 hr)) (nodup_sub_lenN _ _ (namesP_nodup m) (fun r hr => (names_same h r).2 hr))
theorem why_same {vars : List Wd} {l m : List Pa} (hl : l.length = m.length) (h : ∀ a, a ∈ l ↔ a ∈ m) : whyQ vars l = whyQ vars m := by
  have h1 : (∃ a ∈ l, mayP a.2.1 = false) ↔ ∃ a ∈ m, mayP a.2.1 = false := ⟨fun ⟨a, ha, k⟩ => ⟨a, (h a).1 ha, k⟩, fun ⟨a, ha, k⟩ => ⟨a, (h a).2 ha, k⟩⟩
  have h2 : (∃ v ∈ vars, v ∉ namesP l) ↔ ∃ v ∈ vars, v ∉ namesP m := ⟨fun ⟨v, hv, k⟩ => ⟨v, hv, fun q => k ((names_same h v).2 q)⟩, fun ⟨v, hv, k⟩ => ⟨v, hv, fun q => k ((names_same h v).1 q)⟩⟩
  unfold whyQ
  simp only [h1, h2, hl, names_lenN h]
theorem may_same {vars : List Wd} {l m : List Pa} (hl : l.length = m.length) (h : ∀ a, a ∈ l ↔ a ∈ m) : mayQ vars l = mayQ vars m := by
  have h3 : l.all wordsA = m.all wordsA := by
    rw [Bool.eq_iff_iff, List.all_eq_true, List.all_eq_true]
    exact ⟨fun k a ha => k a ((h a).2 ha), fun k a ha => k a ((h a).1 ha)⟩
  unfold mayQ
  rw [hl, why_same hl h, h3]
theorem rowsW_same {fs gs : List Fa} (hf : ∀ f, f ∈ fs ↔ f ∈ gs) {vars : List Wd} {l m : List Pa} (hl : l.length = m.length) (h : ∀ a, a ∈ l ↔ a ∈ m) (hm : mayQ vars l = true) : rowsW fs vars l = rowsW gs vars m := by
  obtain ⟨a1, a2⟩ := rowsW_spec fs hm
  obtain ⟨b1, b2⟩ := rowsW_spec gs ((may_same hl h).symm.trans hm)
  exact riseL_ext ordR a1 b1 (fun r => (a2 r).trans ((rowP_same hf h r).trans (b2 r).symm))
theorem rowsEW_same {fs gs : List Fa} (hf : ∀ f, f ∈ fs ↔ f ∈ gs) {vars : List Wd} {l m : List Pa} (hl : l.length = m.length) (h : ∀ a, a ∈ l ↔ a ∈ m) : rowsEW fs vars l = rowsEW gs vars m := by
  unfold rowsEW
  rw [← may_same hl h]
  split
  · rename_i hm
    rw [rowsW_same hf hl h hm]
  · rfl
theorem rowsAW_same {fs gs : List Fa} (hf : ∀ f, f ∈ fs ↔ f ∈ gs) {vars : List Wd} {l m : List Pa} (hl : l.length = m.length) (h : ∀ a, a ∈ l ↔ a ∈ m) : rowsAW fs vars l = rowsAW gs vars m := by
  unfold rowsAW
  rw [← may_same hl h]
  split
  · rename_i hm
    rw [rowsW_same hf hl h hm]
  · rfl
theorem rowsAW_len (fs : List Fa) (vars : List Wd) (P : List Pa) : (rowsAW fs vars P).length ≤ 4096 := by
  unfold rowsAW
  split
  · split
    · simp
    · omega
  · simp
end Go.Proofs.YtkbgmcmcpbegjaaGreatDoor
