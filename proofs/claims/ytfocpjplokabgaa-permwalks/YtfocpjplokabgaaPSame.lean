/- Same of the document: two slices of the same rows; a row that is put behind others. -/
import Derived.Test.YtfocpjplokabgaaPOpen
import Derived.Deep.AppendLies
namespace Go.Proofs.Ytfocpjplokabgaa
open Go.RowKit Go.Shelf

set_option maxHeartbeats 2000000 in
set_option maxRecDepth 100000 in
theorem same_any {w : World} {va vb : Value} {l : List R3} (ha : RowsAt w va l) (hb : RowsAt w vb l) :
    Calls Try.prog 13 #[va, vb] w fun e w' => e = .returned (.bool true) ∧ Below w.heap.size w w' := by
  obtain ⟨hl, _, aa, ca, rfl, hca⟩ := ha
  obtain ⟨_, _, ab, cb, rfl, hcb⟩ := hb
  have HA := Hid.mk hca
  have HB := Hid.mk hcb
  obtain ⟨M, hM⟩ : ∃ M, M = l.length := ⟨_, rfl⟩
  have HM := Hid.mk hM
  rw [← hM] at hl ⊢
  clear hca hcb hM
  go_enter Try.func13, Try.ntmps13
  go_wp2
  go_loopw [5] (fun c wr => ∃ i q : Nat, i ≤ M ∧ c = .int .i64 i ∧ wr = w.drewN q) (fun c _ => M - (intOf c).toNat)
  case atStart => exact ⟨0, 0, by omega, rfl, rfl⟩
  case round =>
    obtain ⟨i, q, hi, rfl, rfl⟩ := hrel
    by_cases hlt : i < M
    · have hltI : (i : Int) < (M : Int) := by omega
      obtain ⟨r, hr⟩ : ∃ r, l[i]? = some r := ⟨_, List.getElem?_eq_getElem (by rw [← HM.out]; exact hlt)⟩
      rcases HA.out with h0 | ⟨ga, offa, rfl, _, hga, hc1⟩
      · rw [h0] at hr; simp at hr
      rcases HB.out with h0 | ⟨gb, offb, rfl, _, hgb, hc2⟩
      · rw [h0] at hr; simp at hr
      obtain ⟨c0, c1, c2⟩ := hc1 i r hr
      obtain ⟨d0, d1, d2⟩ := hc2 i r hr
      have heq := eqIn3 r r
      rw [decide_eq_true rfl] at heq
      clear hc1 hc2 hr
      go_wp2_with fail
      go_region
      go_wp2
      go_roundw
      case rel => exact ⟨i + 1, q + 1, by omega, by go_num, by simp⟩
      case measure => simp [intOf]; omega
    · have hnI : ¬ (i : Int) < (M : Int) := by omega
      go_wp2
      go_ret
      exact ⟨rfl, below_drewN (Below.refl _ _) q⟩

theorem rowCs_snoc (d : List R3) (r : R3) : rowCs (d ++ [r]) = rowCs d ++ enc3 r := by simp [rowCs]
theorem own_slice {w : World} {B n : Nat} {e : TypeId} {size : Nat} {v : Value} {xs : List Value} (h : w.ownsRow B e size v n xs) : ∃ ao cap, v = .slice ao n cap := by
  rcases h.2 with ⟨rfl, rfl⟩ | ⟨g, cap, cur, rfl, _⟩
  · exact ⟨none, 0, rfl⟩
  · exact ⟨_, cap, rfl⟩
/-- Rows that a statement has put together. -/
theorem own_rows {w : World} {B : Nat} {v : Value} {d : List R3} (h : w.ownsRow B 23 3 v d.length (rowCs d)) (hl : d.length * 24 ≤ 140737488355328) (hw : ∀ r ∈ d, r.wf) : RowsAt w v d := by
  refine ⟨hl, hw, ?_⟩
  have h2 := h
  rcases h.2 with ⟨rfl, h0⟩ | ⟨g, cap, cur, rfl, _⟩
  · exact ⟨none, 0, by rw [h0], .inl (List.length_eq_zero_iff.1 h0)⟩
  · exact ⟨_, cap, rfl, .inr ⟨g, 0, rfl, trivial, (h.lt g rfl).2, fun j r hr => (grow_of_own h2 rfl).row hr⟩⟩
theorem owns_key {w w' : World} {B n : Nat} {e : TypeId} {size : Nat} {v : Value} {xs : List Value} (h : w.ownsRow B e size v n xs) (key : ∀ g o, v.ownBlock = some g → w.heap[g]? = some o → w'.heap[g]? = some o) : w'.ownsRow B e size v n xs := by
  refine ⟨h.1, ?_⟩
  rcases h.2 with h0 | ⟨g, cap, cur, e1, e2, e3, e4⟩
  · exact .inl h0
  · exact .inr ⟨g, cap, cur, e1, e2, key g _ (by rw [e1]; rfl) e3, e4⟩
end Go.Proofs.Ytfocpjplokabgaa
