/- Names by other names, without memory. -/
import Derived.Test.YtkbgmcmcpbegjaaGreatDoorNTurnM
namespace Go.Proofs.YtkbgmcmcpbegjaaGreatDoor
open Go.RowKit

def kN (v : Wd) : Wd := 122 :: 57 :: v
theorem kN_inv (v : Wd) : (fun s : Wd => s.drop 2) (kN v) = v := rfl
theorem kN_inj {a b : Wd} (h : kN a = kN b) : a = b := by simpa [kN] using h
theorem isW_kN {s : Wd} (h : isW s = true) (hl : s.length ≤ 12) : isW (kN s) = true := by
  unfold isW kN at *
  simp only [Bool.and_eq_true, decide_eq_true_eq, List.all_eq_true, List.length_cons] at h ⊢
  refine ⟨by omega, fun x hx => ?_⟩
  rcases List.mem_cons.1 hx with rfl | hx
  · decide
  · rcases List.mem_cons.1 hx with rfl | hx
    · decide
    · exact h.2 x hx
theorem may_kN {vars : List Wd} {P : List Pa} (h : mayQ vars P = true) (hl : ∀ a ∈ P, a.1.2.length ≤ 12 ∧ a.2.2.2.length ≤ 12) : mayQ (vars.map kN) (P.map (reA kN)) = true := by
  simp only [mayQ, Bool.and_eq_true, decide_eq_true_eq, List.all_eq_true] at h ⊢
  obtain ⟨⟨⟨h1, h2⟩, h3⟩, h4⟩ := h
  refine ⟨⟨⟨by simpa using h1, by simpa using h2⟩, ?_⟩, fun a ha => ?_⟩
  · unfold whyQ at h3 ⊢
    have g1 : ¬ ∃ a ∈ P, mayP a.2.1 = false := fun e => by rw [if_pos e] at h3; omega
    rw [if_neg g1] at h3
    have g2 : ¬ (6 < vars.length ∨ 6 < P.length ∨ 6 < (namesP P).length) := fun e => by rw [if_pos e] at h3; omega
    rw [if_neg g2] at h3
    have g3 : vars.Nodup := by
      rcases Decidable.em (vars.Nodup) with h | h
      · exact h
      · rw [if_pos h] at h3; omega
    rw [if_neg (fun e => e g3)] at h3
    have g4 : ¬ ∃ v ∈ vars, v ∉ namesP P := fun e => by rw [if_pos e] at h3; omega
    have hn : (namesP (P.map (reA kN))).length ≤ (namesP P).length := by
      have := nodup_sub_lenN (namesP (P.map (reA kN))) ((namesP P).map kN) (namesP_nodup _) (fun s hs => by
        obtain ⟨v, hv, rfl⟩ := names_re.1 hs
        exact List.mem_map_of_mem hv)
      rwa [List.length_map] at this
    rw [if_neg (fun ⟨a, ha, k⟩ => by
      obtain ⟨b, hb, rfl⟩ := List.mem_map.1 ha
      exact g1 ⟨b, hb, k⟩), if_neg (by rw [List.length_map, List.length_map]; omega), if_neg (fun e => e (by
      rw [List.nodup_iff_pairwise_ne, List.pairwise_map]
      exact g3.imp (fun h e => h (kN_inj e)))), if_neg (fun ⟨v, hv, k⟩ => by
      obtain ⟨u, hu, rfl⟩ := List.mem_map.1 hv
      exact k (names_re.2 ⟨u, Classical.byContradiction (fun q => g4 ⟨u, hu, q⟩), rfl⟩))]
  · obtain ⟨b, hb, rfl⟩ := List.mem_map.1 ha
    have h5 := h4 b hb
    have h6 := hl b hb
    obtain ⟨⟨x0, x1⟩, p, ⟨y0, y1⟩⟩ := b
    simp only [wordsA, Bool.and_eq_true] at h5 ⊢
    dsimp only at h6
    refine ⟨?_, ?_⟩
    · cases x0
      · exact h5.1
      · exact isW_kN h5.1 h6.1
    · cases y0
      · exact h5.2
      · exact isW_kN h5.2 h6.2
theorem rowsW_kN (fs : List Fa) {vars : List Wd} {P : List Pa} (h : mayQ vars P = true) (h2 : mayQ (vars.map kN) (P.map (reA kN)) = true) : rowsW fs (vars.map kN) (P.map (reA kN)) = rowsW fs vars P := by
  obtain ⟨a1, a2⟩ := rowsW_spec fs h
  obtain ⟨b1, b2⟩ := rowsW_spec fs h2
  exact riseL_ext ordR b1 a1 (fun r => (b2 r).trans ((rowP_names (k := kN) (h := fun s => s.drop 2) kN_inv r).trans (a2 r).symm))
theorem rows_kN (fs : List Fa) {vars : List Wd} {P : List Pa} (h : mayQ vars P = true) (hl : ∀ a ∈ P, a.1.2.length ≤ 12 ∧ a.2.2.2.length ≤ 12) : rowsEW fs (vars.map kN) (P.map (reA kN)) = rowsEW fs vars P ∧ rowsAW fs (vars.map kN) (P.map (reA kN)) = rowsAW fs vars P := by
  have h2 := may_kN h hl
  unfold rowsEW rowsAW
  rw [if_pos h, if_pos h, if_pos h2, if_pos h2, rowsW_kN fs h h2]
  exact ⟨rfl, rfl⟩
end Go.Proofs.YtkbgmcmcpbegjaaGreatDoor
