/- More workers, no more load. -/
import Derived.Test.YtbknlmalfkpenaaHRLoad
namespace Go.Proofs.Ytbknlmalfkpenaa
open Go.RowKit

theorem allI_ok {k a : Nat} {l : List Int} (hk : k ≤ 16) (ha : a ≤ 64) (h : l ∈ allI k a) : okL l = true ∧ l.length = k := by
  obtain ⟨h1, h2, h3⟩ := (mem_allI k a l).1 h
  refine ⟨okL_iff.2 ⟨by omega, h2, ?_⟩, h1⟩
  rcases h3 with h3 | h3
  · rw [h3] at h1
    rw [List.length_eq_zero_iff.1 h1]
    simp [prodI]
  · omega
theorem sha_spec {a k : Nat} (hk : k ≤ 16) (ha1 : 1 ≤ a) (ha : a ≤ 64) {P : List (List Int × Int)} (hP : FitA k P) : shaM a k P ∈ allI k a ∧ ∀ l ∈ allI k a, loadP (shaM a k P) (onceA P) ≤ loadP l (onceA P) := by
  have hf : ∀ l ∈ allI k a, 0 ≤ (fun L => loadP L (onceA P)) l := fun l hl => by
    obtain ⟨h1, h2⟩ := allI_ok hk ha hl
    exact (load_range (by rw [h2]; exact hP) h1).1
  rcases bst_spec (fun L => loadP L (onceA P)) (allI k a) hf with ⟨h, _⟩ | ⟨h1, _, h3⟩
  · exact absurd h (allI_ne k a ha1)
  · exact ⟨h1, h3⟩
theorem allI_mono {k a b : Nat} (h : a ≤ b) {l : List Int} (hl : l ∈ allI k a) : l ∈ allI k b := by
  obtain ⟨h1, h2, h3⟩ := (mem_allI k a l).1 hl
  refine (mem_allI k b l).2 ⟨h1, h2, ?_⟩
  rcases h3 with h3 | h3
  · exact .inl h3
  · exact .inr (by omega)
end Go.Proofs.Ytbknlmalfkpenaa
