/- Ends of the document: may words end at a place? -/
import Derived.Test.YthdnpddfdlhlaabANext
namespace Go.Proofs.Ythdnpddfdlhlaab
open Go.RowKit

theorem ends_no {a : Au} {z : Int} (h : ¬ (mayA a = true ∧ isPl a z = true)) : endsA a z = false := by
  unfold endsA
  cases h1 : mayA a
  · rfl
  · cases h2 : isPl a z
    · rfl
    · exact absurd ⟨h1, h2⟩ h
theorem ends_yes {a : Au} {z : Int} (h : mayA a = true) (hp : isPl a z = true) : endsA a z = if z < 0 then a.empty else decide (z ∈ a.last) := by
  unfold endsA
  rw [h, hp]
  rfl
end Go.Proofs.Ythdnpddfdlhlaab
