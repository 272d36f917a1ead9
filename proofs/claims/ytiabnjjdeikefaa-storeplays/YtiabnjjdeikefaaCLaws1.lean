import Derived.Test.YtiabnjjdeikefaaCRSum
import Derived.OpenShut
namespace Go.Proofs.Ytiabnjjdeikefaa
open Go.RowKit

theorem sum_digits (w : World) : Calls Try.prog 52 #[.string ⟨#[49, 50, 51, 52, 53, 54, 55, 56, 57]⟩] w fun e w' => e = .returned (.int .i64 4236843288) ∧ Below w.heap.size w w' := by
  have h := sum_any ⟨#[49, 50, 51, 52, 53, 54, 55, 56, 57]⟩ w (by decide)
  rw [show (ByteArray.mk #[49, 50, 51, 52, 53, 54, 55, 56, 57]).data.toList = [49, 50, 51, 52, 53, 54, 55, 56, 57] from rfl, sum_nine] at h
  exact h



end Go.Proofs.Ytiabnjjdeikefaa
