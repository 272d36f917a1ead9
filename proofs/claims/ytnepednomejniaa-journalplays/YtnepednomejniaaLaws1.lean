import Derived.Test.YtnepednomejniaaRNum
import Derived.OpenShut
namespace Go.Proofs.Ytnepednomejniaa
open Go.RowKit

theorem numB_300 : numB 300 = [2, 1, 44] := by decide
theorem numP_300 : numP [2, 1, 44, 120] = (300, 3, 0) := by decide
theorem putNum_300 (w : World) : Calls Try.prog 52 #[.int .i64 300] w fun e w' => e = .returned (.tuple #[.string ⟨#[2, 1, 44]⟩, .int .i64 0]) ∧ Below w.heap.size w w' := by
  have h := putNum_pos 300 w (by decide)
  rw [numB_300] at h
  exact h
theorem num_300 (w : World) : Calls Try.prog 64 #[.string ⟨#[2, 1, 44, 120]⟩] w fun e w' => e = .returned (.tuple #[.int .i64 300, .int .i64 3, .int .i64 0]) ∧ w' = w := by
  have h := num_any ⟨#[2, 1, 44, 120]⟩ w (by decide)
  rw [numV, show (ByteArray.mk #[2, 1, 44, 120]).data.toList = [2, 1, 44, 120] from rfl, numP_300] at h
  exact h


theorem i64_bounds {a : Int} (h : (Lit.int .i64 a).wf = true) : -9223372036854775808 ≤ a ∧ a ≤ 9223372036854775807 := by
  have := bounds_i64 h
  omega



theorem numV_back (m : Nat) (hm : m < 2 ^ 63) (t : List UInt8) : numV (numB m ++ t) = .tuple #[.int .i64 (m : Int), .int .i64 ((numB m).length : Int), .int .i64 0] := by
  rw [numV, numP_numB m hm]; rfl

theorem size_list (l : List UInt8) : (⟨l.toArray⟩ : ByteArray).size = l.length := by rw [← ByteArray.size_data]; simp
theorem append_data (a b : ByteArray) : (a ++ b).data.toList = a.data.toList ++ b.data.toList := by simp
theorem data_list (l : List UInt8) : (⟨l.toArray⟩ : ByteArray).data.toList = l := rfl

end Go.Proofs.Ytnepednomejniaa
