/- The statement of texts: Str and PutStr are the document's, for every text. -/
import Derived.Test.YtnepednomejniaaStr
namespace Go.Proofs.Ytnepednomejniaa
open Go.RowKit

theorem putStrV_hi : putStrV [104, 105] = .tuple #[.string ⟨#[1, 2, 104, 105]⟩, .int .i64 0] := by
  rw [putStrV, if_neg (by decide), show strB [104, 105] = [1, 2, 104, 105] from by decide]
theorem strP_hi : strP [1, 2, 104, 105, 33] = ([104, 105], 4, 0) := by decide
theorem putStr_hi (w : World) : Calls Try.prog 71 #[.string ⟨#[104, 105]⟩] w fun e w' => e = .returned (.tuple #[.string ⟨#[1, 2, 104, 105]⟩, .int .i64 0]) ∧ Below w.heap.size w w' := by
  have h := putStr_any ⟨#[104, 105]⟩ w (by decide)
  rw [show (ByteArray.mk #[104, 105]).data.toList = [104, 105] from rfl, putStrV_hi] at h
  exact h
theorem str_hi (w : World) : Calls Try.prog 76 #[.string ⟨#[1, 2, 104, 105, 33]⟩] w fun e w' => e = .returned (.tuple #[.string ⟨#[104, 105]⟩, .int .i64 4, .int .i64 0]) ∧ Below w.heap.size w w' := by
  have h := str_any ⟨#[1, 2, 104, 105, 33]⟩ w (by decide)
  rw [show (ByteArray.mk #[1, 2, 104, 105, 33]).data.toList = [1, 2, 104, 105, 33] from rfl, strV_of strP_hi] at h
  exact h


theorem putStrV_form (l : List UInt8) : ∃ (t : ByteArray) (e : Int), putStrV l = .tuple #[.string t, .int .i64 e] := by
  unfold putStrV; split
  · exact ⟨_, _, rfl⟩
  · exact ⟨_, _, rfl⟩

end Go.Proofs.Ytnepednomejniaa
