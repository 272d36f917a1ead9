import Derived.Test.YtnepednomejniaaNum
import Derived.Test.YtnepednomejniaaMath2
namespace Go.Proofs.Ytnepednomejniaa
open Go.RowKit

theorem byte_of {s : ByteArray} {c : UInt8} {r : List UInt8} (hL : s.data.toList = c :: r) (j : Nat) (hj : j < r.length) : ∀ h : j + 1 < s.size, s[j + 1]'h = r[j] := by
  intro h
  show s.data[j + 1]'h = r[j]
  rw [← Array.getElem_toList]
  simp [hL]

end Go.Proofs.Ytnepednomejniaa
