import Derived.Test.YtdegdoiecfoieaaRNum
import Derived.OpenShut
namespace Go.Proofs.Ytdegdoiecfoieaa
open Go.RowKit

theorem numB_300 : numB 300 = [2, 1, 44] := by decide
theorem numP_300 : numP [2, 1, 44, 120] = (300, 3, 0) := by decide
theorem putNum_300 (w : World) : Calls Try.prog 9 #[.int .i64 300] w fun e w' => e = .returned (.tuple #[.string ⟨#[2, 1, 44]⟩, .int .i64 0]) ∧ Below w.heap.size w w' := by
  have h := putNum_pos 300 w (by decide)
  rw [numB_300] at h
  exact h
theorem num_300 (w : World) : Calls Try.prog 12 #[.string ⟨#[2, 1, 44, 120]⟩] w fun e w' => e = .returned (.tuple #[.int .i64 300, .int .i64 3, .int .i64 0]) ∧ w' = w := by
  have h := num_any ⟨#[2, 1, 44, 120]⟩ w (by decide)
  rw [numV, show (ByteArray.mk #[2, 1, 44, 120]).data.toList = [2, 1, 44, 120] from rfl, numP_300] at h
  exact h

set_option maxHeartbeats 400000 in
theorem numbers_any (w : World) : Calls Try.prog 11 #[] w fun e w' => e = .returned (.bool true) ∧ Below w.heap.size w w' := by
  go_enter Try.func11, Try.ntmps11
  go_wp2_with fail
  refine (putNum_300 _).mono ?_
  rintro e w1 ⟨rfl, hb⟩
  go_wp2_with fail
  refine (num_300 _).mono ?_
  rintro e w2 ⟨rfl, rfl⟩
  go_wp2
  go_ret
  exact ⟨rfl, hb⟩

theorem i64_bounds {a : Int} (h : (Lit.int .i64 a).wf = true) : -9223372036854775808 ≤ a ∧ a ≤ 9223372036854775807 := by
  have := bounds_i64 h
  omega

theorem octetPuts_walk (a : Int) (w : World) (ha : (Lit.int .i64 a).wf = true) :
    Calls Try.prog 3 #[.int .i64 a] w fun e w' => e = .returned (.bool true) ∧ Below w.heap.size w w' := by
  obtain ⟨_, h2⟩ := i64_bounds ha
  rcases (show a < 0 ∨ 0 ≤ a by omega) with hn | hp
  · go_enter Try.func3, Try.ntmps3
    go_wp2_with fail
    refine (putNum_neg _ _ hn).mono ?_
    rintro e w1 ⟨rfl, rfl⟩
    go_wp2_with fail
    refine (rPutNum_neg _ _ hn).mono ?_
    rintro e w2 ⟨rfl, rfl⟩
    go_wp2_with fail
    refine (numbers_any _).mono ?_
    rintro e w3 ⟨rfl, hb⟩
    go_wp2
    go_ret
    exact ⟨rfl, hb⟩
  · obtain ⟨m, rfl⟩ := Int.eq_ofNat_of_zero_le hp
    have hm : m < 2 ^ 63 := by omega
    go_enter Try.func3, Try.ntmps3
    go_wp2_with fail
    refine (putNum_pos _ _ hm).mono ?_
    rintro e w1 ⟨rfl, hb1⟩
    go_wp2_with fail
    refine (rPutNum_pos _ _ hm).mono ?_
    rintro e w2 ⟨rfl, hb2⟩
    go_wp2_with fail
    refine (numbers_any _).mono ?_
    rintro e w3 ⟨rfl, hb3⟩
    go_wp2
    go_ret
    exact ⟨rfl, (hb1.trans (hb2.mono hb1.size)).trans (hb3.mono (Nat.le_trans hb1.size hb2.size))⟩
end Go.Proofs.Ytdegdoiecfoieaa
