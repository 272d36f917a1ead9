/- The statement of the order: numbers' bytes stand as numbers do. -/
import Derived.Test.YtdegdoiecfoieabLaws1
import Derived.Test.YtdegdoiecfoieabMath4
namespace Go.Proofs.Ytdegdoiecfoieab
open Go.RowKit

set_option maxHeartbeats 400000 in
theorem octetOrder_walk (a b : Int) (w : World) (ha : (Lit.int .i64 a).wf = true) (hb : (Lit.int .i64 b).wf = true) :
    Calls Try.prog 3 #[.int .i64 a, .int .i64 b] w fun e w' => e = .returned (.bool true) ∧ Below w.heap.size w w' := by
  obtain ⟨_, h2⟩ := i64_bounds ha
  obtain ⟨_, h4⟩ := i64_bounds hb
  rcases (show a < 0 ∨ 0 ≤ a by omega) with hn | hp
  · rcases (show b < 0 ∨ 0 ≤ b by omega) with hn2 | hp2
    · go_enter Try.func3, Try.ntmps3
      go_wp2_with fail
      refine (putNum_neg _ _ hn).mono ?_
      rintro e w1 ⟨rfl, rfl⟩
      go_wp2_with fail
      refine (putNum_neg _ _ hn2).mono ?_
      rintro e w2 ⟨rfl, rfl⟩
      go_wp2_with fail
      refine (numbers_any _).mono ?_
      rintro e w3 ⟨rfl, hb⟩
      go_wp2
      go_ret
      exact ⟨rfl, hb⟩
    · obtain ⟨m, rfl⟩ := Int.eq_ofNat_of_zero_le hp2
      go_enter Try.func3, Try.ntmps3
      go_wp2_with fail
      refine (putNum_neg _ _ hn).mono ?_
      rintro e w1 ⟨rfl, rfl⟩
      go_wp2_with fail
      refine (putNum_pos _ _ (by omega)).mono ?_
      rintro e w2 ⟨rfl, hb1⟩
      go_wp2_with fail
      refine (numbers_any _).mono ?_
      rintro e w3 ⟨rfl, hb⟩
      have hb3 := hb1.trans (hb.mono hb1.size)
      clear hb1 hb
      go_wp2
      go_ret
      exact ⟨rfl, hb3⟩
  · obtain ⟨m, rfl⟩ := Int.eq_ofNat_of_zero_le hp
    have hm : m < 2 ^ 63 := by omega
    rcases (show b < 0 ∨ 0 ≤ b by omega) with hn2 | hp2
    · go_enter Try.func3, Try.ntmps3
      go_wp2_with fail
      refine (putNum_pos _ _ hm).mono ?_
      rintro e w1 ⟨rfl, hb1⟩
      go_wp2_with fail
      refine (putNum_neg _ _ hn2).mono ?_
      rintro e w2 ⟨rfl, rfl⟩
      go_wp2_with fail
      refine (numbers_any _).mono ?_
      rintro e w3 ⟨rfl, hb⟩
      have hb3 := hb1.trans (hb.mono hb1.size)
      clear hb1 hb
      go_wp2
      go_ret
      exact ⟨rfl, hb3⟩
    · obtain ⟨q, rfl⟩ := Int.eq_ofNat_of_zero_le hp2
      have hq : q < 2 ^ 63 := by omega
      have hlb := less_numB m q hm hq
      have hdec : decide (m < q) = decide ((m : Int) < (q : Int)) := by rw [Bool.eq_iff_iff]; simp
      rw [hdec] at hlb
      clear hdec
      go_enter Try.func3, Try.ntmps3
      go_wp2_with fail
      refine (putNum_pos _ _ hm).mono ?_
      rintro e w1 ⟨rfl, hb1⟩
      go_wp2_with fail
      refine (putNum_pos _ _ hq).mono ?_
      rintro e w2 ⟨rfl, hb2⟩
      go_wp2_with fail
      refine (numbers_any _).mono ?_
      rintro e w3 ⟨rfl, hb⟩
      have hb12 := hb1.trans (hb2.mono hb1.size)
      have hb3 := hb12.trans (hb.mono hb12.size)
      clear hb1 hb2 hb12 hb
      go_wp2
      go_ret
      exact ⟨rfl, hb3⟩
end Go.Proofs.Ytdegdoiecfoieab
