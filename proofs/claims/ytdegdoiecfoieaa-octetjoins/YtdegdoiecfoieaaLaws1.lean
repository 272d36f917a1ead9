import Derived.Test.YtdegdoiecfoieaaRNum
import Derived.OpenShut
namespace Go.Proofs.Ytdegdoiecfoieaa
open Go.RowKit

theorem numB_300 : numB 300 = [2, 1, 44] := by decide
theorem numP_300 : numP [2, 1, 44, 120] = (300, 3, 0) := by decide
theorem putNum_300 (w : World) : Calls Try.prog 9 #[.int .i64 300] w fun e w' => e = .returned (.tuple #[.string ⟨#[2, 1, 44]⟩, .int .i64 0]) ∧ Below w.heap.size w w' := by
  have h := putNum_pos 300 w (by decide)
  rw [numB_300] at h
  exact h
theorem num_300 (w : World) : Calls Try.prog 12 #[.string ⟨#[2, 1, 44, 120]⟩] w fun e w' => e = .returned (.tuple #[.int .i64 300, .int .i64 3, .int .i64 0]) ∧ w' = w := by
  have h := num_any ⟨#[2, 1, 44, 120]⟩ w (by decide)
  rw [numV, show (ByteArray.mk #[2, 1, 44, 120]).data.toList = [2, 1, 44, 120] from rfl, numP_300] at h
  exact h

set_option maxHeartbeats 400000 in
theorem numbers_any (w : World) : Calls Try.prog 11 #[] w fun e w' => e = .returned (.bool true) ∧ Below w.heap.size w w' := by
  go_enter Try.func11, Try.ntmps11
  go_wp2_with fail
  refine (putNum_300 _).mono ?_
  rintro e w1 ⟨rfl, hb⟩
  go_wp2_with fail
  refine (num_300 _).mono ?_
  rintro e w2 ⟨rfl, rfl⟩
  go_wp2
  go_ret
  exact ⟨rfl, hb⟩

theorem i64_bounds {a : Int} (h : (Lit.int .i64 a).wf = true) : -9223372036854775808 ≤ a ∧ a ≤ 9223372036854775807 := by
  have := bounds_i64 h
  omega

theorem octetPuts_walk (a : Int) (w : World) (ha : (Lit.int .i64 a).wf = true) :
    Calls Try.prog 3 #[.int .i64 a] w fun e w' => e = .returned (.bool true) ∧ Below w.heap.size w w' := by
  obtain ⟨_, h2⟩ := i64_bounds ha
  rcases (show a < 0 ∨ 0 ≤ a by omega) with hn | hp
  · go_enter Try.func3, Try.ntmps3
    go_wp2_with fail
    refine (putNum_neg _ _ hn).mono ?_
    rintro e w1 ⟨rfl, rfl⟩
    go_wp2_with fail
    refine (rPutNum_neg _ _ hn).mono ?_
    rintro e w2 ⟨rfl, rfl⟩
    go_wp2_with fail
    refine (numbers_any _).mono ?_
    rintro e w3 ⟨rfl, hb⟩
    go_wp2
    go_ret
    exact ⟨rfl, hb⟩
  · obtain ⟨m, rfl⟩ := Int.eq_ofNat_of_zero_le hp
    have hm : m < 2 ^ 63 := by omega
    go_enter Try.func3, Try.ntmps3
    go_wp2_with fail
    refine (putNum_pos _ _ hm).mono ?_
    rintro e w1 ⟨rfl, hb1⟩
    go_wp2_with fail
    refine (rPutNum_pos _ _ hm).mono ?_
    rintro e w2 ⟨rfl, hb2⟩
    go_wp2_with fail
    refine (numbers_any _).mono ?_
    rintro e w3 ⟨rfl, hb3⟩
    go_wp2
    go_ret
    exact ⟨rfl, (hb1.trans (hb2.mono hb1.size)).trans (hb3.mono (Nat.le_trans hb1.size hb2.size))⟩

set_option maxHeartbeats 400000 in
theorem octetNums_walk (s : ByteArray) (w : World) (hr : s.size ≤ 140737488351232) :
    Calls Try.prog 4 #[.string s] w fun e w' => e = .returned (.bool true) ∧ Below w.heap.size w w' := by
  have hs : s.size ≤ maxLen := by unfold maxLen; omega
  go_enter Try.func4, Try.ntmps4
  go_wp2_with fail
  refine (num_any _ _ hs).mono ?_
  rintro e w1 ⟨rfl, rfl⟩
  unfold numV
  go_wp2_with fail
  refine (rNum_any _ _ hs).mono ?_
  rintro e w2 ⟨rfl, rfl⟩
  unfold numV
  go_wp2_with fail
  refine (numbers_any _).mono ?_
  rintro e w3 ⟨rfl, hb⟩
  go_wp2
  go_ret
  exact ⟨rfl, hb⟩

theorem numV_back (m : Nat) (hm : m < 2 ^ 63) (t : List UInt8) : numV (numB m ++ t) = .tuple #[.int .i64 (m : Int), .int .i64 ((numB m).length : Int), .int .i64 0] := by
  rw [numV, numP_numB m hm]; rfl

theorem size_list (l : List UInt8) : (⟨l.toArray⟩ : ByteArray).size = l.length := by rw [← ByteArray.size_data]; simp
theorem append_data (a b : ByteArray) : (a ++ b).data.toList = a.data.toList ++ b.data.toList := by simp
theorem data_list (l : List UInt8) : (⟨l.toArray⟩ : ByteArray).data.toList = l := rfl

set_option maxHeartbeats 400000 in
theorem octetBack_walk (a b : Int) (s : ByteArray) (w : World) (ha : (Lit.int .i64 a).wf = true) (hb : (Lit.int .i64 b).wf = true) (hr : s.size ≤ 140737488351232) :
    Calls Try.prog 5 #[.int .i64 a, .int .i64 b, .string s] w fun e w' => e = .returned (.bool true) ∧ Below w.heap.size w w' := by
  obtain ⟨_, h2⟩ := i64_bounds ha
  obtain ⟨_, h4⟩ := i64_bounds hb
  rcases (show a < 0 ∨ 0 ≤ a by omega) with hn | hp
  · go_enter Try.func5, Try.ntmps5
    go_wp2_with fail
    refine (putNum_neg _ _ hn).mono ?_
    rintro e w1 ⟨rfl, rfl⟩
    go_wp2_with fail
    refine (numbers_any _).mono ?_
    rintro e w3 ⟨rfl, hb⟩
    go_wp2
    go_ret
    exact ⟨rfl, hb⟩
  · obtain ⟨m, rfl⟩ := Int.eq_ofNat_of_zero_le hp
    have hm : m < 2 ^ 63 := by omega
    have hl9 := numB_le m
    have hsz := size_list (numB m)
    rcases (show b < 0 ∨ 0 ≤ b by omega) with hn | hp2
    · go_enter Try.func5, Try.ntmps5
      go_wp2_with fail
      refine (putNum_pos _ _ hm).mono ?_
      rintro e w1 ⟨rfl, hb1⟩
      go_wp2_with fail
      refine (num_any _ _ (by unfold maxLen; rw [ByteArray.size_append, size_list]; omega)).mono ?_
      rintro e w2 ⟨rfl, rfl⟩
      rw [append_data, data_list, numV_back m hm]
      go_wp2_with fail
      refine (putNum_neg _ _ hn).mono ?_
      rintro e w3 ⟨rfl, rfl⟩
      go_wp2_with fail
      refine (numbers_any _).mono ?_
      rintro e w4 ⟨rfl, hb4⟩
      go_wp2
      go_ret
      exact ⟨rfl, hb1.trans (hb4.mono hb1.size)⟩
    · obtain ⟨q, rfl⟩ := Int.eq_ofNat_of_zero_le hp2
      have hq : q < 2 ^ 63 := by omega
      by_cases hmq : m = q
      · subst hmq
        go_enter Try.func5, Try.ntmps5
        go_wp2_with fail
        refine (putNum_pos _ _ hm).mono ?_
        rintro e w1 ⟨rfl, hb1⟩
        go_wp2_with fail
        refine (num_any _ _ (by unfold maxLen; rw [ByteArray.size_append, size_list]; omega)).mono ?_
        rintro e w2 ⟨rfl, rfl⟩
        rw [append_data, data_list, numV_back m hm]
        go_wp2_with fail
        refine (putNum_pos _ _ hm).mono ?_
        rintro e w3 ⟨rfl, hb3⟩
        go_wp2_with fail
        refine (numbers_any _).mono ?_
        rintro e w4 ⟨rfl, hb4⟩
        go_wp2
        go_ret
        exact ⟨rfl, (hb1.trans (hb3.mono hb1.size)).trans (hb4.mono (Nat.le_trans hb1.size hb3.size))⟩
      · have hne : ((⟨(numB m).toArray⟩ : ByteArray).toList == (⟨(numB q).toArray⟩ : ByteArray).toList) = false := by
          rw [beq_eq_false_iff_ne]; intro h; rw [ByteArray.toList_eq, ByteArray.toList_eq] at h
          exact hmq (numB_inj hm hq h)
        have hne2 : ((m : Int) == (q : Int)) = false := by rw [beq_eq_false_iff_ne]; omega
        have hne3 : ¬ numB m = numB q := fun h => hmq (numB_inj hm hq h)
        have hne4 : (numB m == numB q) = false := by rw [beq_eq_false_iff_ne]; exact hne3
        go_enter Try.func5, Try.ntmps5
        go_wp2_with fail
        refine (putNum_pos _ _ hm).mono ?_
        rintro e w1 ⟨rfl, hb1⟩
        go_wp2_with fail
        refine (num_any _ _ (by unfold maxLen; rw [ByteArray.size_append, size_list]; omega)).mono ?_
        rintro e w2 ⟨rfl, rfl⟩
        rw [append_data, data_list, numV_back m hm]
        go_wp2_with fail
        refine (putNum_pos _ _ hq).mono ?_
        rintro e w3 ⟨rfl, hb3⟩
        go_wp2_with fail
        refine (numbers_any _).mono ?_
        rintro e w4 ⟨rfl, hb4⟩
        go_wp2
        go_ret
        exact ⟨rfl, (hb1.trans (hb3.mono hb1.size)).trans (hb4.mono (Nat.le_trans hb1.size hb3.size))⟩
end Go.Proofs.Ytdegdoiecfoieaa
