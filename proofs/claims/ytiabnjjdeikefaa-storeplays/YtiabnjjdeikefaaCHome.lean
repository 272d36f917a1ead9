import Derived.Test.YtiabnjjdeikefaaCLaws1
namespace Go.Proofs.Ytiabnjjdeikefaa
open Go.RowKit

theorem empty_iff (s : ByteArray) : s.toList.isEmpty = decide (s.size = 0) := by
  rw [ByteArray.toList_eq]
  cases s with | mk d =>
  cases d with | mk l =>
  cases l with
  | nil => rfl
  | cons a l => exact (decide_eq_false (by simp [ByteArray.size])).symm

set_option maxRecDepth 100000 in
set_option maxHeartbeats 400000 in
theorem home_bad (s : ByteArray) (n : Int) (w : World) (h : n < 1 ∨ 64 < n ∨ s.size = 0) :
    Calls Try.prog 38 #[.string s, .int .i64 n] w fun e w' => e = .returned (.tuple #[.int .i64 0, .int .i64 1]) ∧ w' = w := by
  by_cases h1 : n < 1
  · clear h
    go_enter Try.func38, Try.ntmps38
    go_wp2
    go_ret2
    exact ⟨rfl, rfl⟩
  · by_cases h2 : 64 < n
    · clear h
      go_enter Try.func38, Try.ntmps38
      go_wp2
      go_ret2
      exact ⟨rfl, rfl⟩
    · have h3 : s.toList.isEmpty = true := by
        rw [empty_iff]; rcases h with h | h | h
        · omega
        · omega
        · exact decide_eq_true h
      clear h
      go_enter Try.func38, Try.ntmps38
      go_wp2
      go_ret2
      exact ⟨rfl, rfl⟩

set_option maxRecDepth 100000 in
set_option maxHeartbeats 400000 in
theorem home_good (s : ByteArray) (n : Int) (w : World) (hr : s.size ≤ 140737488351232) (h1 : 1 ≤ n) (h2 : n ≤ 64) (h3 : ¬ s.size = 0) :
    Calls Try.prog 38 #[.string s, .int .i64 n] w fun e w' => e = .returned (.tuple #[.int .i64 ((sumN s.data.toList : Nat) % n), .int .i64 0]) ∧ Below w.heap.size w w' := by
  have h3b : s.toList.isEmpty = false := by rw [empty_iff]; exact decide_eq_false h3
  have hsl := sumN_lt s.data.toList
  go_enter Try.func38, Try.ntmps38
  go_wp2_with fail
  refine (sum_any _ _ hr).mono ?_
  rintro e w1 ⟨rfl, hb⟩
  go_wp2
  go_ret2
  exact ⟨rfl, hb⟩

set_option maxRecDepth 100000 in
set_option maxHeartbeats 400000 in
theorem rHome_bad (s : ByteArray) (n : Int) (w : World) (h : n < 1 ∨ 64 < n ∨ s.size = 0) :
    Calls Try.prog 39 #[.string s, .int .i64 n] w fun e w' => e = .returned (.tuple #[.int .i64 0, .int .i64 1]) ∧ w' = w := by
  by_cases h1 : n < 1
  · clear h
    go_enter Try.func39, Try.ntmps39
    go_wp2
    go_ret2
    exact ⟨rfl, rfl⟩
  · by_cases h2 : 64 < n
    · clear h
      go_enter Try.func39, Try.ntmps39
      go_wp2
      go_ret2
      exact ⟨rfl, rfl⟩
    · have h3 : s.toList.isEmpty = true := by
        rw [empty_iff]; rcases h with h | h | h
        · omega
        · omega
        · exact decide_eq_true h
      clear h
      go_enter Try.func39, Try.ntmps39
      go_wp2
      go_ret2
      exact ⟨rfl, rfl⟩

set_option maxRecDepth 100000 in
set_option maxHeartbeats 400000 in
theorem rHome_good (s : ByteArray) (n : Int) (w : World) (hr : s.size ≤ 140737488351232) (h1 : 1 ≤ n) (h2 : n ≤ 64) (h3 : ¬ s.size = 0) :
    Calls Try.prog 39 #[.string s, .int .i64 n] w fun e w' => e = .returned (.tuple #[.int .i64 ((sumN s.data.toList : Nat) % n), .int .i64 0]) ∧ Below w.heap.size w w' := by
  have h3b : s.toList.isEmpty = false := by rw [empty_iff]; exact decide_eq_false h3
  have hsl := sumN_lt s.data.toList
  go_enter Try.func39, Try.ntmps39
  go_wp2_with fail
  refine (rSum_any _ _ hr).mono ?_
  rintro e w1 ⟨rfl, hb⟩
  go_wp2
  go_ret2
  exact ⟨rfl, hb ▸ Below.refl _ _⟩

theorem home_digits (w : World) : Calls Try.prog 38 #[.string ⟨#[49, 50, 51, 52, 53, 54, 55, 56, 57]⟩, .int .i64 64] w fun e w' => e = .returned (.tuple #[.int .i64 24, .int .i64 0]) ∧ Below w.heap.size w w' := by
  have h := home_good ⟨#[49, 50, 51, 52, 53, 54, 55, 56, 57]⟩ 64 w (by decide) (by omega) (by omega) (by decide)
  rw [show (ByteArray.mk #[49, 50, 51, 52, 53, 54, 55, 56, 57]).data.toList = [49, 50, 51, 52, 53, 54, 55, 56, 57] from rfl, sum_nine] at h
  exact h

end Go.Proofs.Ytiabnjjdeikefaa
