import Derived.Test.YtmbflcjjknkcaaaCHome
namespace Go.Proofs.Ytmbflcjjknkcaaa
open Go.RowKit

theorem mod_home (z : Nat) (n : Int) (h1 : 1 ≤ n) : 0 ≤ (z : Int) % n ∧ (z : Int) % n < n := ⟨Int.emod_nonneg _ (by omega), Int.emod_lt_of_pos _ (by omega)⟩

set_option maxHeartbeats 400000 in
theorem checkHomes_walk (s : ByteArray) (n : Int) (w : World) (hr : s.size ≤ 140737488351232) (_ : (Lit.int .i64 n).wf = true) :
    Calls Try.prog 6 #[.string s, .int .i64 n] w fun e w' => e = .returned (.bool true) ∧ Below w.heap.size w w' := by
  by_cases hl : 4096 < s.size
  · go_enter Try.func6, Try.ntmps6
    go_wp2_with fail
    refine (homes_any _).mono ?_
    rintro e w1 ⟨rfl, hb⟩
    go_wp2
    go_ret
    exact ⟨rfl, hb⟩
  · by_cases hg : 1 ≤ n ∧ n ≤ 64 ∧ ¬ s.size = 0
    · obtain ⟨h1, h2, h3⟩ := hg
      obtain ⟨m, hm⟩ : ∃ m, m = ((sumN s.data.toList : Nat) : Int) % n := ⟨_, rfl⟩
      have hh := mod_home (sumN s.data.toList) n h1
      have c1 := fun w => home_good s n w hr h1 h2 h3
      have c2 := fun w => rHome_good s n w hr h1 h2 h3
      rw [← hm] at hh c1 c2
      obtain ⟨hm1, hm2⟩ := hh
      have C1 := chid c1
      have C2 := chid c2
      clear c1 c2 hm h3
      go_enter Try.func6, Try.ntmps6
      go_wp2_with fail
      refine (C1.out _).mono ?_
      rintro e w1 ⟨rfl, hb1⟩
      go_wp2_with fail
      refine (C2.out _).mono ?_
      rintro e w2 ⟨rfl, hb2⟩
      go_wp2_with fail
      refine (homes_any _).mono ?_
      rintro e w3 ⟨rfl, hb3⟩
      go_wp2
      go_ret
      exact ⟨rfl, (hb1.trans (hb2.mono hb1.size)).trans (hb3.mono (Nat.le_trans hb1.size hb2.size))⟩
    · have hbad : n < 1 ∨ 64 < n ∨ s.size = 0 := by omega
      have C1 := chid (fun w => home_bad s n w hbad)
      have C2 := chid (fun w => rHome_bad s n w hbad)
      clear hg hbad
      go_enter Try.func6, Try.ntmps6
      go_wp2_with fail
      refine (C1.out _).mono ?_
      rintro e w1 ⟨rfl, rfl⟩
      go_wp2_with fail
      refine (C2.out _).mono ?_
      rintro e w2 ⟨rfl, rfl⟩
      go_wp2_with fail
      refine (homes_any _).mono ?_
      rintro e w3 ⟨rfl, hb3⟩
      go_wp2
      go_ret
      exact ⟨rfl, hb3⟩

theorem i64_and31 (n : Int) : bits .and .i64 n 31 = n % 32 := by
  have hm : (BitVec.ofInt 64 31).toNat = 2 ^ 5 - 1 := by decide
  have key : (BitVec.ofInt 64 n &&& BitVec.ofInt 64 31).toNat = (n % ((2 ^ 64 : Nat) : Int)).toNat % 2 ^ 5 := by
    rw [BitVec.toNat_and, BitVec.toNat_ofInt, hm, Nat.and_two_pow_sub_one_eq_mod]
  show IntKind.i64.wrap ((BitVec.ofInt 64 n &&& BitVec.ofInt 64 31).toNat : Nat) = n % 32
  rw [key, IntKind.wrap_i64]
  omega

set_option maxHeartbeats 400000 in
theorem checkHalves_walk (s : ByteArray) (n : Int) (w : World) (hr : s.size ≤ 140737488351232) (_ : (Lit.int .i64 n).wf = true) :
    Calls Try.prog 7 #[.string s, .int .i64 n] w fun e w' => e = .returned (.bool true) ∧ Below w.heap.size w w' := by
  by_cases hl : 4096 < s.size
  · go_enter Try.func7, Try.ntmps7
    go_wp2_with fail
    refine (homes_any _).mono ?_
    rintro e w1 ⟨rfl, hb⟩
    go_wp2
    go_ret
    exact ⟨rfl, hb⟩
  · by_cases h3 : s.size = 0
    · have he : s.toList.isEmpty = true := by rw [empty_iff]; exact decide_eq_true h3
      go_enter Try.func7, Try.ntmps7
      go_wp2_with fail
      refine (homes_any _).mono ?_
      rintro e w1 ⟨rfl, hb⟩
      go_wp2
      go_ret
      exact ⟨rfl, hb⟩
    · have he : s.toList.isEmpty = false := by rw [empty_iff]; exact decide_eq_false h3
      have hq0 := i64_and31 n
      obtain ⟨q, hq, hq2⟩ : ∃ q : Nat, bits .and .i64 n 31 = (q : Int) ∧ q ≤ 31 := ⟨(n % 32).toNat, by rw [hq0]; omega, by omega⟩
      clear hq0
      obtain ⟨z, hz⟩ : ∃ z, z = sumN s.data.toList := ⟨_, rfl⟩
      have c1 := fun w => home_good s (1 + (q : Int)) w hr (by omega) (by omega) h3
      have c2 := fun w => home_good s (2 * (1 + (q : Int))) w hr (by omega) (by omega) h3
      have c3 := fun w => home_good s 1 w hr (by omega) (by omega) h3
      rw [← hz] at c1 c2 c3
      have e1 : ((z : Int) % (2 * (1 + (q : Int)))) % (1 + (q : Int)) = (z : Int) % (1 + (q : Int)) := Int.emod_emod_of_dvd _ ⟨2, by omega⟩
      have e0 := mod_home z (1 + (q : Int)) (by omega)
      have e2 := mod_home z (2 * (1 + (q : Int))) (by omega)
      rw [Int.emod_one] at c3
      obtain ⟨a, ha⟩ : ∃ a, a = (z : Int) % (1 + (q : Int)) := ⟨_, rfl⟩
      obtain ⟨b, hb⟩ : ∃ b, b = (z : Int) % (2 * (1 + (q : Int))) := ⟨_, rfl⟩
      rw [← ha] at c1 e1 e0
      rw [← hb] at c2 e1 e2
      have C1 := chid c1; have C2 := chid c2; have C3 := chid c3
      clear c1 c2 c3 ha hb hz
      go_enter Try.func7, Try.ntmps7
      go_wp2_with fail
      refine (C1.out _).mono ?_
      rintro e w1 ⟨rfl, hb1⟩
      go_wp2_with fail
      refine (C2.out _).mono ?_
      rintro e w2 ⟨rfl, hb2⟩
      go_wp2_with fail
      refine (C3.out _).mono ?_
      rintro e w3 ⟨rfl, hb3⟩
      go_wp2_with fail
      refine (homes_any _).mono ?_
      rintro e w4 ⟨rfl, hb4⟩
      go_wp2
      go_ret
      exact ⟨rfl, ((hb1.trans (hb2.mono hb1.size)).trans (hb3.mono (Nat.le_trans hb1.size hb2.size))).trans (hb4.mono (Nat.le_trans (Nat.le_trans hb1.size hb2.size) hb3.size))⟩
end Go.Proofs.Ytmbflcjjknkcaaa
