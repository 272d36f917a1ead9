/- Parts of a word are within their number. -/
import Derived.Test.YtbknlmalfkpenaaHAwake
namespace Go.Proofs.Ytbknlmalfkpenaa
open Go.RowKit

theorem partM_one (s : ByteArray) : partM s 1 = 0 := by rw [partM_good (by omega) (by omega)]; exact Int.emod_one _
theorem partM_two (s : ByteArray) : (partM s 64) % 2 = partM s 2 := by
  rw [partM_good (by omega) (by omega), partM_good (by omega) (by omega)]
  exact Int.emod_emod_of_dvd _ ⟨32, by omega⟩
set_option maxHeartbeats 4000000 in
set_option maxRecDepth 100000 in
theorem sharePart_walk (s : ByteArray) (z : Int) (w : World) (_ : s.size ≤ 140737488351232) (_ : (Lit.int .i64 z).wf = true) :
    Calls Try.prog 7 #[.string s, .int .i64 z] w fun e w' => e = .returned (.bool true) ∧ Below w.heap.size w w' := by
  by_cases hl : 4096 < s.size
  · have hI : (4096 : Int) < (s.size : Int) := by omega
    have HC := Hid.mk (awake_any w)
    go_enter Try.func7, Try.ntmps7
    go_wp2_with fail
    refine HC.out.mono ?_
    rintro e w1 ⟨rfl, hb⟩
    go_wp2
    go_ret
    exact ⟨rfl, hb⟩
  · have hI : ¬ (4096 : Int) < (s.size : Int) := by omega
    have hs : s.size ≤ 140737488351000 := by omega
    obtain ⟨q, hq, hq2⟩ : ∃ q : Nat, bits .and .i64 z 63 = (q : Int) ∧ q ≤ 63 := ⟨(z % 64).toNat, by rw [i64_maskH z 6 63 64 (by omega) (by decide) (by decide)]; omega, by omega⟩
    have HK := Hid.mk (fun (p : Int) (W : World) => part_any s p W hs)
    obtain ⟨r0, r1⟩ := partM_range s (p := 1 + (q : Int)) (by omega) (by omega)
    obtain ⟨r2, r3⟩ := partM_range s (p := 64) (by omega) (by omega)
    have e1 := partM_one s
    have e65 := partM_bad (s := s) (p := 65) (.inr (by omega))
    have e0 := partM_bad (s := s) (p := 0) (.inl (by omega))
    have e2 := partM_two s
    obtain ⟨x, hx⟩ : ∃ x, x = partM s (1 + (q : Int)) := ⟨_, rfl⟩
    obtain ⟨y, hy⟩ : ∃ y, y = partM s 64 := ⟨_, rfl⟩
    rw [← hx] at r0 r1
    rw [← hy] at r2 r3 e2
    have C1 : Hid (∀ W, Calls Try.prog 20 #[.string s, .int .i64 (1 + (q : Int))] W fun e w' => e = .returned (.int .i64 x) ∧ Below W.heap.size W w') := Hid.mk (fun W => by rw [hx]; exact HK.out _ W)
    have C2 : Hid (∀ W, Calls Try.prog 20 #[.string s, .int .i64 1] W fun e w' => e = .returned (.int .i64 0) ∧ Below W.heap.size W w') := Hid.mk (fun W => by have := HK.out 1 W; rw [e1] at this; exact this)
    have C3 : Hid (∀ W, Calls Try.prog 20 #[.string s, .int .i64 65] W fun e w' => e = .returned (.int .i64 0) ∧ Below W.heap.size W w') := Hid.mk (fun W => by have := HK.out 65 W; rw [e65] at this; exact this)
    have C4 : Hid (∀ W, Calls Try.prog 20 #[.string s, .int .i64 0] W fun e w' => e = .returned (.int .i64 0) ∧ Below W.heap.size W w') := Hid.mk (fun W => by have := HK.out 0 W; rw [e0] at this; exact this)
    have C5 : Hid (∀ W, Calls Try.prog 20 #[.string s, .int .i64 64] W fun e w' => e = .returned (.int .i64 y) ∧ Below W.heap.size W w') := Hid.mk (fun W => by rw [hy]; exact HK.out _ W)
    have C6 : Hid (∀ W, Calls Try.prog 20 #[.string s, .int .i64 2] W fun e w' => e = .returned (.int .i64 (y.tmod 2)) ∧ Below W.heap.size W w') := Hid.mk (fun W => by have := HK.out 2 W; rw [← e2, ← Int.tmod_eq_emod_of_nonneg r2] at this; exact this)
    obtain ⟨t, ht⟩ : ∃ t, y.tmod 2 = t := ⟨_, rfl⟩
    have ht2 : 0 ≤ t ∧ t < 2 := by rw [← ht, Int.tmod_eq_emod_of_nonneg r2]; omega
    rw [ht] at C6
    obtain ⟨ht3, ht4⟩ := ht2
    clear hx hy e1 e65 e0 e2 HK
    go_enter Try.func7, Try.ntmps7
    go_wp2_with fail
    refine (C1.out w).mono ?_
    rintro e w1 ⟨rfl, hb1⟩
    go_wp2_with fail
    refine (C2.out w1).mono ?_
    rintro e w2 ⟨rfl, hb2⟩
    have hb2 := hb1.trans (hb2.mono hb1.size)
    go_wp2_with fail
    refine (C3.out w2).mono ?_
    rintro e w3 ⟨rfl, hb3⟩
    have hb3 := hb2.trans (hb3.mono hb2.size)
    go_wp2_with fail
    refine (C4.out w3).mono ?_
    rintro e w4 ⟨rfl, hb4⟩
    have hb4 := hb3.trans (hb4.mono hb3.size)
    go_wp2_with fail
    refine (C5.out w4).mono ?_
    rintro e w5 ⟨rfl, hb5⟩
    have hb5 := hb4.trans (hb5.mono hb4.size)
    go_wp2_with fail
    refine (C6.out w5).mono ?_
    rintro e w6 ⟨rfl, hb6⟩
    have hb6 := hb5.trans (hb6.mono hb5.size)
    have HC := Hid.mk (awake_any w6)
    go_wp2_with fail
    refine HC.out.mono ?_
    rintro e w7 ⟨rfl, hb7⟩
    have HB7 := Hid.mk (hb6.trans (hb7.mono hb6.size))
    clear hb1 hb2 hb3 hb4 hb5 hb6 hb7
    go_wp2
    go_ret
    exact ⟨rfl, HB7.out⟩
end Go.Proofs.Ytbknlmalfkpenaa
