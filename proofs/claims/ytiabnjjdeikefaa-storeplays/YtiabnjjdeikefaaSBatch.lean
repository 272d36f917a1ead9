/- isBatch, turnedBy, countBehind of the program. -/
import Derived.Test.YtiabnjjdeikefaaSState
namespace Go.Proofs.Ytiabnjjdeikefaa
open Go.RowKit

theorem isL_any (s : List UInt8) (w : World) : Calls Try.prog 42 #[strV s] w fun e w' => e = .returned (.bool (isW s)) ∧ w' = w := by
  have := is_any ⟨s.toArray⟩ w
  simpa using this
theorem all_take {b : List Chg} {i : Nat} {c : Chg} (hc : b[i]? = some c) (h : ∀ x ∈ b.take i, isTW x.2 = true) (hm : isTW c.2 = true) : ∀ x ∈ b.take (i + 1), isTW x.2 = true := by
  intro x hx
  rw [List.take_add_one, hc] at hx
  rcases List.mem_append.1 hx with hx | hx
  · exact h x hx
  · simp at hx; subst hx; exact hm
theorem may_no {b : List Chg} {i : Nat} {c : Chg} (hc : b[i]? = some c) (hm : isTW c.2 = false) : mayT b = false := by
  cases h : mayT b with
  | false => rfl
  | true => rw [mayT_word h (List.mem_of_getElem? hc)] at hm; cases hm
theorem may_yes {b : List Chg} (hl : b.length ≤ 64) (h : ∀ x ∈ b.take b.length, isTW x.2 = true) : mayT b = true := by
  rw [List.take_length] at h
  simp only [mayT, Bool.and_eq_true, decide_eq_true_eq, List.all_eq_true]
  exact ⟨hl, h⟩

set_option maxHeartbeats 2000000 in
set_option maxRecDepth 100000 in
theorem isBatch_any {S : Nat → Prop} {w : World} {v : Value} {bt : List Chg} (h : ChgsS S w v bt) (hl : bt.length ≤ 9223372036854775807) :
    Calls Try.prog 29 #[v] w fun e w' => e = .returned (.bool (mayT bt)) ∧ Below w.heap.size w w' := by
  obtain ⟨ao, cap, rfl⟩ := h.slice
  have H := Hid.mk h
  clear h
  by_cases h64 : 64 < bt.length
  · have h64I : (64 : Int) < (bt.length : Int) := by omega
    have hm : mayT bt = false := by simp [mayT]; omega
    rw [hm]
    go_enter Try.func29, Try.ntmps29
    go_wp2
    go_ret
    exact ⟨rfl, Below.refl _ _⟩
  · have h64I : ¬ (64 : Int) < (bt.length : Int) := by omega
    obtain ⟨n, hn⟩ : ∃ n, n = bt.length := ⟨_, rfl⟩
    rw [← hn] at H h64I hl ⊢
    have HN := Hid.mk hn
    have HL : Hid (bt.length ≤ 64) := Hid.mk (by omega)
    obtain ⟨ans, hans⟩ : ∃ a, a = mayT bt := ⟨_, rfl⟩
    rw [← hans]
    have HA := Hid.mk hans
    clear hn h64 hans
    go_enter Try.func29, Try.ntmps29
    go_wp2_with fail
    go_loopw [10] (fun c wr => ∃ i : Nat, i ≤ n ∧ c = .int .i64 i ∧ (∀ x ∈ bt.take i, isTW x.2 = true) ∧ Below w.heap.size w wr) (fun c _ => n - (intOf c).toNat)
    case atStart => exact ⟨0, Nat.zero_le _, rfl, by simp, Below.refl _ _⟩
    case round =>
      obtain ⟨i, hi, rfl, hall, hB⟩ := hrel
      have HAll := Hid.mk hall
      have HB := Hid.mk hB
      clear hall hB
      by_cases hlt : i < n
      · have hltI : (i : Int) < (n : Int) := by omega
        obtain ⟨c, hc⟩ : ∃ c, bt[i]? = some c := ⟨_, List.getElem?_eq_getElem (by rw [← HN.out]; exact hlt)⟩
        obtain ⟨g, off, rfl, _, _, hcell⟩ := (H.out.below HB.out).get hc
        obtain ⟨q0, q1, q2, q3⟩ := get4 hcell
        have HC := Hid.mk hc
        clear hc hcell
        have HBn : Hid (Below w.heap.size w (wr.alloc (.cells #[.bool c.1, strV c.2.1, strV c.2.2.1, strV c.2.2.2] 54))) := Hid.mk (HB.out.alloc HB.out.size _)
        have I1 : Hid (∀ w, Calls Try.prog 42 #[strV c.2.1] w fun e w' => e = .returned (.bool (isW c.2.1)) ∧ w' = w) := Hid.mk (isL_any _)
        have I2 : Hid (∀ w, Calls Try.prog 42 #[strV c.2.2.1] w fun e w' => e = .returned (.bool (isW c.2.2.1)) ∧ w' = w) := Hid.mk (isL_any _)
        have I3 : Hid (∀ w, Calls Try.prog 42 #[strV c.2.2.2] w fun e w' => e = .returned (.bool (isW c.2.2.2)) ∧ w' = w) := Hid.mk (isL_any _)
        have HT : Hid (isTW c.2 = (isW c.2.1 && isW c.2.2.1 && isW c.2.2.2)) := Hid.mk rfl
        obtain ⟨m1, hm1⟩ : ∃ m, m = isW c.2.1 := ⟨_, rfl⟩
        obtain ⟨m2, hm2⟩ : ∃ m, m = isW c.2.2.1 := ⟨_, rfl⟩
        obtain ⟨m3, hm3⟩ : ∃ m, m = isW c.2.2.2 := ⟨_, rfl⟩
        rw [← hm1] at I1 HT
        rw [← hm2] at I2 HT
        rw [← hm3] at I3 HT
        clear hm1 hm2 hm3
        cases m1 with
        | false =>
          have HF : Hid (ans = false) := Hid.mk (by rw [HA.out]; exact may_no HC.out (by rw [HT.out]; rfl))
          go_wp2_with fail
          refine (I1.out _).mono ?_
          rintro e w1 ⟨rfl, hw⟩
          subst hw
          go_wp2
          go_ret
          exact ⟨by rw [HF.out]; rfl, HBn.out⟩
        | true =>
          cases m2 with
          | false =>
            have HF : Hid (ans = false) := Hid.mk (by rw [HA.out]; exact may_no HC.out (by rw [HT.out]; rfl))
            go_wp2_with fail
            refine (I1.out _).mono ?_
            rintro e w1 ⟨rfl, hw⟩
            subst hw
            go_wp2_with fail
            refine (I2.out _).mono ?_
            rintro e w1 ⟨rfl, hw⟩
            subst hw
            go_wp2
            go_ret
            exact ⟨by rw [HF.out]; rfl, HBn.out⟩
          | true =>
            cases m3 with
            | false =>
              have HF : Hid (ans = false) := Hid.mk (by rw [HA.out]; exact may_no HC.out (by rw [HT.out]; rfl))
              go_wp2_with fail
              refine (I1.out _).mono ?_
              rintro e w1 ⟨rfl, hw⟩
              subst hw
              go_wp2_with fail
              refine (I2.out _).mono ?_
              rintro e w1 ⟨rfl, hw⟩
              subst hw
              go_wp2_with fail
              refine (I3.out _).mono ?_
              rintro e w1 ⟨rfl, hw⟩
              subst hw
              go_wp2
              go_ret
              exact ⟨by rw [HF.out]; rfl, HBn.out⟩
            | true =>
              have HA2 := Hid.mk (all_take HC.out HAll.out (by rw [HT.out]; rfl))
              go_wp2_with fail
              refine (I1.out _).mono ?_
              rintro e w1 ⟨rfl, hw⟩
              subst hw
              go_wp2_with fail
              refine (I2.out _).mono ?_
              rintro e w1 ⟨rfl, hw⟩
              subst hw
              go_wp2_with fail
              refine (I3.out _).mono ?_
              rintro e w1 ⟨rfl, hw⟩
              subst hw
              go_wp2
              go_roundw
              case rel => exact ⟨i + 1, by omega, by go_num, HA2.out, HBn.out⟩
              case measure => simp [intOf]; omega
      · have hin : i = n := by omega
        have HF : Hid (ans = true) := Hid.mk (by
          rw [HA.out]
          refine may_yes HL.out ?_
          rw [← HN.out, ← hin]; exact HAll.out)
        have hltI : ¬ (i : Int) < (n : Int) := by omega
        clear hin
        go_wp2
        go_ret
        exact ⟨by rw [HF.out]; rfl, HB.out⟩
end Go.Proofs.Ytiabnjjdeikefaa
