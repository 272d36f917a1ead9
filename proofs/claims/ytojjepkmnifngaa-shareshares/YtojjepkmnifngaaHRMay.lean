/- Whether shares may be, and how many cells there are: the document's. -/
import Derived.Test.YtojjepkmnifngaaHAwake
namespace Go.Proofs.Ytojjepkmnifngaa
open Go.RowKit

/-- The first ones are 1 to 64 each, and their product but for the last is at most 64. -/
theorem may_no {L : List Int} {i : Nat} {x : Int} (hx : L[i]? = some x) (h : x < 1 ∨ 64 < x ∨ 64 < prodI (L.take i)) (hall : ∀ y ∈ L.take i, 1 ≤ y) : okL L = false := by
  cases hk : okL L with
  | false => rfl
  | true =>
    have hm := okL_mem hk (List.mem_of_getElem? hx)
    have hp := (okL_iff.1 (ok_take i hk)).2.2
    have := prodI_pos hall
    omega
set_option maxRecDepth 100000 in
set_option maxHeartbeats 2000000 in
theorem rMay_any {S : Nat → Prop} {w : World} {v : Value} {L : List Int} (h : IntZ S w v L) (hl : L.length ≤ 9223372036854775807) :
    Calls Try.prog 24 #[v] w fun e w' => e = .returned (.bool (okL L)) ∧ w' = w := by
  obtain ⟨ao, cap, rfl⟩ := h.slice
  have H := Hid.mk h
  obtain ⟨n, hn⟩ : ∃ n, n = L.length := ⟨_, rfl⟩
  rw [← hn] at hl H ⊢
  have HN := Hid.mk hn
  obtain ⟨ans, hans⟩ : ∃ a, a = okL L := ⟨_, rfl⟩
  rw [← hans]
  have HA := Hid.mk hans
  clear h hn hans
  go_enter Try.func24, Try.ntmps24
  go_wp2_with fail
  go_loopw [3, 4] (fun k c wr => ∃ i : Nat, i ≤ n ∧ c = .int .i64 i ∧ (∀ y ∈ L.take i, 1 ≤ y) ∧ k = .int .i64 (prodI (L.take i)) ∧ prodI (L.take i) ≤ 4096 ∧ wr = w) (fun _ c _ => n - (intOf c).toNat)
  case atStart => exact ⟨0, Nat.zero_le _, rfl, by simp, rfl, by simp [prodI], rfl⟩
  case round =>
    obtain ⟨i, hi, rfl, hall, rfl, hpb, h⟩ := hrel
    rw [h]
    clear h
    have hp1 := prodI_pos hall
    have HALL := Hid.mk hall
    clear hall
    obtain ⟨P, hP⟩ : ∃ P, P = prodI (L.take i) := ⟨_, rfl⟩
    rw [← hP] at hp1 hpb ⊢
    have HP := Hid.mk hP
    clear hP
    by_cases hlt : i < n
    · have hltI : (i : Int) < (n : Int) := by omega
      obtain ⟨x, hx⟩ : ∃ x, L[i]? = some x := ⟨_, List.getElem?_eq_getElem (by rw [← HN.out]; exact hlt)⟩
      obtain ⟨g, off, rfl, _, _, hcell⟩ := H.out.get hx
      have q0 := getZ hcell
      rw [Nat.mul_one] at q0
      have HX := Hid.mk hx
      have HPS := Hid.mk (prodI_snoc hx)
      rw [← HP.out] at HPS
      clear hx hcell
      by_cases h1 : x < 1
      · have HF : Hid (ans = false) := Hid.mk (by rw [HA.out]; exact may_no HX.out (.inl h1) HALL.out)
        go_wp2
        go_ret
        exact ⟨by rw [HF.out]; rfl, rfl⟩
      · by_cases h2 : 64 < x
        · have HF : Hid (ans = false) := Hid.mk (by rw [HA.out]; exact may_no HX.out (.inr (.inl h2)) HALL.out)
          go_wp2
          go_ret
          exact ⟨by rw [HF.out]; rfl, rfl⟩
        · by_cases h3 : 64 < P
          · have HF : Hid (ans = false) := Hid.mk (by rw [HA.out]; exact may_no HX.out (.inr (.inr (by rw [← HP.out]; exact h3))) HALL.out)
            go_wp2
            go_ret
            exact ⟨by rw [HF.out]; rfl, rfl⟩
          · have hmul : 0 ≤ P * x ∧ P * x ≤ 64 * 64 := ⟨Int.mul_nonneg (by omega) (by omega), Int.mul_le_mul (by omega) (by omega) (by omega) (by omega)⟩
            obtain ⟨hm0, hm1⟩ := hmul
            have HA2 : Hid (∀ y ∈ L.take (i + 1), 1 ≤ y) := Hid.mk (by
              rw [take_snoc HX.out]
              intro y hy
              rcases List.mem_append.1 hy with hy | hy
              · exact HALL.out y hy
              · rw [List.mem_singleton.1 hy]; omega)
            have HPB : Hid (prodI (L.take (i + 1)) ≤ 4096) := Hid.mk (by rw [HPS.out]; omega)
            go_wp2
            go_roundw
            case rel => exact ⟨i + 1, by omega, by go_num, HA2.out, by rw [HPS.out], HPB.out, by trivial⟩
            case measure => simp [intOf]; omega
    · have hltI : ¬ (i : Int) < (n : Int) := by omega
      have HT : Hid (L.take i = L) := Hid.mk (List.take_of_length_le (by rw [← HN.out]; omega))
      have HE : Hid (ans = (decide (n ≤ 16) && decide (P ≤ 64))) := Hid.mk (by
        have h1 := HALL.out
        have h2 := HP.out
        rw [HT.out] at h1 h2
        rw [HA.out, okL, ← HN.out, ← h2, List.all_eq_true.2 (fun y hy => decide_eq_true (h1 y hy)), Bool.and_true])
      by_cases h16 : n ≤ 16
      · have h16I : (n : Int) ≤ 16 := by omega
        by_cases h64 : P ≤ 64
        · have HF : Hid (ans = true) := Hid.mk (by rw [HE.out, decide_eq_true h16, decide_eq_true h64]; rfl)
          go_wp2
          go_ret
          exact ⟨by rw [HF.out]; rfl, rfl⟩
        · have HF : Hid (ans = false) := Hid.mk (by rw [HE.out, decide_eq_false h64, Bool.and_false])
          go_wp2
          go_ret
          exact ⟨by rw [HF.out]; rfl, rfl⟩
      · have h16I : ¬ (n : Int) ≤ 16 := by omega
        have HF : Hid (ans = false) := Hid.mk (by rw [HE.out, decide_eq_false h16]; rfl)
        go_wp2
        go_ret
        exact ⟨by rw [HF.out]; rfl, rfl⟩
set_option maxRecDepth 100000 in
set_option maxHeartbeats 2000000 in
theorem rCells_any {S : Nat → Prop} {w : World} {v : Value} {L : List Int} (h : IntZ S w v L) (hl : L.length ≤ 9223372036854775807) :
    Calls Try.prog 13 #[v] w fun e w' => e = .returned (cellE L) ∧ w' = w := by
  have HM := Hid.mk (rMay_any h hl)
  obtain ⟨ao, cap, rfl⟩ := h.slice
  have H := Hid.mk h
  by_cases hk : okL L = true
  · have HK := Hid.mk hk
    rw [hk] at HM
    rw [show cellE L = .tuple #[.int .i64 (prodI L), .int .i64 0] from if_pos hk]
    have hn16 := (okL_iff.1 hk).1
    obtain ⟨n, hn⟩ : ∃ n, n = L.length := ⟨_, rfl⟩
    rw [← hn] at hl H HM hn16 ⊢
    have HN := Hid.mk hn
    obtain ⟨Q, hQ⟩ : ∃ Q, Q = prodI L := ⟨_, rfl⟩
    rw [← hQ]
    have HQ := Hid.mk hQ
    clear h hn hk hQ
    go_enter Try.func13, Try.ntmps13
    go_wp2_with fail
    refine HM.out.mono ?_
    rintro e w1 ⟨rfl, h⟩
    rw [h]
    clear h
    go_wp2_with fail
    go_loopw [4, 5] (fun k c wr => ∃ i : Nat, i ≤ n ∧ c = .int .i64 i ∧ k = .int .i64 (prodI (L.take i)) ∧ wr = w) (fun _ c _ => n - (intOf c).toNat)
    case atStart => exact ⟨0, Nat.zero_le _, rfl, rfl, rfl⟩
    case round =>
      obtain ⟨i, hi, rfl, rfl, h⟩ := hrel
      rw [h]
      clear h
      have hok := okL_iff.1 (ok_take i HK.out)
      have hp1 := prodI_pos hok.2.1
      have hp2 := hok.2.2
      clear hok
      obtain ⟨P, hP⟩ : ∃ P, P = prodI (L.take i) := ⟨_, rfl⟩
      rw [← hP] at hp1 hp2 ⊢
      have HP := Hid.mk hP
      clear hP
      by_cases hlt : i < n
      · have hltI : (i : Int) < (n : Int) := by omega
        obtain ⟨x, hx⟩ : ∃ x, L[i]? = some x := ⟨_, List.getElem?_eq_getElem (by rw [← HN.out]; exact hlt)⟩
        obtain ⟨hx1, hx2⟩ := okL_mem HK.out (List.mem_of_getElem? hx)
        obtain ⟨g, off, rfl, _, _, hcell⟩ := H.out.get hx
        have q0 := getZ hcell
        rw [Nat.mul_one] at q0
        have HPS := Hid.mk (prodI_snoc hx)
        rw [← HP.out] at HPS
        have hmul : 0 ≤ P * x ∧ P * x ≤ 64 * 64 := ⟨Int.mul_nonneg (by omega) (by omega), Int.mul_le_mul (by omega) (by omega) (by omega) (by omega)⟩
        obtain ⟨hm0, hm1⟩ := hmul
        clear hx hcell
        go_wp2
        go_roundw
        case rel => exact ⟨i + 1, by omega, by go_num, by rw [HPS.out], by trivial⟩
        case measure => simp [intOf]; omega
      · have hltI : ¬ (i : Int) < (n : Int) := by omega
        have HF : Hid (Q = P) := Hid.mk (by rw [HQ.out, HP.out, List.take_of_length_le (by rw [← HN.out]; omega)])
        go_wp2
        go_ret2
        exact ⟨by rw [HF.out]; rfl, rfl⟩
  · rw [show cellE L = .tuple #[.int .i64 0, .int .i64 1] from if_neg hk]
    rw [show okL L = false by simpa using hk] at HM
    clear hk h
    go_enter Try.func13, Try.ntmps13
    go_wp2_with fail
    refine HM.out.mono ?_
    rintro e w1 ⟨rfl, h⟩
    rw [h]
    clear h
    go_wp2
    go_ret2
    exact ⟨rfl, rfl⟩
end Go.Proofs.Ytojjepkmnifngaa
