import Derived.Test.YtgmeehkikamkoaaNum
import Derived.Test.YtgmeehkikamkoaaMath2
namespace Go.Proofs.Ytgmeehkikamkoaa
open Go.RowKit

theorem byte_of {s : ByteArray} {c : UInt8} {r : List UInt8} (hL : s.data.toList = c :: r) (j : Nat) (hj : j < r.length) : ∀ h : j + 1 < s.size, s[j + 1]'h = r[j] := by
  intro h
  show s.data[j + 1]'h = r[j]
  rw [← Array.getElem_toList]
  simp [hL]

set_option maxHeartbeats 400000 in
theorem rNum_any (s : ByteArray) (w : World) (hs : s.size ≤ maxLen) :
    Calls Try.prog 54 #[.string s] w fun e w' => e = .returned (numV s.data.toList) ∧ w' = w := by
  unfold maxLen at hs
  cases hL : s.data.toList with
  | nil =>
    have h0 : s.size = 0 := by rw [← s.size_data, ← Array.length_toList, hL]; rfl
    clear hL
    go_enter Try.func54, Try.ntmps54
    go_wp2
    go_ret3
    exact ⟨rfl, rfl⟩
  | cons c r =>
    obtain ⟨hsz, hne, h0⟩ := cons_facts hL
    have hp : 0 < s.size := by omega
    have hc0 := h0 hp
    have HL := Hid.mk hL
    have hlt := c.toNat_lt
    clear hL h0 hne
    have HZ' := Hid.mk hsz
    have hn0 : ((r.length : Int) + 1 == 0) = false := by rw [beq_eq_false_iff_ne]; omega
    by_cases hA : 8 < c.toNat
    · have hV := Hid.mk (numP_gt c r hA)
      go_enter Try.func54, Try.ntmps54
      go_wp2
      go_ret3
      exact ⟨by rw [numV, hV.out]; rfl, rfl⟩
    · by_cases hB : r.length < c.toNat
      · have hV := Hid.mk (numP_cut c r hA hB)
        go_enter Try.func54, Try.ntmps54
        go_wp2
        go_ret3
        exact ⟨by rw [numV, hV.out]; rfl, rfl⟩
      · by_cases hC : c.toNat = 0
        · have hb0 : beVal (r.take c.toNat) = 0 := by rw [hC]; rfl
          have hV := Hid.mk (numP_ok c r hA hB (by omega) (by omega))
          have HC := Hid.mk hC
          have hB0 := Hid.mk hb0
          have hC' : (c.toNat : Int) ≤ 0 := by omega
          have hC2 : ((c.toNat : Int) == 8) = false := by rw [beq_eq_false_iff_ne]; omega
          have hC3 : (c.toNat : Int) < 1 := by omega
          clear hC hb0
          go_enter Try.func54, Try.ntmps54
          go_wp2
          refine wp_loop_rounds 1 ?_
          rw [rounds_succ]
          go_wp2
          go_ret3
          exact ⟨by rw [numV, hV.out, hB0.out, HC.out]; simp, rfl⟩
        · have hpos : 0 < c.toNat := by omega
          match r, HL, HZ', hsz, hB, hn0 with
          | [], _, _, _, hB, _ => simp at hB; omega
          | x :: r', HL, HZ', hsz, hB, hn0 =>
            have hp1 : 1 < s.size := by rw [hsz]; simp
            have hx := cons_facts2 HL.out hp1
            by_cases hD : x = 0
            · subst hD
              have hV := Hid.mk (numP_zero c (0 :: r') hA hB hpos rfl)
              go_enter Try.func54, Try.ntmps54
              go_wp2
              go_ret3
              exact ⟨by rw [numV, hV.out]; rfl, rfl⟩
            · have hxn : ((x.toNat : Int) == 0) = false := by
                rw [beq_eq_false_iff_ne]; intro h; apply hD; apply UInt8.toNat_inj.1; simpa using h
              have hiff := big_iff x r' c.toNat hpos (by omega) (by omega)
              by_cases hE : c.toNat = 8 ∧ 127 < x.toNat
              · have hV := Hid.mk (numP_big c (x :: r') hA hB (hiff.2 hE))
                obtain ⟨hE1, hE2⟩ := hE
                have hE3 : ((c.toNat : Int) == 8) = true := by rw [hE1]; rfl
                clear hiff hE1
                go_enter Try.func54, Try.ntmps54
                go_wp2
                go_ret3
                exact ⟨by rw [numV, hV.out]; rfl, rfl⟩
              · have hV := Hid.mk (numP_ok c (x :: r') hA hB (by simp [hD]) (fun h => hE (hiff.1 h)))
                have hlim : beVal ((x :: r').take c.toNat) ≤ 9223372036854775807 := by
                  have := mt hiff.1 hE; omega
                have HLim := Hid.mk hlim
                clear hiff hlim
                by_cases hE1 : c.toNat = 8
                · have hE3 : ((c.toNat : Int) == 8) = true := by rw [hE1]; rfl
                  have hE4 : x.toNat ≤ 127 := by omega
                  have HE1 := Hid.mk hE1
                  clear hE1 hE
                  go_enter Try.func54, Try.ntmps54
                  go_wp2
                  go_loop [6, 7] (fun n i => ∃ j : Nat, j ≤ c.toNat ∧ i = .int .i64 ((j + 1 : Nat) : Int) ∧ n = .int .i64 (beVal ((x :: r').take j))) (fun _ i => c.toNat + 1 - (intOf i).toNat)
                  case atStart => exact ⟨0, Nat.zero_le _, rfl, rfl⟩
                  case round =>
                    obtain ⟨j, hj, rfl, rfl⟩ := hrel
                    by_cases hjc : j < c.toNat
                    · have hjr : j < (x :: r').length := by omega
                      have hsj : j + 1 < s.size := by omega
                      have hby := byte_of HL.out j hjr hsj
                      have hst : beVal ((x :: r').take (j + 1)) = beVal ((x :: r').take j) * 256 + ((x :: r')[j]).toNat := by
                        rw [List.take_succ_eq_append_getElem hjr, beVal_snoc]
                      have hle : beVal ((x :: r').take (j + 1)) ≤ 9223372036854775807 := Nat.le_trans (beVal_take_le _ (by omega)) HLim.out
                      rw [hst] at hle
                      have HST := Hid.mk hst
                      have hbl : ((x :: r')[j]).toNat < 256 := ((x :: r')[j]).toNat_lt
                      generalize hg : (x :: r')[j] = y at *
                      generalize hv : beVal ((x :: r').take j) = v at *
                      clear hst hg hv hE4 hxn hx
                      go_wp2
                      go_round
                      case rel => exact ⟨j + 1, by omega, by go_num, by rw [HST.out]; go_num⟩
                      case measure => simp [intOf]; omega
                    · have hje : j = c.toNat := by omega
                      subst hje
                      clear hE4 hxn hx
                      go_wp2
                      go_ret3
                      exact ⟨by rw [numV, hV.out]; simp; omega, rfl⟩
                · have hE3 : ((c.toNat : Int) == 8) = false := by rw [beq_eq_false_iff_ne]; omega
                  have hE4 : True := trivial
                  clear hE1 hE
                  go_enter Try.func54, Try.ntmps54
                  go_wp2
                  go_loop [6, 7] (fun n i => ∃ j : Nat, j ≤ c.toNat ∧ i = .int .i64 ((j + 1 : Nat) : Int) ∧ n = .int .i64 (beVal ((x :: r').take j))) (fun _ i => c.toNat + 1 - (intOf i).toNat)
                  case atStart => exact ⟨0, Nat.zero_le _, rfl, rfl⟩
                  case round =>
                    obtain ⟨j, hj, rfl, rfl⟩ := hrel
                    by_cases hjc : j < c.toNat
                    · have hjr : j < (x :: r').length := by omega
                      have hsj : j + 1 < s.size := by omega
                      have hby := byte_of HL.out j hjr hsj
                      have hst : beVal ((x :: r').take (j + 1)) = beVal ((x :: r').take j) * 256 + ((x :: r')[j]).toNat := by
                        rw [List.take_succ_eq_append_getElem hjr, beVal_snoc]
                      have hle : beVal ((x :: r').take (j + 1)) ≤ 9223372036854775807 := Nat.le_trans (beVal_take_le _ (by omega)) HLim.out
                      rw [hst] at hle
                      have HST := Hid.mk hst
                      have hbl : ((x :: r')[j]).toNat < 256 := ((x :: r')[j]).toNat_lt
                      generalize hg : (x :: r')[j] = y at *
                      generalize hv : beVal ((x :: r').take j) = v at *
                      clear hst hg hv hE4 hxn hx
                      go_wp2
                      go_round
                      case rel => exact ⟨j + 1, by omega, by go_num, by rw [HST.out]; go_num⟩
                      case measure => simp [intOf]; omega
                    · have hje : j = c.toNat := by omega
                      subst hje
                      clear hE4 hxn hx
                      go_wp2
                      go_ret3
                      exact ⟨by rw [numV, hV.out]; simp; omega, rfl⟩
end Go.Proofs.Ytgmeehkikamkoaa
