/- Which notes may be, as the document's own definition tells. -/
import Derived.Test.YtgmeehkikamkoaaWTwice
namespace Go.Proofs.Ytgmeehkikamkoaa
open Go.RowKit

/-- A note may be, but for its body's length. -/
def NoteD.shaped (n : NoteD) : Prop := n.numsOk ∧ n.textsOk
instance (n : NoteD) : Decidable n.shaped := inferInstanceAs (Decidable (_ ∧ _))

set_option maxHeartbeats 400000 in
theorem rShort_any (v : Value) (ls : List (List UInt8)) (w : World) (hv : StrsAt w v ls) :
    Calls Try.prog 61 #[v] w fun e w' => e = .returned (.bool (decide (shortL ls))) ∧ w' = w := by
  obtain ⟨hlen, ao, cap, rfl, hc⟩ := hv
  have HC := Hid.mk hc
  clear hc
  go_enter Try.func61, Try.ntmps61
  go_wp2
  go_loop [3] (fun c => ∃ i : Nat, i ≤ ls.length ∧ c = .int .i64 i ∧ ∀ u ∈ ls.take i, u.length ≤ 65536) (fun c => ls.length - (intOf c).toNat)
  case atStart => exact ⟨0, Nat.zero_le _, rfl, by simp⟩
  case round =>
    obtain ⟨i, hi, rfl, hall⟩ := hrel
    have HALL := Hid.mk hall
    clear hall
    by_cases hlt : i < ls.length
    · obtain ⟨t, ht⟩ : ∃ t, ls[i]? = some t := ⟨_, List.getElem?_eq_getElem hlt⟩
      rcases HC.out with hnil | ⟨b, o, rfl, hl, hc⟩
      · rw [hnil] at ht; simp at ht
      · have hcx := hc i t ht
        have HT := Hid.mk ht
        have hltI : (i : Int) < (ls.length : Int) := by omega
        have hts := size_list t
        clear hc ht
        by_cases h6 : t.length ≤ 65536
        · have HA2 := Hid.mk (take_all HALL.out HT.out h6)
          go_wp2
          go_round
          case rel => exact ⟨i + 1, by omega, by go_num, HA2.out⟩
          case measure => simp [intOf]; omega
        · have HV : Hid (decide (shortL ls) = false) := Hid.mk (decide_eq_false (fun h => h6 (h t (List.mem_of_getElem? HT.out))))
          go_wp2
          go_ret
          exact ⟨by rw [HV.out]; rfl, rfl⟩
    · have hall := HALL.out
      rw [List.take_of_length_le (by omega)] at hall
      have HV : Hid (decide (shortL ls) = true) := Hid.mk (decide_eq_true hall)
      clear hall
      go_wp2
      go_ret
      exact ⟨by rw [HV.out]; rfl, rfl⟩

set_option maxHeartbeats 2000000 in
set_option maxRecDepth 100000 in
theorem rShaped_any (v : Value) (n : NoteD) (w : World) (h : NoteAt w v n) :
    Calls Try.prog 44 #[v] w fun e w' => e = .returned (.bool (decide n.shaped)) ∧ Below w.heap.size w w' := by
  obtain ⟨vn, vt, vr, rfl, hn, ht, hr⟩ := h
  obtain ⟨hl1, a1, cp1, rfl, hc1⟩ := hn.parts
  have HT := Hid.mk ht
  obtain ⟨hl2, a2, cp2, rfl, _⟩ := ht
  obtain ⟨hl3, a3, cp3, vs, rfl, hvl, hc3, hrs⟩ := hr.parts
  have H1 := Hid.mk hc1
  have H3 := Hid.mk hc3
  have HVL := Hid.mk hvl
  have HRS := Hid.mk hrs
  clear hn hr hc1 hc3 hvl hrs
  have BEL : Hid (Below w.heap.size w (w.alloc (.cells #[.int .i64 n.kind, .slice a1 n.nums.length cp1, .slice a2 n.texts.length cp2, .slice a3 n.rows.length cp3] 26))) := Hid.mk ((Below.refl _ _).alloc (Nat.le_refl _) _)
  by_cases g1 : n.kind < 1
  · have HV : Hid (decide n.shaped = false) := Hid.mk (decide_eq_false (fun h => by have := h.1.1; omega))
    go_enter Try.func44, Try.ntmps44
    go_wp2
    go_ret
    exact ⟨by rw [HV.out]; rfl, BEL.out⟩
  · by_cases g2 : 255 < n.kind
    · have HV : Hid (decide n.shaped = false) := Hid.mk (decide_eq_false (fun h => by have := h.1.2.1; omega))
      go_enter Try.func44, Try.ntmps44
      go_wp2
      go_ret
      exact ⟨by rw [HV.out]; rfl, BEL.out⟩
    · by_cases g3 : 64 < n.nums.length
      · have HV : Hid (decide n.shaped = false) := Hid.mk (decide_eq_false (fun h => by have := h.1.2.2.1; omega))
        go_enter Try.func44, Try.ntmps44
        go_wp2
        go_ret
        exact ⟨by rw [HV.out]; rfl, BEL.out⟩
      · by_cases g4 : 4096 < n.texts.length
        · have HV : Hid (decide n.shaped = false) := Hid.mk (decide_eq_false (fun h => by have := h.2.2.1; omega))
          go_enter Try.func44, Try.ntmps44
          go_wp2
          go_ret
          exact ⟨by rw [HV.out]; rfl, BEL.out⟩
        · by_cases g5 : 4096 < n.rows.length
          · have HV : Hid (decide n.shaped = false) := Hid.mk (decide_eq_false (fun h => by have := h.2.1; omega))
            go_enter Try.func44, Try.ntmps44
            go_wp2
            go_ret
            exact ⟨by rw [HV.out]; rfl, BEL.out⟩
          · have C := Hid.mk (rShort_any _ n.texts _ (HT.out.below BEL.out))
            by_cases g6 : shortL n.texts
            · rw [decide_eq_true g6] at C
              have G6 := Hid.mk g6
              clear g6
              go_enter Try.func44, Try.ntmps44
              go_wp2_with fail
              refine C.out.mono ?_
              rintro e w1 ⟨rfl, rfl⟩
              go_wp2
              go_loop [3] (fun c => ∃ i : Nat, i ≤ n.nums.length ∧ c = .int .i64 i ∧ ∀ x ∈ n.nums.take i, goodNum x) (fun c => n.nums.length - (intOf c).toNat)
              case atStart => exact ⟨0, Nat.zero_le _, rfl, by simp⟩
              case round =>
                obtain ⟨i, hi, rfl, hall⟩ := hrel
                have HALL := Hid.mk hall
                clear hall
                by_cases hlt : i < n.nums.length
                · obtain ⟨x, hx⟩ : ∃ x, n.nums[i]? = some x := ⟨_, List.getElem?_eq_getElem hlt⟩
                  rcases H1.out with hnil | ⟨b, o, rfl, hl, hc⟩
                  · rw [hnil] at hx; simp at hx
                  · have hcx := hc i x hx
                    have HX := Hid.mk hx
                    have hltI : (i : Int) < (n.nums.length : Int) := by omega
                    clear hc hx
                    by_cases hg : goodNum x
                    · have HA2 := Hid.mk (take_good HALL.out HX.out hg)
                      obtain ⟨q1, q2⟩ := hg
                      go_wp2
                      go_round
                      case rel => exact ⟨i + 1, by omega, by go_num, HA2.out⟩
                      case measure => simp [intOf]; omega
                    · have HV : Hid (decide n.shaped = false) := Hid.mk (decide_eq_false (fun h => hg (h.1.2.2.2 x (List.mem_of_getElem? HX.out))))
                      by_cases q1 : x < 0
                      · clear hg
                        go_wp2
                        go_ret
                        exact ⟨by rw [HV.out]; rfl, BEL.out⟩
                      · have q2 : 4611686018427387903 < x := by rw [goodNum] at hg; omega
                        clear hg
                        go_wp2
                        go_ret
                        exact ⟨by rw [HV.out]; rfl, BEL.out⟩
                · have hall := HALL.out
                  rw [List.take_of_length_le (by omega)] at hall
                  have HNU : Hid n.numsOk := Hid.mk ⟨by omega, by omega, by omega, hall⟩
                  clear hall HALL
                  go_wp2
                  go_loop [4, 5] (fun k c => ∃ j : Nat, j ≤ n.rows.length ∧ c = .int .i64 j ∧ k = .int .i64 ((n.texts.length + cntR (n.rows.take j) : Nat) : Int) ∧ n.texts.length + cntR (n.rows.take j) ≤ 4096 ∧ ∀ r ∈ n.rows.take j, shortL r) (fun _ c => n.rows.length - (intOf c).toNat)
                  case atStart => exact ⟨0, Nat.zero_le _, rfl, by simp [cntR], by simp [cntR]; omega, by simp⟩
                  case round =>
                    obtain ⟨j, hj, rfl, rfl, hcn, hall⟩ := hrel
                    have HALL := Hid.mk hall
                    clear hall
                    by_cases hlt2 : j < n.rows.length
                    · obtain ⟨r, hx⟩ : ∃ x, n.rows[j]? = some x := ⟨_, List.getElem?_eq_getElem hlt2⟩
                      obtain ⟨x, hvx⟩ : ∃ x, vs[j]? = some x := ⟨_, List.getElem?_eq_getElem (by rw [HVL.out]; exact hlt2)⟩
                      rcases H3.out with hnil | ⟨b, o, rfl, hl, hc⟩
                      · rw [hnil] at hvx; simp at hvx
                      · have hcx := hc j x hvx
                        have SX := Hid.mk (HRS.out j x r hvx hx)
                        obtain ⟨hl4, a4, cp4, rfl, _⟩ := HRS.out j x r hvx hx
                        have HX := Hid.mk hx
                        have hst := Hid.mk (rows_step hx)
                        have hltI : (j : Int) < (n.rows.length : Int) := by omega
                        clear hc hx hvx
                        obtain ⟨T, hT⟩ : ∃ T, T = n.texts.length + cntR (n.rows.take j) := ⟨_, rfl⟩
                        rw [← hT] at hcn ⊢
                        have HTT := Hid.mk hT
                        clear hT
                        by_cases hc1 : 4096 - T < r.length
                        · have HV : Hid (decide n.shaped = false) := Hid.mk (decide_eq_false (fun h => by
                            have q := h.2.2.1
                            have q2 := (cntR_take_le n.rows (j + 1)).1
                            rw [hst.out.1] at q2
                            have := HTT.out
                            omega))
                          have hcI : (4096 : Int) - (T : Int) < (r.length : Int) := by omega
                          go_wp2
                          go_ret
                          exact ⟨by rw [HV.out]; rfl, BEL.out⟩
                        · have hcI : ¬ (4096 : Int) - (T : Int) < (r.length : Int) := by omega
                          have C2 := Hid.mk (rShort_any _ r _ (SX.out.below BEL.out))
                          by_cases hs : shortL r
                          · rw [decide_eq_true hs] at C2
                            have HA2 := Hid.mk (take_rows HALL.out HX.out hs)
                            clear hs
                            go_wp2_with fail
                            refine C2.out.mono ?_
                            rintro e w2 ⟨rfl, rfl⟩
                            go_wp2
                            go_round
                            case rel =>
                              have e1 := hst.out.1
                              have e2 := HTT.out
                              refine ⟨j + 1, by omega, by go_num, ?_, by omega, HA2.out⟩
                              exact congrArg (Value.int .i64) (by omega)
                            case measure => simp [intOf]; omega
                          · rw [decide_eq_false hs] at C2
                            have HV : Hid (decide n.shaped = false) := Hid.mk (decide_eq_false (fun h => hs (h.2.2.2.2 r (List.mem_of_getElem? HX.out))))
                            clear hs
                            go_wp2_with fail
                            refine C2.out.mono ?_
                            rintro e w2 ⟨rfl, rfl⟩
                            go_wp2
                            go_ret
                            exact ⟨by rw [HV.out]; rfl, BEL.out⟩
                    · have hall := HALL.out
                      have hcn2 := hcn
                      rw [List.take_of_length_le (by omega)] at hall hcn2
                      have HV : Hid (decide n.shaped = true) := Hid.mk (decide_eq_true ⟨HNU.out, by omega, hcn2, G6.out, hall⟩)
                      clear hall hcn2
                      go_wp2
                      go_ret
                      exact ⟨by rw [HV.out]; rfl, BEL.out⟩
            · rw [decide_eq_false g6] at C
              have HV : Hid (decide n.shaped = false) := Hid.mk (decide_eq_false (fun h => g6 h.2.2.2.1))
              clear g6
              go_enter Try.func44, Try.ntmps44
              go_wp2_with fail
              refine C.out.mono ?_
              rintro e w1 ⟨rfl, rfl⟩
              go_wp2
              go_ret
              exact ⟨by rw [HV.out]; rfl, BEL.out⟩
end Go.Proofs.Ytgmeehkikamkoaa
