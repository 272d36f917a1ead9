/- What a note that has few bytes weighs. -/
import Derived.Test.YtnepednomejniaaJTwice
namespace Go.Proofs.Ytnepednomejniaa
open Go.RowKit

/-- The bytes of texts, each counted up to 4096. -/
def sm (l : List (List UInt8)) : Nat := (l.map fun t => min t.length 4096).sum
def smR (rs : List (List (List UInt8))) : Nat := (rs.map sm).sum
theorem sm_snoc (l : List (List UInt8)) (t : List UInt8) : sm (l ++ [t]) = sm l + min t.length 4096 := by simp [sm]
theorem smR_snoc (l : List (List (List UInt8))) (t : List (List UInt8)) : smR (l ++ [t]) = smR l + sm t := by simp [smR]
theorem sm_le (l : List (List UInt8)) : sm l ≤ 4096 * l.length := by
  induction l with
  | nil => simp [sm]
  | cons t l ih => simp only [sm, List.map_cons, List.sum_cons, List.length_cons] at *; omega
theorem smR_le (l : List (List (List UInt8))) : smR l ≤ 4096 * cntR l := by
  induction l with
  | nil => simp [smR]
  | cons t l ih =>
    have := sm_le t
    simp only [smR, cntR, List.map_cons, List.sum_cons] at *; omega
theorem sm_sum (l : List (List UInt8)) (h : sm l < 2048) : sumL l = sm l := by
  induction l with
  | nil => rfl
  | cons t l ih =>
    simp only [sm, sumL, List.map_cons, List.sum_cons] at *
    have := ih (by omega)
    omega
theorem smR_sum (l : List (List (List UInt8))) (h : smR l < 2048) : sumR l = smR l := by
  induction l with
  | nil => rfl
  | cons t l ih =>
    simp only [smR, sumR, List.map_cons, List.sum_cons] at *
    have h1 := ih (by omega)
    have h2 := sm_sum t (by omega)
    omega
def NoteD.weight (n : NoteD) : Nat := sm n.texts + smR n.rows
theorem light_seal {n : NoteD} (h : n.may) (hw : n.weight < 2048) : (sealB n.body).length ≤ 77000 := by
  have h1 := sm_sum n.texts (by unfold NoteD.weight at hw; omega)
  have h2 := smR_sum n.rows (by unfold NoteD.weight at hw; omega)
  have a := textsB_le2 n.texts h.2.1.2.2.1
  have b := rowsB_le n.rows h.2.1.2.2.2
  have c := numsB_le n.nums
  have d1 := numB_le n.kind.toNat
  have d2 := numB_le n.nums.length
  have d3 := numB_le n.texts.length
  have d4 := numB_le n.rows.length
  have e1 := h.2.1.1
  have e2 := h.2.1.2.1
  have e3 := h.1.2.2.1
  rw [sealB_len]
  unfold NoteD.weight at hw
  simp only [NoteD.body, listB, List.length_append]
  omega

theorem sm_step {l : List (List UInt8)} {i : Nat} {t : List UInt8} (h : l[i]? = some t) : sm (l.take (i + 1)) = sm (l.take i) + min t.length 4096 := by
  rw [List.take_add_one, h, Option.toList_some, sm_snoc]
theorem smR_step {l : List (List (List UInt8))} {i : Nat} {t : List (List UInt8)} (h : l[i]? = some t) : smR (l.take (i + 1)) = smR (l.take i) + sm t := by
  rw [List.take_add_one, h, Option.toList_some, smR_snoc]
theorem sm_take_le (l : List (List UInt8)) (i : Nat) : sm (l.take i) ≤ 4096 * l.length := by
  have := sm_le (l.take i)
  rw [List.length_take] at this
  omega
theorem smR_take_le (l : List (List (List UInt8))) (i : Nat) : smR (l.take i) ≤ 4096 * cntR l := by
  have h1 := smR_le (l.take i)
  have h2 := (cntR_take_le l i).1
  omega

set_option maxHeartbeats 2000000 in
set_option maxRecDepth 100000 in
theorem jlight_ok (v : Value) (n : NoteD) (w : World) (h : NoteAt w v n) (hok : n.textsOk) :
    Calls Try.prog 12 #[v] w fun e w' => e = .returned (.bool (decide (n.weight < 2048))) ∧ Below w.heap.size w w' := by
  obtain ⟨vn, vt, vr, rfl, _, ht, hr⟩ := h
  obtain ⟨hl1, a1, c1, rfl, hc1⟩ := ht
  obtain ⟨hl2, a2, c2, vs, rfl, hvl, hc2, hrs⟩ := hr.parts
  have H1 := Hid.mk hc1
  have H2 := Hid.mk hc2
  have HV := Hid.mk hvl
  have HR := Hid.mk hrs
  obtain ⟨k1, k2, _, _⟩ := hok
  have HCR : Hid (∀ r ∈ n.rows, r.length ≤ 4096) := Hid.mk (fun r hr => by have := len_le_cntR hr; omega)
  have ht4 : n.texts.length ≤ 4096 := by omega
  have hc4 : cntR n.rows ≤ 4096 := by omega
  clear hc1 hc2 hvl hrs hr
  go_enter Try.func12, Try.ntmps12
  go_wp2
  go_loop [3, 4] (fun k c => ∃ (i : Nat), i ≤ n.texts.length ∧ k = .int .i64 (sm (n.texts.take i) : Nat) ∧ c = .int .i64 i) (fun _ c => n.texts.length - (intOf c).toNat)
  case atStart => exact ⟨0, Nat.zero_le _, rfl, rfl⟩
  case round =>
    obtain ⟨i, hi, rfl, rfl⟩ := hrel
    have hsm := sm_take_le n.texts i
    by_cases hlt : i < n.texts.length
    · obtain ⟨t, hx⟩ : ∃ t, n.texts[i]? = some t := ⟨_, List.getElem?_eq_getElem hlt⟩
      have HST := Hid.mk (sm_step hx)
      rcases H1.out with hnil | ⟨b, o, rfl, hl, hc⟩
      · rw [hnil] at hx; simp at hx
      · have hcx := hc i t hx
        have hltI : (i : Int) < (n.texts.length : Int) := by omega
        clear hc hx
        obtain ⟨A, hA⟩ : ∃ A, A = sm (n.texts.take i) := ⟨_, rfl⟩
        rw [← hA] at hsm HST ⊢
        clear hA
        go_wp2
        go_round
        case rel => exact ⟨i + 1, by omega, by rw [HST.out]; congr 1; omega, by go_num⟩
        case measure => simp [intOf]; omega
    · have hall : n.texts.take i = n.texts := List.take_of_length_le (by omega)
      rw [hall] at hsm ⊢
      obtain ⟨A, hA⟩ : ∃ A, A = sm n.texts := ⟨_, rfl⟩
      rw [← hA] at hsm ⊢
      have HA := Hid.mk hA
      clear hA hall
      go_wp2
      go_loop [3, 5] (fun k c => ∃ (j : Nat), j ≤ n.rows.length ∧ k = .int .i64 ((A + smR (n.rows.take j) : Nat) : Int) ∧ c = .int .i64 j) (fun _ c => n.rows.length - (intOf c).toNat)
      case atStart => exact ⟨0, Nat.zero_le _, by simp [smR], rfl⟩
      case round =>
        obtain ⟨j, hj, rfl, rfl⟩ := hrel
        have hsr := smR_take_le n.rows j
        by_cases hlt2 : j < n.rows.length
        · obtain ⟨r, hx⟩ : ∃ t, n.rows[j]? = some t := ⟨_, List.getElem?_eq_getElem hlt2⟩
          obtain ⟨x, hvx⟩ : ∃ x, vs[j]? = some x := ⟨_, List.getElem?_eq_getElem (by rw [HV.out]; exact hlt2)⟩
          have HSTR := Hid.mk (smR_step hx)
          have hr4 := HCR.out r (List.mem_of_getElem? hx)
          rcases H2.out with hnil | ⟨b, o, rfl, hl, hc⟩
          · rw [hnil] at hvx; simp at hvx
          · have hcx := hc j x hvx
            have hltI : (j : Int) < (n.rows.length : Int) := by omega
            obtain ⟨hl3, a3, c3, rfl, hc3⟩ := HR.out j x r hvx hx
            have H3 := Hid.mk hc3
            clear hc hx hvx hc3
            obtain ⟨B, hB⟩ : ∃ B, B = A + smR (n.rows.take j) := ⟨_, rfl⟩
            rw [← hB]
            have hBl : B ≤ 33554432 := by omega
            have HB := Hid.mk hB
            clear hB
            go_wp2
            go_loop [3, 6] (fun k c => ∃ (m : Nat), m ≤ r.length ∧ k = .int .i64 ((B + sm (r.take m) : Nat) : Int) ∧ c = .int .i64 m) (fun _ c => r.length - (intOf c).toNat)
            case atStart => exact ⟨0, Nat.zero_le _, by simp [sm], rfl⟩
            case round =>
              obtain ⟨m, hm, rfl, rfl⟩ := hrel
              have hsm2 := sm_take_le r m
              by_cases hlt3 : m < r.length
              · obtain ⟨t, hx⟩ : ∃ t, r[m]? = some t := ⟨_, List.getElem?_eq_getElem hlt3⟩
                have HST := Hid.mk (sm_step hx)
                rcases H3.out with hnil | ⟨b3, o3, rfl, hl4, hc⟩
                · rw [hnil] at hx; simp at hx
                · have hcy := hc m t hx
                  have hltJ : (m : Int) < (r.length : Int) := by omega
                  clear hc hx
                  obtain ⟨D, hD⟩ : ∃ D, D = B + sm (r.take m) := ⟨_, rfl⟩
                  rw [← hD]
                  have hDl : D ≤ 67108864 := by omega
                  have HD := Hid.mk hD
                  clear hD
                  go_wp2
                  go_round
                  case rel => exact ⟨m + 1, by omega, by rw [HST.out, ← Nat.add_assoc, ← HD.out]; congr 1; omega, by go_num⟩
                  case measure => simp [intOf]; omega
              · have hall : r.take m = r := List.take_of_length_le (by omega)
                rw [hall] at hsm2 ⊢
                obtain ⟨D, hD⟩ : ∃ D, D = B + sm r := ⟨_, rfl⟩
                rw [← hD]
                have HD := Hid.mk hD
                clear hall hD
                go_wp2
                go_round
                case rel => exact ⟨j + 1, by omega, by rw [HSTR.out, ← Nat.add_assoc, ← HB.out, ← HD.out], by go_num⟩
                case measure => simp [intOf]; omega
        · have hall : n.rows.take j = n.rows := List.take_of_length_le (by omega)
          rw [hall] at hsr ⊢
          obtain ⟨D, hD⟩ : ∃ D, D = A + smR n.rows := ⟨_, rfl⟩
          rw [← hD]
          have HD : Hid (n.weight = D) := Hid.mk (by rw [NoteD.weight, ← HA.out, hD])
          clear hall hD
          go_wp2
          go_ret
          exact ⟨by rw [HD.out]; simp; omega, (Below.refl _ _).alloc (Nat.le_refl _) _⟩

/-- What a note that has few bytes is like. -/
theorem jlight_tells (v : Value) (n : NoteD) (w : World) (h : NoteAt w v n) :
    Calls Try.prog 12 #[v] w fun e w' => (∃ b, e = .returned (.bool b) ∧ (b = true → n.may → (sealB n.body).length ≤ 77000)) ∧ Below w.heap.size w w' := by
  by_cases hok : n.textsOk
  · refine (jlight_ok v n w h hok).mono ?_
    rintro e w' ⟨rfl, hb⟩
    exact ⟨⟨_, rfl, fun hb hm => light_seal hm (of_decide_eq_true hb)⟩, hb⟩
  · refine (jlight_any v n w h).mono ?_
    rintro e w' ⟨⟨b, rfl⟩, hb⟩
    exact ⟨⟨b, rfl, fun _ hm => absurd hm.2.1 hok⟩, hb⟩
end Go.Proofs.Ytnepednomejniaa
