/- What PutList of the document's own definition answers of a list of texts in memory. -/
import Derived.Test.YtnepednomejniaaRowB
namespace Go.Proofs.Ytnepednomejniaa
open Go.RowKit

set_option maxRecDepth 100000 in
set_option maxHeartbeats 1000000 in
theorem rPutList_any (v : Value) (ls : List (List UInt8)) (w : World) (hv : StrsAt w v ls) (hsm : ls.length ≤ 4096 → ∀ t ∈ ls, t.length ≤ 140737488355328) :
    Calls Try.prog 61 #[v] w fun e w' => e = .returned (putListV ls) ∧ Below w.heap.size w w' := by
  obtain ⟨hlen, ao, cap, rfl, hc⟩ := hv
  by_cases hm : 4096 < ls.length
  · have HV := Hid.mk (putListV_of (putListP_many ls hm))
    go_enter Try.func61, Try.ntmps61
    go_wp2
    go_ret2
    exact ⟨by rw [HV.out]; rfl, Below.refl _ _⟩
  · have HSM := Hid.mk (hsm (by omega))
    clear hsm
    have hn63 : ls.length < 2 ^ 63 := by omega
    have h9 := numB_le ls.length
    have HCC : Hid (ls = [] ∨ ∃ b o, ao = some ⟨b, o, none⟩ ∧ b < w.heap.size ∧ ∀ j t, ls[j]? = some t → w.cell? ⟨b, o + j, none⟩ = some (.string ⟨t.toArray⟩)) := hc
    clear hc
    rcases HCC with hnil | ⟨b, o, rfl, hl, hc⟩
    · subst hnil
      have HV := Hid.mk (putListV_of (putListP_ok [] (by simp) (by simp)))
      go_enter Try.func61, Try.ntmps61
      go_wp2_with fail
      refine (rPutNum_pos _ _ hn63).mono ?_
      rintro e w1 ⟨rfl, hb1⟩
      have hcv := Lib.run_convert_string_bytes (P := Try.prog) w1 9 53 5 ⟨(numB 0).toArray⟩ Try.underlying9 Try.underlying53 Try.underlying5
      have hrow := rowB_made w1 ⟨(numB 0).toArray⟩
      have hcv2 := hrow.conv
      rw [size_list] at hcv2
      have hbw := hb1.trans ((below_made w1 ⟨(numB 0).toArray⟩).mono hb1.size)
      have HB := Hid.mk hbw
      clear hrow hb1 hbw
      go_wp2_with fail
      refine wp_loop_rounds 1 ?_
      rw [rounds_succ]
      go_wp2
      go_ret2
      exact ⟨by rw [HV.out]; rfl, HB.out⟩
    · have HC := Hid.mk hc
      clear hc
      go_enter Try.func61, Try.ntmps61
      go_wp2_with fail
      refine (rPutNum_pos _ _ hn63).mono ?_
      rintro e w1 ⟨rfl, hb1⟩
      have hcv := Lib.run_convert_string_bytes (P := Try.prog) w1 9 53 5 ⟨(numB ls.length).toArray⟩ Try.underlying9 Try.underlying53 Try.underlying5
      have hrow : RowB (Lib.bytesWorld w1 5 ⟨(numB ls.length).toArray⟩) w.heap.size (.slice (some ⟨w1.heap.size, 0, none⟩) (⟨(numB ls.length).toArray⟩ : ByteArray).size (grownCap w1 (⟨(numB ls.length).toArray⟩ : ByteArray).size 0 5)) (numB ls.length ++ textsB (ls.take 0)) := by
        have h := rowB_made w1 ⟨(numB ls.length).toArray⟩
        rw [List.take_zero, show textsB [] = [] from rfl, List.append_nil]
        obtain ⟨g, cp, e1, e2, e3⟩ := h
        exact ⟨g, cp, e1, Nat.le_trans hb1.size e2, e3⟩
      have hbw := hb1.trans ((below_made w1 ⟨(numB ls.length).toArray⟩).mono hb1.size)
      have HR := Hid.mk hrow
      have HB := Hid.mk hbw
      clear hrow hb1 hbw
      go_wp2_with fail
      go_loopw [6, 7] (fun v c wr => ∃ i : Nat, i ≤ ls.length ∧ c = .int .i64 i ∧ (∀ u ∈ ls.take i, u.length ≤ 65536) ∧ RowB wr w.heap.size v (numB ls.length ++ textsB (ls.take i)) ∧ Below w.heap.size w wr) (fun _ c _ => ls.length - (intOf c).toNat)
      case atStart => exact ⟨0, Nat.zero_le _, rfl, by simp, HR.out, HB.out⟩
      case round =>
        obtain ⟨i, hi, rfl, hall, hrow, hb⟩ := hrel
        have HALL := Hid.mk hall
        have hsz := hb.size
        clear hall HR HB
        by_cases hlt : i < ls.length
        · obtain ⟨t, ht⟩ : ∃ t, ls[i]? = some t := ⟨_, List.getElem?_eq_getElem hlt⟩
          have hcx := (hb.cell (p := ⟨b, o + i, none⟩) hl).trans (HC.out i t ht)
          have htm : t ∈ ls := List.mem_of_getElem? ht
          have htl := HSM.out t htm
          have HT := Hid.mk ht
          have hltI : (i : Int) < (ls.length : Int) := by omega
          have hts : (⟨t.toArray⟩ : ByteArray).size ≤ 140737488355328 := by rw [size_list]; exact htl
          clear ht
          by_cases h6 : t.length ≤ 65536
          · have hPV := Hid.mk (putStrV_ok h6)
            have hall2 := Hid.mk (take_all HALL.out HT.out h6)
            have hlc := textsB_le (ls.take i) HALL.out
            rw [List.length_take, Nat.min_eq_left hi] at hlc
            have hsb := strB_le t h6
            clear htm
            go_wp2_with fail
            refine (rPutStr_any _ _ hts).mono ?_
            rintro e w3 ⟨rfl, hb3⟩
            rw [data_list, hPV.out]
            have hrow3 := hrow.below hb3
            have hbw3 := hb.trans (hb3.mono hsz)
            have hsz3 := hbw3.size
            clear hrow hb hb3 hsz hcx
            go_wp2_with (at_builtin; refine wpList_append_rowB rfl _ _ rfl rfl w.heap.size _ _ rfl hrow3 ⟨(strB t).toArray⟩ rfl ?z1 hsz3 ?_)
            case z1 => rw [List.length_append, size_list]; omega
            intro v4 w4 hrow4 hb4
            have hbw4 := hbw3.trans hb4
            have hrow5 : RowB w4 w.heap.size v4 (numB ls.length ++ textsB (ls.take (i + 1))) := by
              rw [List.take_add_one, HT.out, Option.toList_some, textsB_snoc]
              exact hrow4
            clear hrow3 hrow4 hb4 hbw3 hsz3
            go_wp2
            go_roundw
            case rel => exact ⟨i + 1, by omega, by go_num, hall2.out, hrow5, hbw4⟩
            case measure => simp [intOf]; omega
          · have hPV := Hid.mk (putStrV_long (t := t) (by omega))
            have HV := Hid.mk (putListV_of (putListP_long ls t htm (by omega)))
            clear htm
            go_wp2_with fail
            refine (rPutStr_any _ _ hts).mono ?_
            rintro e w3 ⟨rfl, hb3⟩
            rw [data_list, hPV.out]
            have hbw3 := hb.trans (hb3.mono hsz)
            clear hrow hb hb3 hsz hcx
            go_wp2
            go_ret2
            exact ⟨by rw [HV.out]; rfl, hbw3⟩
        · have hie : i = ls.length := by omega
          have hall := HALL.out
          rw [hie, List.take_of_length_le (Nat.le_refl _)] at hall
          have HV := Hid.mk (putListV_of (putListP_ok ls (by omega) hall))
          have hcv3 := hrow.conv
          have HI := Hid.mk hie
          clear hie hall hcv
          go_wp2
          go_ret2
          exact ⟨by rw [HV.out, HI.out, List.take_of_length_le (Nat.le_refl _)]; rfl, hb⟩
end Go.Proofs.Ytnepednomejniaa
