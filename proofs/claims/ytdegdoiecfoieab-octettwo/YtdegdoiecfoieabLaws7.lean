/- The statement of two: two texts and two lists, one behind the other, are read one by one. -/
import Derived.Test.YtdegdoiecfoieabLaws6
namespace Go.Proofs.Ytdegdoiecfoieab
open Go.RowKit

set_option maxHeartbeats 2000000 in
set_option maxRecDepth 100000 in
theorem octetTwo_walk (s t : ByteArray) (v : Value) (ls : List (List UInt8)) (w : World) (hs : s.size ≤ 140737488351232) (ht : t.size ≤ 140737488351232) (hv : StrsAt w v ls) :
    Calls Try.prog 5 #[.string s, .string t, v] w fun e w' => e = .returned (.bool true) ∧ Below w.heap.size w w' := by
  have HV := Hid.mk hv
  obtain ⟨hlen, ao, cap, rfl, hc⟩ := hv
  have HC := Hid.mk hc
  clear hc
  go_enter Try.func5, Try.ntmps5
  go_wp2
  go_loop [7, 8] (fun n c => ∃ i : Nat, i ≤ ls.length ∧ i ≤ 100 ∧ c = .int .i64 i ∧ n = .int .i64 (sumM (ls.take i))) (fun _ c => ls.length - (intOf c).toNat)
  case atStart => exact ⟨0, Nat.zero_le _, Nat.zero_le _, rfl, rfl⟩
  case round =>
    obtain ⟨i, hi, hi5, rfl, rfl⟩ := hrel
    have hsm := sumM_le (ls.take i)
    rw [List.length_take, Nat.min_eq_left hi] at hsm
    by_cases hlt : i < ls.length ∧ i < 100
    · obtain ⟨hlt, hlt5⟩ := hlt
      obtain ⟨x, hx⟩ : ∃ x, ls[i]? = some x := ⟨_, List.getElem?_eq_getElem hlt⟩
      have hltI : (i : Int) < (ls.length : Int) := by omega
      rcases HC.out with hnil | ⟨b, o, rfl, hl, hc⟩
      · rw [hnil] at hx; simp at hx
      · have hcx := hc i x hx
        have hst := sumM_step hx
        have hts := size_list x
        clear hc hx
        generalize hS : sumM (ls.take i) = S at *
        have HS := Hid.mk hst
        clear hS hst
        go_wp2
        go_round
        case rel => exact ⟨i + 1, by omega, by omega, by go_num, by rw [HS.out]; go_num⟩
        case measure => simp [intOf]; omega
    · by_cases hbad : 1024 < s.size ∨ 1024 < t.size ∨ 1024 < sumM (ls.take i) ∨ 60 < ls.length
      · generalize hS : sumM (ls.take i) = S at *
        clear hS
        by_cases hil : i < ls.length
        · have hi0 : 100 ≤ i := by omega
          clear hlt
          by_cases q1 : 1024 < s.size
          · go_wp2_with fail
            refine (texts_any _).mono ?_
            rintro e w3 ⟨rfl, hb3⟩
            go_wp2
            go_ret
            exact ⟨rfl, hb3⟩
          · by_cases q2 : 1024 < t.size
            · go_wp2_with fail
              refine (texts_any _).mono ?_
              rintro e w3 ⟨rfl, hb3⟩
              go_wp2
              go_ret
              exact ⟨rfl, hb3⟩
            · by_cases q3 : 1024 < S
              · go_wp2_with fail
                refine (texts_any _).mono ?_
                rintro e w3 ⟨rfl, hb3⟩
                go_wp2
                go_ret
                exact ⟨rfl, hb3⟩
              · have h60 : 60 < ls.length := by omega
                go_wp2_with fail
                refine (texts_any _).mono ?_
                rintro e w3 ⟨rfl, hb3⟩
                go_wp2
                go_ret
                exact ⟨rfl, hb3⟩
        · clear hlt
          by_cases q1 : 1024 < s.size
          · go_wp2_with fail
            refine (texts_any _).mono ?_
            rintro e w3 ⟨rfl, hb3⟩
            go_wp2
            go_ret
            exact ⟨rfl, hb3⟩
          · by_cases q2 : 1024 < t.size
            · go_wp2_with fail
              refine (texts_any _).mono ?_
              rintro e w3 ⟨rfl, hb3⟩
              go_wp2
              go_ret
              exact ⟨rfl, hb3⟩
            · by_cases q3 : 1024 < S
              · go_wp2_with fail
                refine (texts_any _).mono ?_
                rintro e w3 ⟨rfl, hb3⟩
                go_wp2
                go_ret
                exact ⟨rfl, hb3⟩
              · have h60 : 60 < ls.length := by omega
                go_wp2_with fail
                refine (texts_any _).mono ?_
                rintro e w3 ⟨rfl, hb3⟩
                go_wp2
                go_ret
                exact ⟨rfl, hb3⟩
      · have hil : ¬ i < ls.length := by omega
        have hall : ∀ u ∈ ls, u.length ≤ 1024 := by
          intro u hu
          have := sumM_mem (ls.take i) u (by rw [List.take_of_length_le (by omega)]; exact hu)
          omega
        have hS1 : sumM (ls.take i) ≤ 1024 := by omega
        have h60 : ls.length ≤ 60 := by omega
        have hs1 : s.size ≤ 1024 := by omega
        have ht1 : t.size ≤ 1024 := by omega
        generalize hS : sumM (ls.take i) = S at *
        clear hS
        have hds := size_data_list s
        have hdt := size_data_list t
        have hP := putListP_ok ls (by omega) (fun u hu => Nat.le_trans (hall u hu) (by decide))
        have HP := Hid.mk (putListV_of hP)
        have HALL := Hid.mk hall
        have hbl2 := numB_le ls.length
        have htl := textsB_le ls (fun u hu => Nat.le_trans (hall u hu) (by decide))
        have HLB := Hid.mk (listP_back ls (by omega) (fun u hu => Nat.le_trans (hall u hu) (by decide)) (strB s.data.toList))
        have HS1 := Hid.mk (strP_strB s.data.toList (by omega))
        have HT1 := Hid.mk (strP_strB t.data.toList (by omega))
        have HPS := Hid.mk (putStrV_ok (t := s.data.toList) (by omega))
        have HPT := Hid.mk (putStrV_ok (t := t.data.toList) (by omega))
        have hls := strB_le s.data.toList (by omega)
        have hlt2 := strB_le t.data.toList (by omega)
        clear hall hP hlt hbad hds hdt
        generalize hbb : numB ls.length ++ textsB ls = cc at *
        have hc2 : cc.length ≤ 9 + 65545 * ls.length := by rw [← hbb, List.length_append]; omega
        clear hbb htl hbl2
        generalize hsa : strB s.data.toList = sa at *
        generalize hta : strB t.data.toList = ta at *
        have hsz := size_list sa
        have htz := size_list ta
        have hcz := size_list cc
        have HSA := Hid.mk hsa
        have HTA := Hid.mk hta
        clear hsa hta
        go_wp2_with fail
        refine (putStr_any _ _ (by omega)).mono ?_
        rintro e w1 ⟨rfl, hb1⟩
        rw [HPS.out]
        have HV1 := Hid.mk (HV.out.below hb1)
        go_wp2_with fail
        refine (putStr_any _ _ (by omega)).mono ?_
        rintro e w2 ⟨rfl, hb2⟩
        rw [HPT.out]
        have HV2 := Hid.mk (HV1.out.below hb2)
        have hb12 := hb1.trans (hb2.mono hb1.size)
        clear hb1 hb2
        go_wp2_with fail
        refine (putList_any _ _ _ HV2.out (fun _ u hu => Nat.le_trans (HALL.out u hu) (by decide))).mono ?_
        rintro e w3 ⟨rfl, hb3⟩
        rw [HP.out]
        have HV3 := Hid.mk (HV2.out.below hb3)
        have hb13 := hb12.trans (hb3.mono hb12.size)
        clear hb12 hb3
        go_wp2_with fail
        generalize hAll : (⟨sa.toArray⟩ ++ ⟨ta.toArray⟩ ++ ⟨cc.toArray⟩ ++ ⟨sa.toArray⟩ : ByteArray) = al
        have hAd : al.data.toList = sa ++ (ta ++ (cc ++ sa)) := by
          rw [← hAll, append_data, append_data, append_data, data_list, data_list, data_list]; simp
        have hAz : al.size = sa.length + (ta.length + (cc.length + sa.length)) := by
          rw [← size_data_list, hAd]; simp
        have hA1 : sa.length + ta.length ≤ al.size := by omega
        have hA2 : al.size ≤ 140737488355328 := by omega
        have HAD := Hid.mk hAd
        clear hAll hAd hAz
        refine (str_any _ _ hA2).mono ?_
        rintro e w4 ⟨rfl, hb4⟩
        rw [HAD.out, strV_of (HS1.out _), bytes_eta]
        have HV4 := Hid.mk (HV3.out.below hb4)
        have hb14 := hb13.trans (hb4.mono hb13.size)
        clear hb13 hb4
        go_wp2_with fail
        refine (str_any _ _ (by rw [ByteArray.size_extract]; omega)).mono ?_
        rintro e w5 ⟨rfl, hb5⟩
        rw [extract_end, HAD.out, List.drop_left, strV_of (HT1.out _), bytes_eta]
        have HV5 := Hid.mk (HV4.out.below hb5)
        have hb15 := hb14.trans (hb5.mono hb14.size)
        clear hb14 hb5
        go_wp2_with fail
        refine (list_any _ _ (by rw [ByteArray.size_extract]; omega)).mono ?_
        have hdr : (al.extract (sa.length + ta.length) al.size).data.toList = cc ++ sa := by
          rw [extract_end, HAD.out, ← List.drop_drop, List.drop_left, List.drop_left]
        rw [hdr]
        rintro e w6 ⟨v6, rfl, ho6, hb6⟩
        rw [HLB.out] at ho6 ⊢
        have HV6 := Hid.mk (HV5.out.below hb6)
        have HW6 := Hid.mk (strsAt_own ho6 (by simp only; omega))
        have hb16 := hb15.trans (hb6.mono hb15.size)
        clear hb15 hb6 ho6 hdr
        go_wp2_with fail
        refine (same_self _ _ _ _ HW6.out HV6.out).mono ?_
        rintro e w7 ⟨rfl, hb7⟩
        have hb17 := hb16.trans (hb7.mono hb16.size)
        clear hb16 hb7
        go_wp2_with fail
        refine (texts_any _).mono ?_
        rintro e w8 ⟨rfl, hb8⟩
        have hb18 := hb17.trans (hb8.mono hb17.size)
        clear hb17 hb8
        go_wp2
        go_ret
        exact ⟨rfl, hb18⟩
end Go.Proofs.Ytdegdoiecfoieab
