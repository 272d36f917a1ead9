/- The statement of cuts: bytes of a text, or a list, that lack some at their end, are told to end too soon. -/
import Derived.Test.YtdegdoiecfoieabLaws4
import Derived.Test.YtdegdoiecfoieabMath4
import Derived.Laws.BitsLemmas
namespace Go.Proofs.Ytdegdoiecfoieab
open Go.RowKit

theorem i64_and65535 (n : Int) : bits .and .i64 n 65535 = n % 65536 := by
  have hm : (BitVec.ofInt 64 65535).toNat = 2 ^ 16 - 1 := by decide
  have key : (BitVec.ofInt 64 n &&& BitVec.ofInt 64 65535).toNat = (n % ((2 ^ 64 : Nat) : Int)).toNat % 2 ^ 16 := by
    rw [BitVec.toNat_and, BitVec.toNat_ofInt, hm, Nat.and_two_pow_sub_one_eq_mod]
  show IntKind.i64.wrap ((BitVec.ofInt 64 n &&& BitVec.ofInt 64 65535).toNat : Nat) = n % 65536
  rw [key, IntKind.wrap_i64]
  omega

theorem extract_take (s : ByteArray) (k : Nat) : (s.extract 0 k).data.toList = s.data.toList.take k := by
  rw [Lib.extract_data]; simp

theorem sumM_step {ls : List (List UInt8)} {i : Nat} {t : List UInt8} (hx : ls[i]? = some t) : sumM (ls.take (i + 1)) = sumM (ls.take i) + min t.length 2048 := by
  rw [List.take_add_one, hx, Option.toList_some, sumM_snoc]

/-- A slice of texts without a text. -/
theorem strsAt_nil {w : World} {v : Value} (h : StrsAt w v []) : ∃ ao cap, v = .slice ao 0 cap := by
  obtain ⟨_, ao, cap, hv, _⟩ := h
  exact ⟨ao, cap, hv⟩

set_option maxHeartbeats 1000000 in
set_option maxRecDepth 100000 in
theorem octetCuts_walk (v : Value) (ls : List (List UInt8)) (cut : Int) (w : World) (hv : StrsAt w v ls) (_hcut : (Lit.int .i64 cut).wf = true) :
    Calls Try.prog 4 #[v, .int .i64 cut] w fun e w' => e = .returned (.bool true) ∧ Below w.heap.size w w' := by
  have HV := Hid.mk hv
  obtain ⟨hlen, ao, cap, rfl, hc⟩ := hv
  have HC := Hid.mk hc
  obtain ⟨q, hq, hq2⟩ : ∃ q : Nat, bits .and .i64 cut 65535 = (q : Int) ∧ q ≤ 65535 := ⟨(cut % 65536).toNat, by rw [i64_and65535]; omega, by omega⟩
  clear hc
  go_enter Try.func4, Try.ntmps4
  go_wp2
  go_loop [5, 6] (fun n c => ∃ i : Nat, i ≤ ls.length ∧ i ≤ 100 ∧ c = .int .i64 i ∧ n = .int .i64 (sumM (ls.take i))) (fun _ c => ls.length - (intOf c).toNat)
  case atStart => exact ⟨0, Nat.zero_le _, Nat.zero_le _, rfl, rfl⟩
  case round =>
    obtain ⟨i, hi, hi5, rfl, rfl⟩ := hrel
    have hsm := sumM_le (ls.take i)
    rw [List.length_take, Nat.min_eq_left hi] at hsm
    by_cases hlt : i < ls.length ∧ i < 100
    · obtain ⟨hlt, hlt5⟩ := hlt
      obtain ⟨t, ht⟩ : ∃ t, ls[i]? = some t := ⟨_, List.getElem?_eq_getElem hlt⟩
      have hltI : (i : Int) < (ls.length : Int) := by omega
      rcases HC.out with hnil | ⟨b, o, rfl, hl, hc⟩
      · rw [hnil] at ht; simp at ht
      · have hcx := hc i t ht
        have hst := sumM_step ht
        have hts := size_list t
        clear hc ht
        generalize hS : sumM (ls.take i) = S at *
        have HS := Hid.mk hst
        clear hS hst
        go_wp2
        go_round
        case rel => exact ⟨i + 1, by omega, by omega, by go_num, by rw [HS.out]; go_num⟩
        case measure => simp [intOf]; omega
    · by_cases hbad : 1024 < sumM (ls.take i) ∨ 60 < ls.length
      · generalize hS : sumM (ls.take i) = S at *
        clear hS
        by_cases hil : i < ls.length
        · have hi0 : 100 ≤ i := by omega
          clear hlt
          by_cases hS1 : 1024 < S
          · go_wp2_with fail
            refine (lists_any _).mono ?_
            rintro e w3 ⟨rfl, hb3⟩
            go_wp2
            go_ret
            exact ⟨rfl, hb3⟩
          · have h60 : 60 < ls.length := by omega
            go_wp2_with fail
            refine (lists_any _).mono ?_
            rintro e w3 ⟨rfl, hb3⟩
            go_wp2
            go_ret
            exact ⟨rfl, hb3⟩
        · clear hlt
          by_cases hS1 : 1024 < S
          · go_wp2_with fail
            refine (lists_any _).mono ?_
            rintro e w3 ⟨rfl, hb3⟩
            go_wp2
            go_ret
            exact ⟨rfl, hb3⟩
          · have h60 : 60 < ls.length := by omega
            go_wp2_with fail
            refine (lists_any _).mono ?_
            rintro e w3 ⟨rfl, hb3⟩
            go_wp2
            go_ret
            exact ⟨rfl, hb3⟩
      · have hil : ¬ i < ls.length := by omega
        have hall : ∀ u ∈ ls, u.length ≤ 1024 := by
          intro u hu
          have := sumM_mem (ls.take i) u (by rw [List.take_of_length_le (by omega)]; exact hu)
          omega
        have hS1 : sumM (ls.take i) ≤ 1024 := by omega
        have h60 : ls.length ≤ 60 := by omega
        generalize hS : sumM (ls.take i) = S at *
        clear hS
        have hP := putListP_ok ls (by omega) (fun u hu => Nat.le_trans (hall u hu) (by decide))
        have HP := Hid.mk (putListV_of hP)
        have HALL := Hid.mk hall
        have hbl := numB_length ls.length
        have hbl2 := numB_le ls.length
        have htl := textsB_le ls (fun u hu => Nat.le_trans (hall u hu) (by decide))
        have HSH := Hid.mk (listP_short ls (by omega) (fun u hu => Nat.le_trans (hall u hu) (by decide)))
        clear hall hP hlt hbad
        generalize hbb : numB ls.length ++ textsB ls = bb at *
        have hb1 : 1 ≤ bb.length := by rw [← hbb, List.length_append]; omega
        have hb2 : bb.length ≤ 9 + 65545 * ls.length := by rw [← hbb, List.length_append]; omega
        have hbz := size_list bb
        clear hbb hbl htl hbl2
        have hne0 : ((bb.length : Int) == 0) = false := by rw [beq_eq_false_iff_ne]; omega
        have hmod : q % bb.length < bb.length := Nat.mod_lt _ (by omega)
        have HSQ := Hid.mk (HSH.out (q % bb.length) hmod)
        go_wp2_with fail
        refine (putList_any _ _ _ HV.out (fun _ u hu => Nat.le_trans (HALL.out u hu) (by decide))).mono ?_
        rintro e w1 ⟨rfl, hbw1⟩
        rw [HP.out]
        have HV1 := Hid.mk (HV.out.below hbw1)
        go_wp2_with fail
        refine (list_any _ _ (by rw [ByteArray.size_extract, hbz]; omega)).mono ?_
        rintro e w2 ⟨v2, rfl, ho2, hbw2⟩
        rw [extract_take, data_list, HSQ.out] at ho2 ⊢
        obtain ⟨ao2, cap2, hv2⟩ := strsAt_nil (strsAt_own ho2 (by simp))
        rw [hv2]
        have hb12 := hbw1.trans (hbw2.mono hbw1.size)
        clear ho2 hbw1 hbw2 hv2
        go_wp2_with fail
        go_loopw [13] (fun c wr => ∃ j : Nat, j ≤ ls.length ∧ c = .int .i64 j ∧ Below w.heap.size w wr) (fun c _ => ls.length - (intOf c).toNat)
        case atStart => exact ⟨0, Nat.zero_le _, rfl, hb12⟩
        case round =>
          obtain ⟨j, hj, rfl, hbr⟩ := hrel
          have hszr := hbr.size
          clear hb12 hil hi hi5
          by_cases hjl : j < ls.length
          · obtain ⟨t, ht⟩ : ∃ t, ls[j]? = some t := ⟨_, List.getElem?_eq_getElem hjl⟩
            have hjI : (j : Int) < (ls.length : Int) := by omega
            rcases HC.out with hnil | ⟨b, o, rfl, hl, hc⟩
            · rw [hnil] at ht; simp at ht
            · have hcx := (hbr.cell (p := ⟨b, o + j, none⟩) hl).trans (hc j t ht)
              have htl := HALL.out t (List.mem_of_getElem? ht)
              have HPV := Hid.mk (putStrV_ok (t := t) (by omega))
              have hsb := strB_le t (by omega)
              have hsb1 : 1 ≤ (strB t).length := by rw [strB, List.length_append, numB_length]; omega
              have HSS : Hid (∀ k, k < (strB t).length → strP ((strB t).take k) = ([], 0, 11)) := by
                intro k hk
                have := strP_short t [] (by omega) k hk
                rwa [List.append_nil] at this
              generalize strB t = sb at *
              have hsz := size_list sb
              have hne1 : ((sb.length : Int) == 0) = false := by rw [beq_eq_false_iff_ne]; omega
              have hmod2 : q % sb.length < sb.length := Nat.mod_lt _ (by omega)
              have HSV := Hid.mk (strV_of (HSS.out (q % sb.length) hmod2))
              clear hc ht
              go_wp2_with fail
              refine (putStr_any _ _ (by rw [size_list]; omega)).mono ?_
              rintro e w3 ⟨rfl, hbw3⟩
              rw [data_list, HPV.out]
              have hb3 := hbr.trans (hbw3.mono hszr)
              have hsz3 := hb3.size
              clear hbr hbw3 hszr hcx
              go_wp2_with fail
              refine (str_any _ _ (by rw [ByteArray.size_extract, hsz]; omega)).mono ?_
              rintro e w4 ⟨rfl, hbw4⟩
              rw [extract_take, data_list, HSV.out]
              have hb4 := hb3.trans (hbw4.mono hsz3)
              clear hb3 hbw4 hsz3
              go_wp2
              go_roundw
              case rel => exact ⟨j + 1, by omega, by go_num, hb4⟩
              case measure => simp [intOf]; omega
          · go_wp2_with fail
            refine (lists_any _).mono ?_
            rintro e w3 ⟨rfl, hb3⟩
            have hb4 := hbr.trans (hb3.mono hszr)
            clear hbr hb3
            go_wp2
            go_ret
            exact ⟨rfl, hb4⟩
end Go.Proofs.Ytdegdoiecfoieab
