/- The statement of joins: a list's bytes are the document's, and are read back whatever stands behind. -/
import Derived.Test.YtdegdoiecfoieaaLaws3
import Derived.Test.YtdegdoiecfoieaaRPutList
import Derived.SliceStrings
import Derived.OpenShut
namespace Go.Proofs.Ytdegdoiecfoieaa
open Go.RowKit

theorem bytes_eta (s : ByteArray) : (⟨s.data.toList.toArray⟩ : ByteArray) = s := by cases s; simp

/-- An argument that is a slice of texts, as the walks want it. -/
theorem open_strs {H : Type} {enc : TypeId × Value → H} {W : World} {a : Option Addr} {len cap fuel : Nat} {cs : List Value} {x : DataW H × List MemPlace}
    (hf : DataW.trod enc Try.prog W 0 (fun _ => true) true fuel 34 cs = some x) (hcs : cs = [.slice a len cap]) : ∃ ls, StrsAt W (.slice a len cap) ls := by
  subst hcs
  rcases Go.ChangeShapes.open_strings Try.underlying34 Try.underlying9 (by kernel_rfl) hf with ⟨hcs, _⟩ | ⟨ad, len', cap', ss, hcs, _, hl, hm, hz, _, hcell, _⟩
  · simp only [List.cons.injEq, Value.slice.injEq, and_true] at hcs
    obtain ⟨rfl, rfl, rfl⟩ := hcs
    exact ⟨[], by simp, none, 0, rfl, .inl rfl⟩
  · simp only [List.cons.injEq, Value.slice.injEq, and_true] at hcs
    obtain ⟨rfl, rfl, rfl⟩ := hcs
    simp only [if_true] at hz
    have hl2 : ((ss.take len).map fun s => s.data.toList).length = len := by rw [List.length_map, List.length_take]; omega
    refine ⟨(ss.take len).map fun s => s.data.toList, by rw [hl2]; unfold maxLen at hm; omega, some ad, cap, by rw [hl2], ?_⟩
    by_cases h0 : len = 0
    · left; rw [h0]; simp
    · right
      obtain ⟨b, off, spot⟩ := ad
      have hspot : spot = none := by simpa [Addr.add] using World.cell?_spot (hcell 0 (by omega))
      subst hspot
      refine ⟨b, off, rfl, World.block_lt_of_cell? W _ (hcell 0 (by omega)), fun j t hj => ?_⟩
      have hj1 : j < len := by have := (List.getElem?_eq_some_iff.1 hj).1; rw [hl2] at this; exact this
      rw [List.getElem?_map, List.getElem?_take_of_lt hj1, List.getElem?_eq_getElem (by omega)] at hj
      simp only [Option.map_some, Option.some.injEq] at hj
      rw [← Go.WideShapes.add_plain, hcell j (by omega), List.getD, List.getElem?_eq_getElem (by omega), ← hj, bytes_eta]; rfl

theorem sum_step {ls : List (List UInt8)} {i : Nat} {t : List UInt8} (hx : ls[i]? = some t) : sumL (ls.take (i + 1)) = sumL (ls.take i) + t.length := by
  rw [List.take_add_one, hx, Option.toList_some, sumL_snoc]

theorem take_all4 {N : Nat} {ls : List (List UInt8)} {i : Nat} {t : List UInt8} (h : ∀ u ∈ ls.take i, u.length ≤ N) (hx : ls[i]? = some t) (ht : t.length ≤ N) : ∀ u ∈ ls.take (i + 1), u.length ≤ N := by
  intro u hu
  rw [List.take_add_one, hx] at hu
  simp at hu
  rcases hu with hu | rfl
  · exact h u hu
  · exact ht

theorem putListV_form (ls : List (List UInt8)) : ∃ (t : ByteArray) (e : Int), putListV ls = .tuple #[.string t, .int .i64 e] := ⟨_, _, rfl⟩

set_option maxHeartbeats 1000000 in
set_option maxRecDepth 100000 in
theorem octetJoins_walk (v : Value) (ls : List (List UInt8)) (s : ByteArray) (w : World) (hv : StrsAt w v ls) (hr : s.size ≤ 140737488351232) :
    Calls Try.prog 8 #[v, .string s] w fun e w' => e = .returned (.bool true) ∧ Below w.heap.size w w' := by
  have HV := Hid.mk hv
  obtain ⟨hlen, ao, cap, rfl, hc⟩ := hv
  have HC := Hid.mk hc
  clear hc
  go_enter Try.func8, Try.ntmps8
  go_wp2
  go_loop [5, 6] (fun n c => ∃ i : Nat, i ≤ ls.length ∧ i ≤ 5000 ∧ c = .int .i64 i ∧ n = .int .i64 (sumL (ls.take i)) ∧ sumL (ls.take i) ≤ 4096 ∧ ∀ u ∈ ls.take i, u.length ≤ 4096) (fun _ c => ls.length - (intOf c).toNat)
  case atStart => exact ⟨0, Nat.zero_le _, Nat.zero_le _, rfl, rfl, by simp [sumL], by simp⟩
  case round =>
    obtain ⟨i, hi, hi5, rfl, rfl, hs4, hall⟩ := hrel
    have HALL := Hid.mk hall
    clear hall
    by_cases hlt : i < ls.length ∧ i < 5000
    · obtain ⟨hlt, hlt5⟩ := hlt
      obtain ⟨t, ht⟩ : ∃ t, ls[i]? = some t := ⟨_, List.getElem?_eq_getElem hlt⟩
      have hltI : (i : Int) < (ls.length : Int) := by omega
      rcases HC.out with hnil | ⟨b, o, rfl, hl, hc⟩
      · rw [hnil] at ht; simp at ht
      · have hcx := hc i t ht
        have hst := sum_step ht
        have HT := Hid.mk ht
        have hts := size_list t
        clear hc ht
        generalize hS : sumL (ls.take i) = S at *
        have HS := Hid.mk hst
        clear hS hst
        by_cases h4 : 4096 < t.length
        · go_wp2_with fail
          refine (lists_any _).mono ?_
          rintro e w3 ⟨rfl, hb3⟩
          go_wp2
          go_ret
          exact ⟨rfl, hb3⟩
        · by_cases h5 : 4096 < S + t.length
          · go_wp2_with fail
            refine (lists_any _).mono ?_
            rintro e w3 ⟨rfl, hb3⟩
            go_wp2
            go_ret
            exact ⟨rfl, hb3⟩
          · have HA2 := Hid.mk (take_all4 HALL.out HT.out (by omega))
            go_wp2
            go_round
            case rel => exact ⟨i + 1, by omega, by omega, by go_num, by rw [HS.out]; go_num, by rw [HS.out]; omega, HA2.out⟩
            case measure => simp [intOf]; omega
    · generalize hS : sumL (ls.take i) = S at *
      clear hS
      by_cases hle : ls.length ≤ 4096
      · have hil : ¬ i < ls.length := by omega
        have hall := HALL.out
        rw [List.take_of_length_le (by omega)] at hall
        have hP := putListP_ok ls hle (fun u hu => Nat.le_trans (hall u hu) (by decide))
        have HP := Hid.mk (putListV_of hP)
        have HALL2 := Hid.mk hall
        have hbl := numB_le ls.length
        have htl := textsB_le ls (fun u hu => Nat.le_trans (hall u hu) (by decide))
        have HB := Hid.mk (listP_back ls hle (fun u hu => Nat.le_trans (hall u hu) (by decide)) s.data.toList)
        clear hall hP hlt
        generalize hbb : numB ls.length ++ textsB ls = bb at *
        have hbl2 : bb.length ≤ 9 + 65545 * ls.length := by rw [← hbb, List.length_append]; omega
        have hbz := size_list bb
        clear hbb hbl htl
        by_cases hg : 16384 < s.size
        · go_wp2_with fail
          refine (putList_any _ _ _ HV.out (fun _ u hu => Nat.le_trans (HALL2.out u hu) (by decide))).mono ?_
          rintro e w1 ⟨rfl, hb1⟩
          rw [HP.out]
          have HV1 := Hid.mk (HV.out.below hb1)
          go_wp2_with fail
          refine (rPutList_any _ _ _ HV1.out (fun _ u hu => Nat.le_trans (HALL2.out u hu) (by decide))).mono ?_
          rintro e w2 ⟨rfl, hb2⟩
          rw [HP.out]
          have hb12 := hb1.trans (hb2.mono hb1.size)
          clear hb1 hb2
          go_wp2_with fail
          refine (lists_any _).mono ?_
          rintro e w3 ⟨rfl, hb3⟩
          have hb13 := hb12.trans (hb3.mono hb12.size)
          clear hb12 hb3
          go_wp2
          go_ret
          exact ⟨rfl, hb13⟩
        · go_wp2_with fail
          refine (putList_any _ _ _ HV.out (fun _ u hu => Nat.le_trans (HALL2.out u hu) (by decide))).mono ?_
          rintro e w1 ⟨rfl, hb1⟩
          rw [HP.out]
          have HV1 := Hid.mk (HV.out.below hb1)
          go_wp2_with fail
          refine (rPutList_any _ _ _ HV1.out (fun _ u hu => Nat.le_trans (HALL2.out u hu) (by decide))).mono ?_
          rintro e w2 ⟨rfl, hb2⟩
          rw [HP.out]
          have HV2 := Hid.mk (HV1.out.below hb2)
          have hb12 := hb1.trans (hb2.mono hb1.size)
          clear hb1 hb2
          go_wp2_with fail
          refine (list_any _ _ (by rw [ByteArray.size_append, size_list]; omega)).mono ?_
          rintro e w3 ⟨v3, rfl, ho3, hb3⟩
          rw [append_data, data_list, HB.out] at *
          have HV3 := Hid.mk (HV2.out.below hb3)
          have HW3 := Hid.mk (strsAt_own ho3 (by simp only; omega))
          have hb13 := hb12.trans (hb3.mono hb12.size)
          clear hb12 hb3 ho3
          go_wp2_with fail
          refine (same_self _ _ _ _ HV3.out HW3.out).mono ?_
          rintro e w4 ⟨rfl, hb4⟩
          have hb14 := hb13.trans (hb4.mono hb13.size)
          clear hb13 hb4
          go_wp2_with fail
          refine (lists_any _).mono ?_
          rintro e w5 ⟨rfl, hb5⟩
          have hb15 := hb14.trans (hb5.mono hb14.size)
          clear hb14 hb5
          go_wp2
          go_ret
          exact ⟨rfl, hb15⟩
      · have HP := Hid.mk (putListV_of (putListP_many ls (by omega)))
        by_cases hil : i < ls.length
        · have hi0 : 5000 ≤ i := by omega
          clear hlt
          go_wp2_with fail
          refine (putList_any _ _ _ HV.out (fun h => absurd h (by omega))).mono ?_
          rintro e w1 ⟨rfl, hb1⟩
          rw [HP.out]
          have hv1 := HV.out.below hb1
          have HV1 := Hid.mk hv1
          clear hv1
          go_wp2_with fail
          refine (rPutList_any _ _ _ HV1.out (fun h => absurd h (by omega))).mono ?_
          rintro e w2 ⟨rfl, hb2⟩
          rw [HP.out]
          have hb12 := hb1.trans (hb2.mono hb1.size)
          clear hb1 hb2
          go_wp2_with fail
          refine (lists_any _).mono ?_
          rintro e w3 ⟨rfl, hb3⟩
          have hb13 := hb12.trans (hb3.mono hb12.size)
          clear hb12 hb3
          go_wp2
          go_ret
          exact ⟨rfl, hb13⟩
        · clear hlt
          go_wp2_with fail
          refine (putList_any _ _ _ HV.out (fun h => absurd h (by omega))).mono ?_
          rintro e w1 ⟨rfl, hb1⟩
          rw [HP.out]
          have hv1 := HV.out.below hb1
          have HV1 := Hid.mk hv1
          clear hv1
          go_wp2_with fail
          refine (rPutList_any _ _ _ HV1.out (fun h => absurd h (by omega))).mono ?_
          rintro e w2 ⟨rfl, hb2⟩
          rw [HP.out]
          have hb12 := hb1.trans (hb2.mono hb1.size)
          clear hb1 hb2
          go_wp2_with fail
          refine (lists_any _).mono ?_
          rintro e w3 ⟨rfl, hb3⟩
          have hb13 := hb12.trans (hb3.mono hb12.size)
          clear hb12 hb3
          go_wp2
          go_ret
          exact ⟨rfl, hb13⟩
end Go.Proofs.Ytdegdoiecfoieaa
