/- What PutList of the program answers of a list of texts in memory. -/
import Derived.Test.YtnepednomejniaaSame
import Derived.Test.YtnepednomejniaaBuild
namespace Go.Proofs.Ytnepednomejniaa
open Go.RowKit

theorem builder_below {w w' : World} {T e : TypeId} {B b : Nat} {bs : List Value} (h : Lib.IsBuilder T e B b bs w) (hb : Below w.heap.size w w') : Lib.IsBuilder T e B b bs w' := by
  have key : ∀ p, Lib.BuilderAt T e B b p bs w → Lib.BuilderAt T e B b p bs w' := by
    rintro p h
    have hlt := h.lt
    obtain ⟨h1, v, h2, h3, h4⟩ := h
    exact ⟨h1, v, (hb.block b hlt).trans h2, ownsRow_below h3 hb, h4⟩
  rcases h with h | h
  · exact .inl (key _ h)
  · exact .inr (key _ h)

theorem byteCells_str (a : List UInt8) (l : List UInt8) : Lib.byteCells a ++ Lib.strCells ⟨l.toArray⟩ = Lib.byteCells (a ++ l) := by
  simp [Lib.byteCells, Lib.strCells]

/-- What PutList answers, as a value. -/
def putListV (ls : List (List UInt8)) : Value := .tuple #[.string ⟨(putListP ls).1.toArray⟩, .int .i64 ((putListP ls).2 : Int)]
theorem putListV_of {ls : List (List UInt8)} {l : List UInt8} {e : Nat} (h : putListP ls = (l, e)) : putListV ls = .tuple #[.string ⟨l.toArray⟩, .int .i64 (e : Int)] := by rw [putListV, h]
theorem putStrV_ok {t : List UInt8} (h : t.length ≤ 65536) : putStrV t = .tuple #[.string ⟨(strB t).toArray⟩, .int .i64 0] := by rw [putStrV, if_neg (by omega)]
theorem putStrV_long {t : List UInt8} (h : 65536 < t.length) : putStrV t = .tuple #[.string ⟨#[]⟩, .int .i64 12] := by rw [putStrV, if_pos h]

theorem take_all {ls : List (List UInt8)} {i : Nat} {t : List UInt8} (h : ∀ u ∈ ls.take i, u.length ≤ 65536) (hx : ls[i]? = some t) (ht : t.length ≤ 65536) : ∀ u ∈ ls.take (i + 1), u.length ≤ 65536 := by
  intro u hu
  rw [List.take_add_one, hx] at hu
  simp at hu
  rcases hu with hu | rfl
  · exact h u hu
  · exact ht

set_option maxRecDepth 100000 in
set_option maxHeartbeats 1000000 in
theorem putList_any (v : Value) (ls : List (List UInt8)) (w : World) (hv : StrsAt w v ls) (hsm : ls.length ≤ 4096 → ∀ t ∈ ls, t.length ≤ 140737488355328) :
    Calls Try.prog 54 #[v] w fun e w' => e = .returned (putListV ls) ∧ Below w.heap.size w w' := by
  obtain ⟨hlen, ao, cap, rfl, hc⟩ := hv
  by_cases hm : 4096 < ls.length
  · have HV := Hid.mk (putListV_of (putListP_many ls hm))
    go_enter Try.func54, Try.ntmps54
    go_wp2
    go_ret2
    exact ⟨by rw [HV.out]; rfl, Below.refl _ _⟩
  · have hfb := Lib.fresh_isBuilder 87 5 w
    have HSM := Hid.mk (hsm (by omega))
    clear hsm
    have hn63 : ls.length < 2 ^ 63 := by omega
    have h9 := numB_le ls.length
    rcases hc with rfl | ⟨b, o, rfl, hl, hc⟩
    · have HV := Hid.mk (putListV_of (putListP_ok [] (by simp) (by simp)))
      go_enter Try.func54, Try.ntmps54
      go_wp2_with fail
      refine (numBytes_any _ _ hn63).mono ?_
      rintro e w1 ⟨rfl, hb1⟩
      have hbu1 := builder_below hfb hb1
      have hbw1 : Below w.heap.size w w1 := ((Below.refl _ _).alloc (Nat.le_refl _) _).trans (hb1.mono (by simp))
      have hs1 := hbw1.size
      clear hfb hb1
      go_wp2_with fail
      refine (writeString_any _ _ _ _ _ hbu1 (by rw [size_list]; exact Nat.le_trans (Nat.add_le_add (Nat.le_refl _) (numB_le _)) (by decide)) hs1).mono ?_
      rintro e w2 ⟨rfl, hbu2, hb2⟩
      have hbw2 := hbw1.trans hb2
      have hb2' : Lib.IsBuilder 87 5 w.heap.size w.heap.size (Lib.byteCells (numB ([] : List (List UInt8)).length ++ textsB (([] : List (List UInt8)).take 0))) w2 := by
        have := byteCells_str [] (numB ([] : List (List UInt8)).length)
        rw [List.nil_append] at this
        rw [List.take_zero, show textsB [] = [] from rfl, List.append_nil, ← this]
        exact .inr hbu2
      clear hbu1 hbu2 hbw1 hs1 hb2
      have hs2 := hbw2.size
      go_wp2_with fail
      refine wp_loop_rounds 1 ?_
      rw [rounds_succ]
      go_wp2_with fail
      refine (Try.Builder_String_any _ _ _ _ hb2' hs2).mono ?_
      rintro e w3 ⟨rfl, hb3⟩
      have hbw3 := hbw2.trans hb3
      clear hb2'
      go_wp2
      go_ret2
      exact ⟨by rw [HV.out]; rfl, hbw3⟩
    · have HC := Hid.mk hc
      clear hc
      go_enter Try.func54, Try.ntmps54
      go_wp2_with fail
      refine (numBytes_any _ _ hn63).mono ?_
      rintro e w1 ⟨rfl, hb1⟩
      have hbu1 := builder_below hfb hb1
      have hbw1 : Below w.heap.size w w1 := ((Below.refl _ _).alloc (Nat.le_refl _) _).trans (hb1.mono (by simp))
      have hs1 := hbw1.size
      clear hfb hb1
      go_wp2_with fail
      refine (writeString_any _ _ _ _ _ hbu1 (by rw [size_list]; exact Nat.le_trans (Nat.add_le_add (Nat.le_refl _) (numB_le _)) (by decide)) hs1).mono ?_
      rintro e w2 ⟨rfl, hbu2, hb2⟩
      have hbw2 := hbw1.trans hb2
      have hb2' : Lib.IsBuilder 87 5 w.heap.size w.heap.size (Lib.byteCells (numB ls.length ++ textsB (ls.take 0))) w2 := by
        have := byteCells_str [] (numB ls.length)
        rw [List.nil_append] at this
        rw [List.take_zero, show textsB [] = [] from rfl, List.append_nil, ← this]
        exact .inr hbu2
      clear hbu1 hbu2 hbw1 hs1 hb2
      go_wp2_with fail
      go_loopw [18] (fun c wr => ∃ i : Nat, i ≤ ls.length ∧ c = .int .i64 i ∧ (∀ u ∈ ls.take i, u.length ≤ 65536) ∧ Lib.IsBuilder 87 5 w.heap.size w.heap.size (Lib.byteCells (numB ls.length ++ textsB (ls.take i))) wr ∧ Below w.heap.size w wr) (fun c _ => ls.length - (intOf c).toNat)
      case atStart => exact ⟨0, Nat.zero_le _, rfl, by simp, hb2', hbw2⟩
      case round =>
        obtain ⟨i, hi, rfl, hall, hbu, hb⟩ := hrel
        have HALL := Hid.mk hall
        have hsz := hb.size
        clear hall hb2' hbw2
        by_cases hlt : i < ls.length
        · obtain ⟨t, ht⟩ : ∃ t, ls[i]? = some t := ⟨_, List.getElem?_eq_getElem hlt⟩
          have hcx := (hb.cell (p := ⟨b, o + i, none⟩) hl).trans (HC.out i t ht)
          have htm : t ∈ ls := List.mem_of_getElem? ht
          have htl := HSM.out t htm
          have HT := Hid.mk ht
          have hltI : (i : Int) < (ls.length : Int) := by omega
          have hts : (⟨t.toArray⟩ : ByteArray).size ≤ 140737488355328 := by rw [size_list]; exact htl
          clear ht
          by_cases h6 : t.length ≤ 65536
          · have hPV := Hid.mk (putStrV_ok h6)
            have hall2 := Hid.mk (take_all HALL.out HT.out h6)
            have hlc := textsB_le (ls.take i) HALL.out
            rw [List.length_take, Nat.min_eq_left hi] at hlc
            have hsb := strB_le t h6
            clear htm
            go_wp2_with fail
            refine (putStr_any _ _ hts).mono ?_
            rintro e w3 ⟨rfl, hb3⟩
            rw [data_list, hPV.out]
            have hbu3 := builder_below hbu hb3
            have hbw3 := hb.trans (hb3.mono hsz)
            have hsz3 := hbw3.size
            clear hbu hb hb3 hsz hcx
            go_wp2_with fail
            refine (writeString_any _ _ _ _ _ hbu3 (by rw [Lib.byteCells_length, List.length_append, size_list]; omega) hsz3).mono ?_
            rintro e w4 ⟨rfl, hbu4, hb4⟩
            have hbw4 := hbw3.trans hb4
            have hbu5 : Lib.IsBuilder 87 5 w.heap.size w.heap.size (Lib.byteCells (numB ls.length ++ textsB (ls.take (i + 1)))) w4 := by
              rw [List.take_add_one, HT.out, Option.toList_some, textsB_snoc, ← List.append_assoc, ← byteCells_str]
              exact .inr hbu4
            clear hbu3 hbu4 hb4 hbw3 hsz3
            go_wp2
            go_roundw
            case rel => exact ⟨i + 1, by omega, by go_num, hall2.out, hbu5, hbw4⟩
            case measure => simp [intOf]; omega
          · have hPV := Hid.mk (putStrV_long (t := t) (by omega))
            have HV := Hid.mk (putListV_of (putListP_long ls t htm (by omega)))
            clear htm
            go_wp2_with fail
            refine (putStr_any _ _ hts).mono ?_
            rintro e w3 ⟨rfl, hb3⟩
            rw [data_list, hPV.out]
            have hbw3 := hb.trans (hb3.mono hsz)
            clear hbu hb hb3 hsz hcx
            go_wp2
            go_ret2
            exact ⟨by rw [HV.out]; rfl, hbw3⟩
        · have hie : i = ls.length := by omega
          have hall := HALL.out
          rw [hie, List.take_of_length_le (Nat.le_refl _)] at hall
          have HV := Hid.mk (putListV_of (putListP_ok ls (by omega) hall))
          have HI := Hid.mk hie
          clear hie hall
          go_wp2_with fail
          refine (Try.Builder_String_any _ _ _ _ hbu hsz).mono ?_
          rintro e w3 ⟨rfl, hb3⟩
          have hbw3 := hb.trans hb3
          clear hbu hb hb3
          go_wp2
          go_ret2
          exact ⟨by rw [HV.out, HI.out, List.take_of_length_le (Nat.le_refl _)]; rfl, hbw3⟩
end Go.Proofs.Ytnepednomejniaa
