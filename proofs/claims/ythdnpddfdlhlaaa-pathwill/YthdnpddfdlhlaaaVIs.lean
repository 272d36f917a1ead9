/- Is of the program and of the document: whether a text is a word. -/
import Derived.Test.YthdnpddfdlhlaaaVMath
import Derived.WalkKit
import Derived.WalkSpells
import Derived.WalkLawsBesides
import Derived.WalkSmall
import Derived.BigQuiet
import Derived.Deep.QuietTactic
namespace Go.Proofs.Ythdnpddfdlhlaaa
open Go.RowKit

theorem Hid.mk {p : Prop} (h : p) : Hid p := h
theorem data_at (s : ByteArray) (i : Nat) (h : i < s.size) : s.data.toList[i]? = some (s[i]'h) := by
  have : i < s.data.toList.length := by rw [Array.length_toList]; exact h
  rw [List.getElem?_eq_getElem this]; rfl
theorem data_len (s : ByteArray) : s.data.toList.length = s.size := by rw [Array.length_toList]; rfl
theorem size_list (l : List UInt8) : (⟨l.toArray⟩ : ByteArray).size = l.length := by rw [← ByteArray.size_data]; simp

set_option maxRecDepth 100000 in
set_option maxHeartbeats 1000000 in
theorem mayStand_any (n : Nat) (w : World) (hn : n < 256) :
    Calls Try.prog 68 #[.int .u8 (n : Int)] w fun e w' => e = .returned (.bool (mayN n)) ∧ w' = w := by
  rcases byte_cases n with h | h | h | h | h | h | h | h
  · have e1 : ¬ (n : Int) = 45 := by omega
    have e2 : ¬ (n : Int) = 58 := by omega
    have e3 : ((n : Int) == 45) = false := beq_eq_false_iff_ne.2 e1
    have e4 : ((n : Int) == 58) = false := beq_eq_false_iff_ne.2 e2
    rw [mayN_no (by omega)]
    go_enter Try.func68, Try.ntmps68
    go_wp2
    go_ret
    exact ⟨rfl, rfl⟩
  · subst h
    rw [mayN_yes (by omega)]
    go_enter Try.func68, Try.ntmps68
    go_wp2
    go_ret
    exact ⟨rfl, rfl⟩
  · have e1 : ¬ (n : Int) = 45 := by omega
    have e2 : ¬ (n : Int) = 58 := by omega
    have e3 : ((n : Int) == 45) = false := beq_eq_false_iff_ne.2 e1
    have e4 : ((n : Int) == 58) = false := beq_eq_false_iff_ne.2 e2
    rw [mayN_no (by omega)]
    go_enter Try.func68, Try.ntmps68
    go_wp2
    go_ret
    exact ⟨rfl, rfl⟩
  · rw [mayN_yes (by omega)]
    go_enter Try.func68, Try.ntmps68
    go_wp2
    go_ret
    exact ⟨rfl, rfl⟩
  · subst h
    rw [mayN_yes (by omega)]
    go_enter Try.func68, Try.ntmps68
    go_wp2
    go_ret
    exact ⟨rfl, rfl⟩
  · have e1 : ¬ (n : Int) = 45 := by omega
    have e2 : ¬ (n : Int) = 58 := by omega
    have e3 : ((n : Int) == 45) = false := beq_eq_false_iff_ne.2 e1
    have e4 : ((n : Int) == 58) = false := beq_eq_false_iff_ne.2 e2
    have f1 : ¬ (n : Int) ≤ 57 := by omega
    rw [mayN_no (by omega)]
    go_enter Try.func68, Try.ntmps68
    go_wp2
    go_ret
    exact ⟨rfl, rfl⟩
  · rw [mayN_yes (by omega)]
    go_enter Try.func68, Try.ntmps68
    go_wp2
    go_ret
    exact ⟨rfl, rfl⟩
  · have e1 : ¬ (n : Int) = 45 := by omega
    have e2 : ¬ (n : Int) = 58 := by omega
    have e3 : ((n : Int) == 45) = false := beq_eq_false_iff_ne.2 e1
    have e4 : ((n : Int) == 58) = false := beq_eq_false_iff_ne.2 e2
    have f1 : ¬ (n : Int) ≤ 57 := by omega
    have f2 : ¬ (n : Int) ≤ 122 := by omega
    rw [mayN_no (by omega)]
    go_enter Try.func68, Try.ntmps68
    go_wp2
    go_ret
    exact ⟨rfl, rfl⟩

theorem all_take_succ {l : List UInt8} {i : Nat} {x : UInt8} (hx : l[i]? = some x) (h : (l.take i).all mayB = true) (hm : mayB x = true) : (l.take (i + 1)).all mayB = true := by
  rw [List.take_add_one, hx, List.all_append, h]
  simp only [Option.toList_some, List.all_cons, List.all_nil, Bool.and_true, Bool.true_and]
  exact hm
theorem all_not {l : List UInt8} {i : Nat} {x : UInt8} (hx : l[i]? = some x) (hm : mayB x = false) : isW l = false := by
  have : l.all mayB = false := by
    rw [Bool.eq_false_iff]
    intro h
    rw [List.all_eq_true] at h
    rw [h x (List.mem_of_getElem? hx)] at hm; cases hm
  simp [isW, this]

set_option maxRecDepth 100000 in
set_option maxHeartbeats 1000000 in
theorem is_any (s : ByteArray) (w : World) :
    Calls Try.prog 61 #[.string s] w fun e w' => e = .returned (.bool (isW s.data.toList)) ∧ w' = w := by
  have hl := data_len s
  by_cases h1 : s.size < 1
  · have hw : isW s.data.toList = false := by simp [isW, hl]; omega
    rw [hw]
    clear hw hl
    go_enter Try.func61, Try.ntmps61
    go_wp2
    go_ret
    exact ⟨rfl, rfl⟩
  · by_cases h2 : 16 < s.size
    · have hw : isW s.data.toList = false := by simp [isW, hl]; omega
      rw [hw]
      clear hw hl
      go_enter Try.func61, Try.ntmps61
      go_wp2
      go_ret
      exact ⟨rfl, rfl⟩
    · have HL := Hid.mk hl
      clear hl
      go_enter Try.func61, Try.ntmps61
      go_wp2
      go_loopw [14] (fun c wr => ∃ i : Nat, i ≤ s.size ∧ c = .int .i64 i ∧ (s.data.toList.take i).all mayB = true ∧ wr = w) (fun c _ => s.size - (intOf c).toNat)
      case atStart => exact ⟨0, Nat.zero_le _, rfl, rfl, rfl⟩
      case round =>
        obtain ⟨i, hi, rfl, hall, rfl⟩ := hrel
        have HA := Hid.mk hall
        clear hall
        by_cases hlt : i < s.size
        · have hltI : (i : Int) < (s.size : Int) := by omega
          obtain ⟨x, hx⟩ : ∃ x : UInt8, s[i]'hlt = x := ⟨_, rfl⟩
          have HX := Hid.mk (by rw [data_at s i hlt, hx] : s.data.toList[i]? = some x)
          have hxb := UInt8.toNat_lt x
          obtain ⟨m, hm⟩ : ∃ m, mayN x.toNat = m := ⟨_, rfl⟩
          have C := Hid.mk (mayStand_any x.toNat wr hxb)
          rw [hm] at C
          have HM := Hid.mk (show mayB x = m from hm)
          clear hm
          cases m with
          | true =>
            go_wp2_with fail
            refine C.out.mono ?_
            rintro e w1 ⟨rfl, rfl⟩
            go_wp2
            go_roundw
            case rel => exact ⟨i + 1, by omega, by go_num, all_take_succ HX.out HA.out HM.out, by trivial⟩
            case measure => simp [intOf]; omega
          | false =>
            go_wp2_with fail
            refine C.out.mono ?_
            rintro e w1 ⟨rfl, rfl⟩
            go_wp2
            go_ret
            exact ⟨by rw [all_not HX.out HM.out]; rfl, rfl⟩
        · obtain rfl : i = s.size := by omega
          have hw : isW s.data.toList = true := by
            have a := HA.out
            rw [List.take_of_length_le (by rw [HL.out]; exact Nat.le_refl _)] at a
            simp only [isW, HL.out, a]
            simp; omega
          have HW := Hid.mk hw
          clear hw
          go_wp2
          go_ret
          exact ⟨by rw [HW.out]; rfl, rfl⟩
end Go.Proofs.Ythdnpddfdlhlaaa
