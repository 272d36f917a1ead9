/- What Same answers of two lists of texts in memory: whether they are the same. -/
import Derived.Test.YtnepednomejniaaRList
import Derived.Deep.QuietTactic
import Derived.BigQuiet
import Derived.WalkSmall
namespace Go.Proofs.Ytnepednomejniaa
open Go.RowKit

/-- A slice of texts in memory, read-only. -/
def StrsAt (w : World) (v : Value) (ss : List (List UInt8)) : Prop :=
  ss.length ≤ 9223372036854775807 ∧ ∃ ao cap, v = .slice ao ss.length cap ∧ (ss = [] ∨ ∃ b o, ao = some ⟨b, o, none⟩ ∧ b < w.heap.size ∧ ∀ j t, ss[j]? = some t → w.cell? ⟨b, o + j, none⟩ = some (.string ⟨t.toArray⟩))

theorem StrsAt.below {w w' : World} {v : Value} {ss : List (List UInt8)} (h : StrsAt w v ss) (hb : Below w.heap.size w w') : StrsAt w' v ss := by
  obtain ⟨h1, ao, cap, h2, h3⟩ := h
  refine ⟨h1, ao, cap, h2, ?_⟩
  rcases h3 with h3 | ⟨b, o, ha, hl, hc⟩
  · exact .inl h3
  · exact .inr ⟨b, o, ha, Nat.lt_of_lt_of_le hl hb.size, fun j t hj => (hb.cell (p := ⟨b, o + j, none⟩) hl).trans (hc j t hj)⟩

theorem strsAt_own {w : World} {B : Nat} {v : Value} {ss : List (List UInt8)} (h : w.ownsRow B 9 1 v ss.length (strCs ss)) (hl : ss.length ≤ 9223372036854775807) : StrsAt w v ss := by
  refine ⟨hl, ?_⟩
  have h2 := h.2
  rcases h2 with ⟨rfl, h0⟩ | ⟨g, cap, cur, rfl, h2⟩
  · exact ⟨none, 0, by rw [h0], .inl (List.length_eq_zero_iff.1 h0)⟩
  · refine ⟨_, cap, rfl, .inr ⟨g, 0, rfl, (h.lt g rfl).2, fun j t hj => ?_⟩⟩
    rw [Nat.zero_add, h.cellAt j (by have := (List.getElem?_eq_some_iff.1 hj).1; omega), strCs, List.getElem?_map, hj]; rfl

set_option maxRecDepth 100000 in
set_option maxHeartbeats 1000000 in
theorem same_any (va vb : Value) (xs ys : List (List UInt8)) (w : World) (ha : StrsAt w va xs) (hb : StrsAt w vb ys) :
    Calls Try.prog 36 #[va, vb] w fun e w' => e = .returned (.bool (decide (xs = ys))) ∧ Below w.heap.size w w' := by
  obtain ⟨la, aa, ca, rfl, ha⟩ := ha
  obtain ⟨lb, ab, cb, rfl, hb⟩ := hb
  by_cases hl : xs.length = ys.length
  · rcases ha with rfl | ⟨ba, oa, rfl, ha1, ha2⟩
    · have h0 : ys = [] := List.length_eq_zero_iff.1 (by simpa using hl.symm)
      subst h0
      go_enter Try.func36, Try.ntmps36
      go_wp2
      refine wp_loop_rounds 1 ?_
      rw [rounds_succ]
      go_wp2
      go_ret
      exact ⟨rfl, Below.refl _ _⟩
    · rcases hb with rfl | ⟨bb, ob, rfl, hb1, hb2⟩
      · have h0 : xs = [] := List.length_eq_zero_iff.1 (by simpa using hl)
        subst h0
        go_enter Try.func36, Try.ntmps36
        go_wp2
        refine wp_loop_rounds 1 ?_
        rw [rounds_succ]
        go_wp2
        go_ret
        exact ⟨rfl, Below.refl _ _⟩
      · have HA := Hid.mk ha2
        have HB := Hid.mk hb2
        have HL := Hid.mk hl
        rw [← hl]
        clear ha2 hb2 hl
        go_enter Try.func36, Try.ntmps36
        go_wp2
        go_loopw [5] (fun c wr => ∃ i : Nat, i ≤ xs.length ∧ c = .int .i64 i ∧ xs.take i = ys.take i ∧ Below w.heap.size w wr) (fun c _ => xs.length - (intOf c).toNat)
        case atStart => exact ⟨0, Nat.zero_le _, rfl, rfl, Below.refl _ _⟩
        case round =>
          obtain ⟨i, hi, rfl, htk, hbw⟩ := hrel
          have HT := Hid.mk htk
          clear htk
          by_cases hlt : i < xs.length
          · obtain ⟨x, hx⟩ : ∃ x, xs[i]? = some x := ⟨_, List.getElem?_eq_getElem hlt⟩
            obtain ⟨y, hy⟩ : ∃ y, ys[i]? = some y := ⟨_, List.getElem?_eq_getElem (by rw [← HL.out]; exact hlt)⟩
            have hcx := (hbw.cell (p := ⟨ba, oa + i, none⟩) ha1).trans (HA.out i x hx)
            have hcy := (hbw.cell (p := ⟨bb, ob + i, none⟩) hb1).trans (HB.out i y hy)
            have HX := Hid.mk hx
            have HY := Hid.mk hy
            clear hx hy
            have hltI : (i : Int) < (xs.length : Int) := by omega
            by_cases hxy : x = y
            · subst hxy
              have hnx : xs.take (i + 1) = ys.take (i + 1) := by
                rw [List.take_add_one, List.take_add_one, HT.out, HX.out, HY.out]
              have HN := Hid.mk hnx
              clear hnx
              go_wp2
              go_quiet (fail)
              have hbq := below_drewN hbw nq
              go_wp2
              go_roundw
              case rel => exact ⟨i + 1, by omega, by go_num, HN.out, hbq⟩
              case measure => simp [intOf]; omega
            · have hxy2 : (x == y) = false := by rw [beq_eq_false_iff_ne]; exact hxy
              have hne : decide (xs = ys) = false := by
                rw [decide_eq_false_iff_not]; intro h
                have a := HX.out
                rw [h, HY.out] at a
                exact hxy (Option.some.inj a).symm
              have HN := Hid.mk hne
              clear hne
              go_wp2
              go_quiet (fail)
              have hbq := below_drewN hbw nq
              go_wp2
              go_ret
              exact ⟨by rw [HN.out]; rfl, hbq⟩
          · have hie : i = xs.length := by omega
            have heq : decide (xs = ys) = true := by
              rw [decide_eq_true_iff]
              have := HT.out
              rw [List.take_of_length_le (by omega), List.take_of_length_le (by rw [← HL.out]; omega)] at this
              exact this
            have HN := Hid.mk heq
            clear heq hie
            go_wp2
            go_ret
            exact ⟨by rw [HN.out]; rfl, hbw⟩
  · have hne : decide (xs = ys) = false := by
      rw [decide_eq_false_iff_not]; intro h; exact hl (by rw [h])
    have HN := Hid.mk hne
    have hl2 : ((xs.length : Int) != (ys.length : Int)) = true := by rw [bne_iff_ne]; omega
    clear hne
    go_enter Try.func36, Try.ntmps36
    go_wp2
    go_ret
    exact ⟨by rw [HN.out]; rfl, Below.refl _ _⟩
end Go.Proofs.Ytnepednomejniaa
