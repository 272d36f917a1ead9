/- Whether rows, notes are the same, as the document's own definition tells. -/
import Derived.Test.YtnepednomejniaaWAll
namespace Go.Proofs.Ytnepednomejniaa
open Go.RowKit

theorem sameAt_any (va vb : Value) (xs ys : List (List UInt8)) (w : World) (ha : StrsAt w va xs) (hb : StrsAt w vb ys) :
    Calls Try.prog 36 #[va, vb] w fun e w' => e = .returned (.bool (decide (xs = ys))) ∧ Below w.heap.size w w' := same_any va vb xs ys w ha hb

set_option maxRecDepth 100000 in
set_option maxHeartbeats 1000000 in
theorem sameRows_any (va vb : Value) (xs ys : List (List (List UInt8))) (w : World) (ha : RowsAt w va xs) (hb : RowsAt w vb ys) :
    Calls Try.prog 37 #[va, vb] w fun e w' => e = .returned (.bool (decide (xs = ys))) ∧ Below w.heap.size w w' := by
  obtain ⟨la, aa, ca, vsa, rfl, hla, ha, hsa⟩ := ha.parts
  obtain ⟨lb, ab, cb, vsb, rfl, hlb, hb, hsb⟩ := hb.parts
  by_cases hl : xs.length = ys.length
  · have HA := Hid.mk ha
    have HB := Hid.mk hb
    have HL := Hid.mk hl
    have HLA := Hid.mk hla
    have HLB := Hid.mk hlb
    have HSA := Hid.mk hsa
    have HSB := Hid.mk hsb
    rw [← hl]
    clear ha hb hl hla hlb hsa hsb
    go_enter Try.func37, Try.ntmps37
    go_wp2
    go_loopw [5] (fun c wr => ∃ i : Nat, i ≤ xs.length ∧ c = .int .i64 i ∧ xs.take i = ys.take i ∧ Below w.heap.size w wr) (fun c _ => xs.length - (intOf c).toNat)
    case atStart => exact ⟨0, Nat.zero_le _, rfl, rfl, Below.refl _ _⟩
    case round =>
      obtain ⟨i, hi, rfl, htk, hbw⟩ := hrel
      have HT := Hid.mk htk
      clear htk
      by_cases hlt : i < xs.length
      · obtain ⟨r1, hx⟩ : ∃ x, xs[i]? = some x := ⟨_, List.getElem?_eq_getElem hlt⟩
        obtain ⟨r2, hy⟩ : ∃ y, ys[i]? = some y := ⟨_, List.getElem?_eq_getElem (by rw [← HL.out]; exact hlt)⟩
        obtain ⟨x, hvx⟩ : ∃ x, vsa[i]? = some x := ⟨_, List.getElem?_eq_getElem (by rw [HLA.out]; exact hlt)⟩
        obtain ⟨y, hvy⟩ : ∃ y, vsb[i]? = some y := ⟨_, List.getElem?_eq_getElem (by rw [HLB.out, ← HL.out]; exact hlt)⟩
        rcases HA.out with hnil | ⟨ba, oa, rfl, ha1, ha2⟩
        · rw [hnil] at hvx; simp at hvx
        · rcases HB.out with hnil | ⟨bb, ob, rfl, hb1, hb2⟩
          · rw [hnil] at hvy; simp at hvy
          · have hcx := (hbw.cell (p := ⟨ba, oa + i, none⟩) ha1).trans (ha2 i x hvx)
            have hcy := (hbw.cell (p := ⟨bb, ob + i, none⟩) hb1).trans (hb2 i y hvy)
            have hla1 : ba < wr.heap.size := Nat.lt_of_lt_of_le ha1 hbw.size
            have hlb1 : bb < wr.heap.size := Nat.lt_of_lt_of_le hb1 hbw.size
            have SX := Hid.mk (((HSA.out i x r1 hvx hx).below hbw).drew)
            have SY := Hid.mk (((HSB.out i y r2 hvy hy).below hbw).drew)
            have HX := Hid.mk hx
            have HY := Hid.mk hy
            have HBW := Hid.mk hbw.drew
            have hltI : (i : Int) < (xs.length : Int) := by omega
            have h0I : (0 : Int) ≤ (i : Int) := by omega
            have C := Hid.mk (same_any x y r1 r2 wr.drew SX.out SY.out)
            clear hx hy hvx hvy ha2 hb2 hbw ha1 hb1
            by_cases hxy : r1 = r2
            · subst hxy
              have hnx : xs.take (i + 1) = ys.take (i + 1) := by
                rw [List.take_add_one, List.take_add_one, HT.out, HX.out, HY.out]
              have HN := Hid.mk hnx
              clear hnx
              rw [decide_eq_true (rfl : r1 = r1)] at C
              go_wp2
              go_region_held (fun w' => w'.cell? ⟨ba, oa + i, none⟩ = some x ∧ w'.cell? ⟨bb, ob + i, none⟩ = some y)
                (first | exact ⟨hcx, hcy⟩ | exact ⟨(hbc.cell (p := ⟨ba, oa + i, none⟩) hla1).trans hcx, (hbc.cell (p := ⟨bb, ob + i, none⟩) hlb1).trans hcy⟩)
                (first | (go_at_call 36; refine C.out.mono ?_; rintro e w1 ⟨rfl, hbc⟩))
              have hbq := HBW.out.trans (hbc.mono HBW.out.size)
              clear hbc
              go_wp2
              go_roundw
              case rel => exact ⟨i + 1, by omega, by go_num, HN.out, hbq⟩
              case measure => simp [intOf]; omega
            · have hne : decide (xs = ys) = false := by
                rw [decide_eq_false_iff_not]; intro h
                have a := HX.out
                rw [h, HY.out] at a
                exact hxy (Option.some.inj a).symm
              have HN := Hid.mk hne
              clear hne
              rw [decide_eq_false hxy] at C
              go_wp2
              go_region_held (fun w' => w'.cell? ⟨ba, oa + i, none⟩ = some x ∧ w'.cell? ⟨bb, ob + i, none⟩ = some y)
                (first | exact ⟨hcx, hcy⟩ | exact ⟨(hbc.cell (p := ⟨ba, oa + i, none⟩) hla1).trans hcx, (hbc.cell (p := ⟨bb, ob + i, none⟩) hlb1).trans hcy⟩)
                (first | (go_at_call 36; refine C.out.mono ?_; rintro e w1 ⟨rfl, hbc⟩))
              have hbq := HBW.out.trans (hbc.mono HBW.out.size)
              clear hbc
              go_wp2
              go_ret
              exact ⟨by rw [HN.out]; rfl, hbq⟩
      · have heq : decide (xs = ys) = true := by
          rw [decide_eq_true_iff]
          have := HT.out
          rw [List.take_of_length_le (by omega), List.take_of_length_le (by rw [← HL.out]; omega)] at this
          exact this
        have HN := Hid.mk heq
        clear heq
        go_wp2
        go_ret
        exact ⟨by rw [HN.out]; rfl, hbw⟩
  · have hne : decide (xs = ys) = false := by
      rw [decide_eq_false_iff_not]; intro h; exact hl (by rw [h])
    have HN := Hid.mk hne
    have hl2 : ((xs.length : Int) != (ys.length : Int)) = true := by rw [bne_iff_ne]; omega
    clear hne
    go_enter Try.func37, Try.ntmps37
    go_wp2
    go_ret
    exact ⟨by rw [HN.out]; rfl, Below.refl _ _⟩
end Go.Proofs.Ytnepednomejniaa
