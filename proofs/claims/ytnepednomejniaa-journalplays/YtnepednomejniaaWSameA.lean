/- Whether lists of notes are the same, as the document's own definition tells. -/
import Derived.Test.YtnepednomejniaaWTwice
namespace Go.Proofs.Ytnepednomejniaa
open Go.RowKit

set_option maxHeartbeats 1000000 in
set_option maxRecDepth 100000 in
theorem sameAll_any (va vb : Value) (xs ys : List NoteD) (w : World) (ha : NotesAt w va xs) (hb : NotesAt w vb ys) :
    Calls Try.prog 15 #[va, vb] w fun e w' => e = .returned (.bool (decide (xs = ys))) ∧ Below w.heap.size w w' := by
  obtain ⟨la, aa, ca, rfl, ha⟩ := ha
  obtain ⟨lb, ab, cb, rfl, hb⟩ := hb
  by_cases hl : xs.length = ys.length
  · have HA := Hid.mk ha
    have HB := Hid.mk hb
    have HL := Hid.mk hl
    rw [← hl]
    clear ha hb hl
    go_enter Try.func15, Try.ntmps15
    go_wp2
    go_loopw [5] (fun c wr => ∃ i : Nat, i ≤ xs.length ∧ c = .int .i64 i ∧ xs.take i = ys.take i ∧ Below w.heap.size w wr) (fun c _ => xs.length - (intOf c).toNat)
    case atStart => exact ⟨0, Nat.zero_le _, rfl, rfl, Below.refl _ _⟩
    case round =>
      obtain ⟨i, hi, rfl, htk, hbw⟩ := hrel
      have HT := Hid.mk htk
      clear htk
      by_cases hlt : i < xs.length
      · obtain ⟨x, hx⟩ : ∃ x, xs[i]? = some x := ⟨_, List.getElem?_eq_getElem hlt⟩
        obtain ⟨y, hy⟩ : ∃ y, ys[i]? = some y := ⟨_, List.getElem?_eq_getElem (by rw [← HL.out]; exact hlt)⟩
        rcases HA.out with hnil | ⟨ba, oa, rfl, ha1, ha2⟩
        · rw [hnil] at hx; simp at hx
        · rcases HB.out with hnil | ⟨bb, ob, rfl, hb1, hb2⟩
          · rw [hnil] at hy; simp at hy
          · obtain ⟨c1, c2, c3, p0, p1, p2, p3, pn⟩ := ha2 i x hx
            obtain ⟨d1, d2, d3, q0, q1, q2, q3, qn⟩ := hb2 i y hy
            have keyA : ∀ j u, w.cell? ⟨ba, j, none⟩ = some u → wr.cell? ⟨ba, j, none⟩ = some u := fun j u h => (hbw.cell (p := ⟨ba, j, none⟩) ha1).trans h
            have keyB : ∀ j u, w.cell? ⟨bb, j, none⟩ = some u → wr.cell? ⟨bb, j, none⟩ = some u := fun j u h => (hbw.cell (p := ⟨bb, j, none⟩) hb1).trans h
            have r0 := keyA _ _ p0
            have r1 := keyA _ _ p1
            have r2 := keyA _ _ p2
            have r3 := keyA _ _ p3
            have t0 := keyB _ _ q0
            have t1 := keyB _ _ q1
            have t2 := keyB _ _ q2
            have t3 := keyB _ _ q3
            have hla1 : ba < wr.heap.size := Nat.lt_of_lt_of_le ha1 hbw.size
            have hlb1 : bb < wr.heap.size := Nat.lt_of_lt_of_le hb1 hbw.size
            have C := Hid.mk (sameN_any _ _ x y wr.drew ((pn.below hbw).below (Below.refl _ _).drew) ((qn.below hbw).below (Below.refl _ _).drew))
            have HX := Hid.mk hx
            have HY := Hid.mk hy
            have HBW := Hid.mk hbw.drew
            have hltI : (i : Int) < (xs.length : Int) := by omega
            have h0I : (0 : Int) ≤ (i : Int) := by omega
            have KEEP : Hid (∀ w1, Below wr.drew.heap.size wr.drew w1 → (w1.cell? ⟨ba, oa + i * 4, none⟩ = some (.int .i64 x.kind) ∧ w1.cell? ⟨ba, oa + i * 4 + 1, none⟩ = some c1 ∧ w1.cell? ⟨ba, oa + i * 4 + 2, none⟩ = some c2 ∧ w1.cell? ⟨ba, oa + i * 4 + 3, none⟩ = some c3 ∧
                w1.cell? ⟨bb, ob + i * 4, none⟩ = some (.int .i64 y.kind) ∧ w1.cell? ⟨bb, ob + i * 4 + 1, none⟩ = some d1 ∧ w1.cell? ⟨bb, ob + i * 4 + 2, none⟩ = some d2 ∧ w1.cell? ⟨bb, ob + i * 4 + 3, none⟩ = some d3)) := Hid.mk (fun w1 h => by
              have kA : ∀ j u, wr.cell? ⟨ba, j, none⟩ = some u → w1.cell? ⟨ba, j, none⟩ = some u := fun j u h2 => (h.cell (p := ⟨ba, j, none⟩) hla1).trans h2
              have kB : ∀ j u, wr.cell? ⟨bb, j, none⟩ = some u → w1.cell? ⟨bb, j, none⟩ = some u := fun j u h2 => (h.cell (p := ⟨bb, j, none⟩) hlb1).trans h2
              exact ⟨kA _ _ r0, kA _ _ r1, kA _ _ r2, kA _ _ r3, kB _ _ t0, kB _ _ t1, kB _ _ t2, kB _ _ t3⟩)
            clear keyA keyB p0 p1 p2 p3 q0 q1 q2 q3 pn qn hx hy ha2 hb2 hbw ha1 hb1
            by_cases hxy : x = y
            · have hnx : xs.take (i + 1) = ys.take (i + 1) := by
                rw [List.take_add_one, List.take_add_one, HT.out, HX.out, HY.out, hxy]
              have HN := Hid.mk hnx
              rw [decide_eq_true hxy] at C
              clear hnx hxy
              go_wp2
              go_region_held (fun w1 => w1.cell? ⟨ba, oa + i * 4, none⟩ = some (.int .i64 x.kind) ∧ w1.cell? ⟨ba, oa + i * 4 + 1, none⟩ = some c1 ∧ w1.cell? ⟨ba, oa + i * 4 + 2, none⟩ = some c2 ∧ w1.cell? ⟨ba, oa + i * 4 + 3, none⟩ = some c3 ∧
                w1.cell? ⟨bb, ob + i * 4, none⟩ = some (.int .i64 y.kind) ∧ w1.cell? ⟨bb, ob + i * 4 + 1, none⟩ = some d1 ∧ w1.cell? ⟨bb, ob + i * 4 + 2, none⟩ = some d2 ∧ w1.cell? ⟨bb, ob + i * 4 + 3, none⟩ = some d3)
                (first | exact KEEP.out _ (Below.refl _ _) | exact KEEP.out _ hbc)
                (first | (go_at_call 28; refine C.out.mono ?_; rintro e w1 ⟨rfl, hbc⟩))
              have hbq := HBW.out.trans (hbc.mono HBW.out.size)
              clear hbc
              go_wp2
              go_roundw
              case rel => exact ⟨i + 1, by omega, by go_num, HN.out, hbq⟩
              case measure => simp [intOf]; omega
            · have hne : decide (xs = ys) = false := by
                rw [decide_eq_false_iff_not]; intro h
                have a := HX.out
                rw [h, HY.out] at a
                exact hxy (Option.some.inj a).symm
              have HN := Hid.mk hne
              rw [decide_eq_false hxy] at C
              clear hne hxy
              go_wp2
              go_region_held (fun w1 => w1.cell? ⟨ba, oa + i * 4, none⟩ = some (.int .i64 x.kind) ∧ w1.cell? ⟨ba, oa + i * 4 + 1, none⟩ = some c1 ∧ w1.cell? ⟨ba, oa + i * 4 + 2, none⟩ = some c2 ∧ w1.cell? ⟨ba, oa + i * 4 + 3, none⟩ = some c3 ∧
                w1.cell? ⟨bb, ob + i * 4, none⟩ = some (.int .i64 y.kind) ∧ w1.cell? ⟨bb, ob + i * 4 + 1, none⟩ = some d1 ∧ w1.cell? ⟨bb, ob + i * 4 + 2, none⟩ = some d2 ∧ w1.cell? ⟨bb, ob + i * 4 + 3, none⟩ = some d3)
                (first | exact KEEP.out _ (Below.refl _ _) | exact KEEP.out _ hbc)
                (first | (go_at_call 28; refine C.out.mono ?_; rintro e w1 ⟨rfl, hbc⟩))
              have hbq := HBW.out.trans (hbc.mono HBW.out.size)
              clear hbc
              go_wp2
              go_ret
              exact ⟨by rw [HN.out]; rfl, hbq⟩
      · have heq : decide (xs = ys) = true := by
          rw [decide_eq_true_iff]
          have := HT.out
          rw [List.take_of_length_le (by omega), List.take_of_length_le (by rw [← HL.out]; omega)] at this
          exact this
        have HN := Hid.mk heq
        clear heq
        go_wp2
        go_ret
        exact ⟨by rw [HN.out]; rfl, hbw⟩
  · have hne : decide (xs = ys) = false := by
      rw [decide_eq_false_iff_not]; intro h; exact hl (by rw [h])
    have HN := Hid.mk hne
    have hl2 : ((xs.length : Int) != (ys.length : Int)) = true := by rw [bne_iff_ne]; omega
    clear hne
    go_enter Try.func15, Try.ntmps15
    go_wp2
    go_ret
    exact ⟨by rw [HN.out]; rfl, Below.refl _ _⟩
end Go.Proofs.Ytnepednomejniaa
