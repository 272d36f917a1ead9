/- Whether two notes are the same, as the document's own definition tells. -/
import Derived.Test.YtnepednomejniaaWSame
namespace Go.Proofs.Ytnepednomejniaa
open Go.RowKit

theorem two_blocks (w : World) (o0 o1 : Obj) : ((w.alloc o0).alloc o1).heap[w.heap.size]? = some o0 ∧ ((w.alloc o0).alloc o1).heap[w.heap.size + 1]? = some o1 ∧ Below w.heap.size w ((w.alloc o0).alloc o1) := by
  have s1 : (w.alloc o0).heap.size = w.heap.size + 1 := by simp
  have g0 := box_at w o0
  have g1 := box_at (w.alloc o0) o1
  rw [s1] at g1
  exact ⟨(Below.heap_alloc _ o1 _ (lt_of_block g0)).trans g0, g1, ((Below.refl _ _).alloc (Nat.le_refl _) _).alloc (by omega) _⟩

theorem note_ext {a b : NoteD} (h1 : a.kind = b.kind) (h2 : a.nums = b.nums) (h3 : a.texts = b.texts) (h4 : a.rows = b.rows) : a = b := by
  cases a; cases b; simp only at h1 h2 h3 h4; subst h1 h2 h3 h4; rfl

theorem IntsAt.parts {w : World} {v : Value} {ns : List Int} (h : IntsAt w v ns) :
    ns.length ≤ 9223372036854775807 ∧ ∃ ao cap, v = .slice ao ns.length cap ∧ (ns = [] ∨ ∃ b o, ao = some ⟨b, o, none⟩ ∧ b < w.heap.size ∧ ∀ (j : Nat) x, ns[j]? = some x → w.cell? ⟨b, o + j, none⟩ = some (.int .i64 x)) := by
  obtain ⟨h1, ao, cap, rfl, h2⟩ := h
  rw [intCs_len] at h1
  refine ⟨h1, ao, cap, by rw [intCs_len], ?_⟩
  rcases h2 with h2 | ⟨b, o, e1, e2, e3⟩
  · left
    have := intCs_len ns
    rw [h2] at this
    exact List.length_eq_zero_iff.1 this.symm
  · exact .inr ⟨b, o, e1, e2, fun j x hx => e3 j _ (by rw [intCs, List.getElem?_map, hx]; rfl)⟩

set_option maxHeartbeats 2000000 in
set_option maxRecDepth 100000 in
theorem sameN_any (va vb : Value) (x y : NoteD) (w : World) (ha : NoteAt w va x) (hb : NoteAt w vb y) :
    Calls Try.prog 28 #[va, vb] w fun e w' => e = .returned (.bool (decide (x = y))) ∧ Below w.heap.size w w' := by
  obtain ⟨vn, vt, vr, rfl, hn, ht, hr⟩ := ha
  obtain ⟨un, ut, ur, rfl, gn, gt, gr⟩ := hb
  obtain ⟨la, aa, ca, rfl, ha⟩ := hn.parts
  obtain ⟨lb, ab, cb, rfl, hb⟩ := gn.parts
  clear hn gn
  obtain ⟨t0, t1, t2⟩ := two_blocks w (.cells #[.int .i64 x.kind, (.slice aa x.nums.length ca), vt, vr] 37) (.cells #[.int .i64 y.kind, (.slice ab y.nums.length cb), ut, ur] 37)
  obtain ⟨W0, hW0⟩ : ∃ W0, W0 = (w.alloc (.cells #[.int .i64 x.kind, (.slice aa x.nums.length ca), vt, vr] 37)).alloc (.cells #[.int .i64 y.kind, (.slice ab y.nums.length cb), ut, ur] 37) := ⟨_, rfl⟩
  rw [← hW0] at t0 t1 t2
  have T0 := Hid.mk t0
  have T1 := Hid.mk t1
  have T2 := Hid.mk t2
  have HW0 := Hid.mk hW0
  have hz : Hid (W0.heap.size = w.heap.size + 2) := Hid.mk (by rw [hW0]; simp)
  clear t0 t1 t2 hW0
  have CELLS : Hid (∀ wr, Below W0.heap.size W0 wr → (wr.cell? ⟨w.heap.size, 1, none⟩ = some (.slice aa x.nums.length ca) ∧ wr.cell? ⟨w.heap.size, 2, none⟩ = some vt ∧ wr.cell? ⟨w.heap.size, 3, none⟩ = some vr) ∧ (wr.cell? ⟨w.heap.size + 1, 1, none⟩ = some (.slice ab y.nums.length cb) ∧ wr.cell? ⟨w.heap.size + 1, 2, none⟩ = some ut ∧ wr.cell? ⟨w.heap.size + 1, 3, none⟩ = some ur) ∧ Below w.heap.size w wr) := Hid.mk (fun wr h => by
    have e0 := (h.block _ (lt_of_block T0.out)).trans T0.out
    have e1 := (h.block _ (lt_of_block T1.out)).trans T1.out
    exact ⟨(four_cells e0).1.2, (four_cells e1).1.2, T2.out.trans (h.mono (by have := hz.out; omega))⟩)
  by_cases hk : x.kind = y.kind
  · have HKE := Hid.mk hk
    by_cases hl : x.nums.length = y.nums.length
    · have HL := Hid.mk hl
      have HA := Hid.mk ha
      have HB := Hid.mk hb
      have hkI : (x.kind != y.kind) = false := by rw [hk]; simp
      have hl2 : ((x.nums.length : Int) != (y.nums.length : Int)) = false := by rw [hl]; simp
      have hlI : (x.nums.length : Int) = (y.nums.length : Int) := by omega
      have HLI := Hid.mk hlI
      clear ha hb hk hl hlI
      go_enter Try.func28, Try.ntmps28
      go_wp2
      go_loopw [5] (fun c wr => ∃ i : Nat, i ≤ x.nums.length ∧ c = .int .i64 i ∧ x.nums.take i = y.nums.take i ∧ Below W0.heap.size W0 wr) (fun c _ => x.nums.length - (intOf c).toNat)
      case atStart => exact ⟨0, Nat.zero_le _, rfl, rfl, by rw [HW0.out]; exact Below.refl _ _⟩
      case round =>
        obtain ⟨i, hi, rfl, htk, hbw⟩ := hrel
        have HT := Hid.mk htk
        clear htk
        obtain ⟨⟨g1, g2, g3⟩, ⟨k1, k2, k3⟩, hbb⟩ := CELLS.out _ hbw
        by_cases hlt : i < x.nums.length
        · obtain ⟨p, hx⟩ : ∃ p, x.nums[i]? = some p := ⟨_, List.getElem?_eq_getElem hlt⟩
          obtain ⟨q, hy⟩ : ∃ q, y.nums[i]? = some q := ⟨_, List.getElem?_eq_getElem (by rw [← HL.out]; exact hlt)⟩
          rcases HA.out with hnil | ⟨ba, oa, rfl, ha1, ha2⟩
          · rw [hnil] at hx; simp at hx
          · rcases HB.out with hnil | ⟨bb, ob, rfl, hb1, hb2⟩
            · rw [hnil] at hy; simp at hy
            · have hcx := (hbb.cell (p := ⟨ba, oa + i, none⟩) ha1).trans (ha2 i p hx)
              have hcy := (hbb.cell (p := ⟨bb, ob + i, none⟩) hb1).trans (hb2 i q hy)
              have HX := Hid.mk hx
              have HY := Hid.mk hy
              have hltI : (i : Int) < (x.nums.length : Int) := by omega
              have hltJ : (i : Int) < (y.nums.length : Int) := by have := HLI.out; omega
              clear hx hy ha2 hb2 hbb
              by_cases hpq : p = q
              · subst hpq
                have hnx : x.nums.take (i + 1) = y.nums.take (i + 1) := by
                  rw [List.take_add_one, List.take_add_one, HT.out, HX.out, HY.out]
                have HN := Hid.mk hnx
                clear hnx
                go_wp2
                go_quiet (fail)
                have hbq := below_drewN hbw nq
                go_wp2
                go_roundw
                case rel => exact ⟨i + 1, by omega, by go_num, HN.out, hbq⟩
                case measure => simp [intOf]; omega
              · have hpq2 : (p != q) = true := by rw [bne_iff_ne]; exact hpq
                have hne : decide (x = y) = false := by
                  rw [decide_eq_false_iff_not]; intro h
                  have a := HX.out
                  rw [h, HY.out] at a
                  exact hpq (Option.some.inj a).symm
                have HN := Hid.mk hne
                clear hne
                go_wp2
                go_quiet (fail)
                have hbq := below_drewN hbw nq
                go_wp2
                go_ret
                exact ⟨by rw [HN.out]; rfl, (CELLS.out _ hbq).2.2⟩
        · have hnums : x.nums = y.nums := by
            have := HT.out
            rw [List.take_of_length_le (by omega), List.take_of_length_le (by rw [← HL.out]; omega)] at this
            exact this
          have HNU := Hid.mk hnums
          have hT1 := Hid.mk (ht.below hbb)
          have hT2 := Hid.mk (gt.below hbb)
          clear hnums
          obtain ⟨W1, hW1⟩ : ∃ W, W = wr := ⟨_, rfl⟩
          subst hW1
          by_cases htx : x.texts = y.texts
          · have HTX := Hid.mk htx
            have C := Hid.mk (same_any vt ut x.texts y.texts W1 hT1.out hT2.out)
            rw [decide_eq_true htx] at C
            clear htx
            go_wp2_with fail
            refine C.out.mono ?_
            rintro e w2 ⟨rfl, hb2⟩
            have hbw2 := keepB hbw hb2 (Nat.le_refl _)
            clear g1 g2 g3 k1 k2 k3 hb2
            obtain ⟨⟨g1, g2, g3⟩, ⟨k1, k2, k3⟩, hbb2⟩ := CELLS.out _ hbw2
            have hR1 := Hid.mk (hr.below hbb2)
            have hR2 := Hid.mk (gr.below hbb2)
            have C2 := Hid.mk (sameRows_any vr ur x.rows y.rows w2 hR1.out hR2.out)
            have HV : Hid (decide (x.rows = y.rows) = decide (x = y)) := Hid.mk (by
              rw [Bool.eq_iff_iff, decide_eq_true_iff, decide_eq_true_iff]
              exact ⟨fun h => note_ext HKE.out HNU.out HTX.out h, fun h => by rw [h]⟩)
            rw [HV.out] at C2
            obtain ⟨B, hB⟩ : ∃ B, B = decide (x = y) := ⟨_, rfl⟩
            rw [← hB] at C2
            have HB2 := Hid.mk hB
            clear hB HV
            go_wp2_with fail
            refine C2.out.mono ?_
            rintro e w3 ⟨rfl, hb3⟩
            have hbw3 := keepB hbw2 hb3 (Nat.le_refl _)
            clear g1 g2 g3 k1 k2 k3 hb3
            go_wp2
            go_ret
            exact ⟨by rw [← HB2.out]; rfl, (CELLS.out _ hbw3).2.2⟩
          · have hne : decide (x = y) = false := by
              rw [decide_eq_false_iff_not]; intro h; exact htx (by rw [h])
            have HN := Hid.mk hne
            have C := Hid.mk (same_any vt ut x.texts y.texts W1 hT1.out hT2.out)
            rw [decide_eq_false htx] at C
            clear htx hne
            go_wp2_with fail
            refine C.out.mono ?_
            rintro e w2 ⟨rfl, hb2⟩
            have hbw2 := keepB hbw hb2 (Nat.le_refl _)
            clear g1 g2 g3 k1 k2 k3 hb2
            go_wp2
            go_ret
            exact ⟨by rw [HN.out]; rfl, (CELLS.out _ hbw2).2.2⟩
    · have hne : decide (x = y) = false := by
        rw [decide_eq_false_iff_not]; intro h; exact hl (by rw [h])
      have HN := Hid.mk hne
      have hl2 : ((x.nums.length : Int) != (y.nums.length : Int)) = true := by rw [bne_iff_ne]; omega
      have hkI : (x.kind != y.kind) = false := by rw [hk]; simp
      have HE := Hid.mk (CELLS.out _ (Below.refl _ _)).2.2
      rw [HW0.out] at HE
      clear hne hk ha hb hl
      go_enter Try.func28, Try.ntmps28
      go_wp2
      go_ret
      exact ⟨by rw [HN.out]; rfl, HE.out⟩
  · have hne : decide (x = y) = false := by
      rw [decide_eq_false_iff_not]; intro h; exact hk (by rw [h])
    have HN := Hid.mk hne
    have hkI : (x.kind != y.kind) = true := by rw [bne_iff_ne]; exact hk
    have HE := Hid.mk (CELLS.out _ (Below.refl _ _)).2.2
    rw [HW0.out] at HE
    clear hne
    go_enter Try.func28, Try.ntmps28
    go_wp2
    go_ret
    exact ⟨by rw [HN.out]; rfl, HE.out⟩
end Go.Proofs.Ytnepednomejniaa
