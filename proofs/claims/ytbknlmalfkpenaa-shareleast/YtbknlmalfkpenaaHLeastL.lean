/- No other shares have less load. -/
import Derived.Test.YtbknlmalfkpenaaHMoreL
import Derived.Test.YtbknlmalfkpenaaHRMay
namespace Go.Proofs.Ytbknlmalfkpenaa
open Go.RowKit

theorem set_row {w : World} {B g k cap : Nat} {L : List Int} {j : Nat} {z : Int} (h : w.ownsRow B 3 1 (.slice (some ⟨g, 0, none⟩) k cap) k (L.flatMap csZ)) (_ : j < k) : (w.setCell ⟨g, j, none⟩ (.int .i64 z)).ownsRow B 3 1 (.slice (some ⟨g, 0, none⟩) k cap) k ((L.set j z).flatMap csZ) := by
  obtain ⟨hl, h2⟩ := h
  refine ⟨by rw [flat_Z] at hl ⊢; simpa using hl, ?_⟩
  rcases h2 with ⟨h0, _⟩ | ⟨g', cap', cur, hv, hb, hg, hnc, hcm, hcs, htk⟩
  · cases h0
  · injection hv with e1 e2 e3
    injection e1 with e1
    injection e1 with e1
    subst e1 e3
    refine .inr ⟨g, cap, cur.setIfInBounds j (.int .i64 z), rfl, hb, ?_, hnc, hcm, by simpa using hcs, ?_⟩
    · simp [World.setCell, Array.getElem?_modify, hg]
    · rw [flat_Z] at htk ⊢
      rw [List.map_set, ← htk, Array.toList_setIfInBounds, List.take_set]
theorem own_thaw {w : World} {B g k cap : Nat} {L : List Int} {j : Nat} (h : w.ownsRow B 3 1 (.slice (some ⟨g, 0, none⟩) k cap) k (L.flatMap csZ)) (_ : j < k) : w.frozen? ⟨g, j, none⟩ = false := by
  rcases h.2 with ⟨h0, _⟩ | ⟨g', cap', cur, hv, _, hg, _⟩
  · cases h0
  · injection hv with e1 e2 e3
    injection e1 with e1
    injection e1 with e1
    subst e1
    simp [World.frozen?, hg]
set_option maxHeartbeats 16000000 in
set_option maxRecDepth 100000 in
theorem shareLeast_walk (r : Int × Int) (v2 : Value) (G : List Vz) (v3 : Value) (zs : List Int) (w : World) (_ : (Lit.int .i64 r.1).wf = true ∧ (Lit.int .i64 r.2).wf = true) (h2 : AtmS (fun _ => True) w v2 G) (_ : G.length ≤ 9223372036854775807) (h3 : IntZ (fun _ => True) w v3 zs) (_ : zs.length ≤ 9223372036854775807 ∧ CapS v3 zs.length) :
    Calls Try.prog 4 #[.agg #[.int .i64 r.1, .int .i64 r.2], v2, v3] w fun e w' => e = .returned (.bool true) ∧ Below w.heap.size w w' := by
  obtain ⟨i0, hi0, hz0, hz1, hz2⟩ := info_parts infoZ
  obtain ⟨z1, z2⟩ := r
  simp only
  obtain ⟨W0, hW0⟩ : ∃ W, W = w.alloc (.cells #[.int .i64 z1, .int .i64 z2] 22) := ⟨_, rfl⟩
  have hb0 : Below w.heap.size w W0 := by rw [hW0]; exact (Below.refl _ _).alloc (Nat.le_refl _) _
  have hbx : VRow W0 w.heap.size 22 [.int .i64 z1, .int .i64 z2] := by rw [hW0]; exact heap_alloc_new _ _
  have HBX : Hid (∀ W, Below W0.heap.size W0 W → W.cell? ⟨w.heap.size, 0, none⟩ = some (.int .i64 z1) ∧ W.cell? ⟨w.heap.size, 1, none⟩ = some (.int .i64 z2)) := Hid.mk (fun W hW => ⟨((hbx.below hW).cell (i := 0) rfl).1, ((hbx.below hW).cell (i := 1) rfl).1⟩)
  have h2' := h2.below hb0
  have h3' := h3.below hb0
  have HAW : Hid (∀ W, Below W0.heap.size W0 W → Calls Try.prog 10 #[] W fun e w' => e = .returned (.bool true) ∧ Below w.heap.size w w') := Hid.mk (fun W hW => (awake_any W).mono (fun e w' h => ⟨h.1, hb0.trans ((hW.trans (h.2.mono hW.size)).mono hb0.size)⟩))
  have HLI := Hid.mk (light_any h2')
  have HSH : Hid (∀ W, Below W0.heap.size W0 W → Calls Try.prog 11 #[.int .i64 z1, .int .i64 z2, v2, v3] W (ShaE z1 z2 G zs W)) := Hid.mk (fun W hW => shares_any (h2'.below hW) (h3'.below hW) z1 z2)
  have HLO0 : Hid (∀ W (T : Nat → Prop) (v : Value) (L : List Int), Below W0.heap.size W0 W → IntZ T W v L → okL L = true → FitA L.length (zipA G zs) → zs.length = G.length → zs.length ≤ 12 → Calls Try.prog 16 #[v, v2, v3] W fun e w' => e = .returned (.int .i64 (loadP L (onceA (zipA G zs)))) ∧ Below W.heap.size W w') := Hid.mk (fun W T v L hW hv hL hA a b => rLoad_any hv (h2'.below hW) (h3'.below hW) hL hA a b)
  obtain ⟨a2, c2, rfl⟩ := h2.sl.slice
  obtain ⟨a3, c3, rfl⟩ := h3.slice
  obtain ⟨n2, hn2⟩ : ∃ n, n = G.length := ⟨_, rfl⟩
  obtain ⟨n3, hn3⟩ : ∃ n, n = zs.length := ⟨_, rfl⟩
  rw [← hn2] at HLI HSH HLO0 ⊢
  rw [← hn3] at HSH HLO0 ⊢
  have HN2 := Hid.mk hn2
  have HN3 := Hid.mk hn3
  clear h2 h3 h2' h3' hbx hb0 hn2 hn3
  go_enter Try.func4, Try.ntmps4
  go_wp2_with fail
  rw [← hW0]
  refine HLI.out.mono ?_
  rintro e w1 ⟨⟨lb, rfl⟩, hb1⟩
  have HB1 := Hid.mk hb1
  clear hb1 hW0
  obtain ⟨qb1, qb2⟩ := HBX.out w1 HB1.out
  cases lb with
  | false =>
    go_wp2_with fail
    refine (HAW.out w1 HB1.out).mono ?_
    rintro e w2 ⟨rfl, hb2⟩
    have HB2 := Hid.mk hb2
    clear hb2
    go_wp2
    go_ret
    exact ⟨rfl, HB2.out⟩
  | true =>
    by_cases h4 : 4 < z2
    · go_wp2_with fail
      refine (HAW.out w1 HB1.out).mono ?_
      rintro e w2 ⟨rfl, hb2⟩
      have HB2 := Hid.mk hb2
      clear hb2
      go_wp2
      go_ret
      exact ⟨rfl, HB2.out⟩
    go_wp2_with fail
    refine (HSH.out w1 HB1.out).mono ?_
    rintro e w2 ⟨hb2, hE⟩
    have HB2 := Hid.mk (HB1.out.trans (hb2.mono HB1.out.size))
    clear hb2 qb1 qb2
    rcases hE with ⟨hask, xv, rfl, hx⟩ | ⟨_, rfl⟩
    case inr =>
      go_wp2_with fail
      refine (HAW.out w2 HB2.out).mono ?_
      rintro e w3 ⟨rfl, hb3⟩
      have HB3 := Hid.mk hb3
      clear hb3
      go_wp2
      go_ret
      exact ⟨rfl, HB3.out⟩
    obtain ⟨⟨hm1, hm2⟩, ⟨hk1, hk2⟩, hq1, hq2, hq3⟩ := hask
    obtain ⟨m, rfl⟩ : ∃ m : Nat, z1 = (m : Int) := ⟨z1.toNat, by omega⟩
    obtain ⟨k, rfl⟩ : ∃ k : Nat, z2 = (k : Int) := ⟨z2.toNat, by omega⟩
    rw [Int.toNat_natCast] at hq3
    rw [Int.toNat_natCast, Int.toNat_natCast] at hx
    obtain ⟨sx1, sx2⟩ := sha_spec (a := m) (k := k) (by omega) (by omega) (by omega) hq3
    obtain ⟨ox1, ox2⟩ := allI_ok (by omega) (by omega) sx1
    have hprod : prodI (shaM m k (zipA G zs)) ≤ (m : Int) := by
      obtain ⟨e1, _, e3⟩ := (mem_allI _ _ _).1 sx1
      rcases e3 with e3 | e3
      · rw [List.length_eq_zero_iff.1 (e1.trans e3)]
        simp [prodI]; omega
      · exact e3
    obtain ⟨X, hX⟩ : ∃ X, X = shaM m k (zipA G zs) := ⟨_, rfl⟩
    rw [← hX] at hx sx2 ox1 ox2 hprod
    obtain ⟨xa, xc, hxv⟩ := hx.slice
    rw [ox2] at hxv
    subst hxv
    have HX2 := Hid.mk hx
    have HOX := Hid.mk ox1
    have HKX : Hid (k = X.length) := Hid.mk ox2.symm
    have HSP : Hid (∀ l ∈ allI k m, loadP X (onceA (zipA G zs)) ≤ loadP l (onceA (zipA G zs))) := Hid.mk sx2
    have HLO : Hid (∀ W (T : Nat → Prop) (v : Value) (L : List Int), Below W0.heap.size W0 W → IntZ T W v L → okL L = true → L.length = k → Calls Try.prog 16 #[v, .slice a2 n2 c2, .slice a3 n3 c3] W fun e w' => e = .returned (.int .i64 (loadP L (onceA (zipA G zs)))) ∧ Below W.heap.size W w') := Hid.mk (fun W T v L hW hv hL hl => HLO0.out W T v L hW hv hL (by rw [hl]; exact hq3) (by rw [HN2.out, HN3.out]; exact hq1) (by rw [HN3.out]; exact hq2))
    have HMY := Hid.mk (rMay_any hx (by omega))
    have HCX := Hid.mk (cells_any hx (by omega))
    rw [ox1] at HMY
    rw [show cellE X = .tuple #[.int .i64 (prodI X), .int .i64 0] from if_pos ox1] at HCX
    have hpx1 := prodI_pos (okL_iff.1 ox1).2.1
    obtain ⟨PX, hPX⟩ : ∃ P, P = prodI X := ⟨_, rfl⟩
    rw [← hPX] at HCX hpx1 hprod
    have HLX := Hid.mk (HLO.out w2 _ _ X HB2.out hx ox1 ox2)
    have HEL : Hid (∀ (i : Nat) x, X[i]? = some x → 1 ≤ x ∧ x ≤ 64) := Hid.mk (fun i x h => okL_mem ox1 (List.mem_of_getElem? h))
    obtain ⟨fX, hfX⟩ : ∃ f, f = loadP X (onceA (zipA G zs)) := ⟨_, rfl⟩
    rw [← hfX] at HLX
    have HFX := Hid.mk hfX
    obtain ⟨q1, q2⟩ := HBX.out w2 HB2.out
    have hk4 : k ≤ 4 := by omega
    clear hX hx sx1 sx2 ox1 ox2 hq1 hq2 hq3 hPX hfX HLO0 HSH HLI
    go_wp2_with fail
    refine HMY.out.mono ?_
    rintro e ww ⟨rfl, h⟩
    rw [h]
    clear h
    go_wp2_with fail
    refine HCX.out.mono ?_
    rintro e ww ⟨rfl, h⟩
    rw [h]
    clear h
    go_wp2_with fail
    refine HLX.out.mono ?_
    rintro e w5 ⟨rfl, hb5⟩
    have HB5 := Hid.mk (HB2.out.trans (hb5.mono HB2.out.size))
    have HX5 := Hid.mk (HX2.out.below hb5)
    have HW5 : Hid (∀ W, Below w5.heap.size w5 W → Below W0.heap.size W0 W) := Hid.mk (fun W hW => HB5.out.trans (hW.mono HB5.out.size))
    clear hb5 q1 q2 HMY HCX HLX
    go_wp2_with fail
    go_loopw [12] (fun c wr => ∃ i : Nat, i ≤ k ∧ c = .int .i64 i ∧ Below w5.heap.size w5 wr) (fun c _ => k - (intOf c).toNat)
    case atStart => exact ⟨0, Nat.zero_le _, rfl, Below.refl _ _⟩
    case round =>
      obtain ⟨i, hi, rfl, hbi⟩ := hrel
      obtain ⟨wx, hwx⟩ : ∃ wx, wx = wr := ⟨_, rfl⟩
      subst hwx
      have HBI := Hid.mk hbi
      clear hbi
      by_cases hik : i < k
      · have hikI : (i : Int) < (k : Int) := by omega
        go_wp2_with fail
        go_loopw [13] (fun c wr => ∃ j : Nat, j ≤ k ∧ c = .int .i64 j ∧ Below w5.heap.size w5 wr) (fun c _ => k - (intOf c).toNat)
        case atStart => exact ⟨0, Nat.zero_le _, rfl, HBI.out⟩
        case round =>
          obtain ⟨j, hj, rfl, hbj⟩ := hrel
          obtain ⟨wy, hwy⟩ : ∃ wy, wy = wr := ⟨_, rfl⟩
          subst hwy
          have HBJ := Hid.mk hbj
          have hsy : w5.heap.size ≤ wy.heap.size := hbj.size
          clear hbj
          by_cases hjk : j < k
          · have hjkI : (j : Int) < (k : Int) := by omega
            obtain ⟨xi, hxi⟩ : ∃ x, X[i]? = some x := ⟨_, List.getElem?_eq_getElem (by rw [← HKX.out]; exact hik)⟩
            obtain ⟨xj, hxj⟩ : ∃ x, X[j]? = some x := ⟨_, List.getElem?_eq_getElem (by rw [← HKX.out]; exact hjk)⟩
            obtain ⟨xi1, xi2⟩ := HEL.out i xi hxi
            obtain ⟨xj1, xj2⟩ := HEL.out j xj hxj
            obtain ⟨gx, ox, exa, _, _, _⟩ := (HX5.out.below HBJ.out).get hxi
            have HNEW : Hid (∀ j' u, (X.flatMap csZ)[j']? = some u → wy.cell? ((⟨gx, ox, none⟩ : Addr).add j') = some u) := Hid.mk (fun j' u hu => by
              rw [flat_Z, List.getElem?_map] at hu
              cases hL : X[j']? with
              | none => rw [hL] at hu; cases hu
              | some x =>
                rw [hL] at hu
                obtain ⟨g', o', e', _, _, d'⟩ := (HX5.out.below HBJ.out).get hL
                rw [exa] at e'
                injection e' with e'; injection e' with e' e''
                subst e' e''
                have q := getZ d'
                rw [Nat.mul_one] at q
                rw [← Option.some.inj hu, Go.WideShapes.add_plain]
                exact q)
            have HXI := Hid.mk hxi
            have HXJ := Hid.mk hxj
            have HFL : Hid ((X.flatMap csZ).length = k * 1) := Hid.mk (by rw [flat_Z, List.length_map, ← HKX.out]; omega)
            have hk0 : 0 < k := by omega
            clear hxi hxj
            subst exa
            go_wp2_with (at_builtin; refine wpList_append_lies _ rfl _ _ _ rfl wy.heap.size 3 i0 _ 1 8 Try.underlying24 hi0 hz0 hz1 hz2 rfl (by decide) (.slice none 0 0) 0 [] (by rfl) (World.ownsRow_nil _ _ _ _) ⟨gx, ox, none⟩ k xc (X.flatMap csZ) (by rfl) HFL.out HNEW.out (fun u hu => by rw [flat_Z] at hu; obtain ⟨z, _, rfl⟩ := List.mem_map.1 hu; rfl) hk0 (by unfold maxLen; omega) (by omega) (Nat.le_refl _) wy.heap.size rfl ?_)
            intro g8 cap8 w7 hown7 hgrow7 _ _
            have HB7 : Hid (Below w5.heap.size w5 w7) := Hid.mk (HBJ.out.grown hgrow7 hsy (fun k' e => by simp [Value.ownBlock] at e))
            have hg8 : wy.heap.size ≤ g8 := (hown7.lt g8 rfl).1
            have HR7 := Hid.mk hown7
            have p7 := hown7.cellAt i (by omega)
            rw [flat_Z, List.getElem?_map, HXI.out] at p7
            obtain ⟨W8, hW8⟩ : ∃ W, W = w7.setCell ⟨g8, i, none⟩ (.int .i64 (xi + 1)) := ⟨_, rfl⟩
            have HR8 : Hid (W8.ownsRow wy.heap.size 3 1 (.slice (some ⟨g8, 0, none⟩) k cap8) k ((X.set i (xi + 1)).flatMap csZ)) := Hid.mk (by rw [hW8]; exact set_row hown7 hik)
            have HB8 : Hid (Below w5.heap.size w5 W8) := Hid.mk (by rw [hW8]; exact HB7.out.setCell (p := ⟨g8, i, none⟩) (by show w5.heap.size ≤ g8; omega) _)
            have pf7 : w7.frozen? ⟨g8, i, none⟩ = false := own_thaw hown7 hik
            simp only [Option.map_some] at p7
            clear hown7 hgrow7
            by_cases hij : j = i
            · have hijI : ((j : Int) != (i : Int)) = false := by simp; omega
              subst hij
              go_wp2_with fail
              rw [← hW8]
              clear hW8 p7 pf7
              have HRM : Hid (W8.ownsRow wy.heap.size 3 1 (.slice (some ⟨g8, 0, none⟩) k cap8) k ((X.set j (xi + 1)).flatMap csZ)) := HR8
              have HBM := HB8
              have HBM0 : Hid (Below W0.heap.size W0 W8) := Hid.mk (HW5.out _ HB8.out)
              have HLM : Hid (k = (X.set j (xi + 1)).length) := Hid.mk (by rw [List.length_set]; exact HKX.out)
              have HIM := Hid.mk (own_int HRM.out HLM.out)
              have HCM := Hid.mk (cells_any HIM.out (by rw [← HLM.out]; omega))
              by_cases hk9 : okL (X.set j (xi + 1)) = true
              · rw [show cellE (X.set j (xi + 1)) = .tuple #[.int .i64 (prodI (X.set j (xi + 1))), .int .i64 0] from if_pos hk9] at HCM
                have hp91 := prodI_pos (okL_iff.1 hk9).2.1
                have hp92 := (okL_iff.1 hk9).2.2
                have HK9 := Hid.mk hk9
                obtain ⟨P9, hP9⟩ : ∃ P, P = prodI (X.set j (xi + 1)) := ⟨_, rfl⟩
                rw [← hP9] at HCM hp91 hp92
                have HP9 := Hid.mk hP9
                clear hk9 hP9
                go_wp2_with fail
                refine HCM.out.mono ?_
                rintro e ww ⟨rfl, h⟩
                rw [h]
                clear h
                obtain ⟨qz1, _⟩ := HBX.out W8 HBM0.out
                by_cases hle9 : P9 ≤ (m : Int)
                · have HLD := Hid.mk (HLO.out W8 _ _ (X.set j (xi + 1)) HBM0.out HIM.out HK9.out (by rw [← HLM.out]))
                  have HGE : Hid (fX ≤ loadP (X.set j (xi + 1)) (onceA (zipA G zs))) := Hid.mk (by
                    rw [HFX.out]
                    exact HSP.out (X.set j (xi + 1)) ((mem_allI _ _ _).2 ⟨HLM.out.symm, (okL_iff.1 HK9.out).2.1, .inr (by rw [← HP9.out]; exact hle9)⟩))
                  obtain ⟨f9, hf9⟩ : ∃ f, f = loadP (X.set j (xi + 1)) (onceA (zipA G zs)) := ⟨_, rfl⟩
                  rw [← hf9] at HLD HGE
                  have hge9 : ¬ f9 < fX := by have := HGE.out; omega
                  clear hf9
                  go_wp2_with fail
                  refine HLD.out.mono ?_
                  rintro e w9 ⟨rfl, hb9⟩
                  have HB9 := Hid.mk (HBM.out.trans (hb9.mono HBM.out.size))
                  clear hb9
                  go_wp2
                  go_roundw
                  case rel => exact ⟨j + 1, by omega, by go_num, HB9.out⟩
                  case measure => simp [intOf]; omega
                · go_wp2
                  go_roundw
                  case rel => exact ⟨j + 1, by omega, by go_num, HBM.out⟩
                  case measure => simp [intOf]; omega
              · rw [show cellE (X.set j (xi + 1)) = .tuple #[.int .i64 0, .int .i64 1] from if_neg hk9] at HCM
                clear hk9
                go_wp2_with fail
                refine HCM.out.mono ?_
                rintro e ww ⟨rfl, h⟩
                rw [h]
                clear h
                go_wp2
                go_roundw
                case rel => exact ⟨j + 1, by omega, by go_num, HBM.out⟩
                case measure => simp [intOf]; omega
            · obtain ⟨f1, f2⟩ : ¬ (j : Int) = (i : Int) ∧ ((j : Int) == (i : Int)) = false := not_both (by omega)
              have f3 : ((j : Int) != (i : Int)) = true := by simp; omega
              have HXJ8 : Hid ((X.set i (xi + 1))[j]? = some xj) := Hid.mk (by rw [List.getElem?_set_ne (fun e => hij e.symm)]; exact HXJ.out)
              have p8 := HR8.out.cellAt j (by omega)
              rw [flat_Z, List.getElem?_map, HXJ8.out] at p8
              simp only [Option.map_some] at p8
              have pf8 : W8.frozen? ⟨g8, j, none⟩ = false := own_thaw HR8.out hjk
              rw [hW8] at p8 pf8
              by_cases hx1 : 1 < xj
              · go_wp2_with fail
                rw [← hW8]
                clear hW8 p7 pf7
                obtain ⟨W9, hW9⟩ : ∃ W, W = W8.setCell ⟨g8, j, none⟩ (.int .i64 (xj - 1)) := ⟨_, rfl⟩
                rw [← hW9]
                have HRM : Hid (W9.ownsRow wy.heap.size 3 1 (.slice (some ⟨g8, 0, none⟩) k cap8) k (((X.set i (xi + 1)).set j (xj - 1)).flatMap csZ)) := Hid.mk (by rw [hW9]; exact set_row HR8.out hjk)
                have HBM : Hid (Below w5.heap.size w5 W9) := Hid.mk (by rw [hW9]; exact HB8.out.setCell (p := ⟨g8, j, none⟩) (by show w5.heap.size ≤ g8; omega) _)
                have HBM0 : Hid (Below W0.heap.size W0 W9) := Hid.mk (HW5.out _ HBM.out)
                have HLM : Hid (k = ((X.set i (xi + 1)).set j (xj - 1)).length) := Hid.mk (by rw [List.length_set, List.length_set]; exact HKX.out)
                clear hW9 p8 pf8
                have HIM := Hid.mk (own_int HRM.out HLM.out)
                have HCM := Hid.mk (cells_any HIM.out (by rw [← HLM.out]; omega))
                by_cases hk9 : okL ((X.set i (xi + 1)).set j (xj - 1)) = true
                · rw [show cellE ((X.set i (xi + 1)).set j (xj - 1)) = .tuple #[.int .i64 (prodI ((X.set i (xi + 1)).set j (xj - 1))), .int .i64 0] from if_pos hk9] at HCM
                  have hp91 := prodI_pos (okL_iff.1 hk9).2.1
                  have hp92 := (okL_iff.1 hk9).2.2
                  have HK9 := Hid.mk hk9
                  obtain ⟨P9, hP9⟩ : ∃ P, P = prodI ((X.set i (xi + 1)).set j (xj - 1)) := ⟨_, rfl⟩
                  rw [← hP9] at HCM hp91 hp92
                  have HP9 := Hid.mk hP9
                  clear hk9 hP9
                  go_wp2_with fail
                  refine HCM.out.mono ?_
                  rintro e ww ⟨rfl, h⟩
                  rw [h]
                  clear h
                  obtain ⟨qz1, _⟩ := HBX.out W9 HBM0.out
                  by_cases hle9 : P9 ≤ (m : Int)
                  · have HLD := Hid.mk (HLO.out W9 _ _ ((X.set i (xi + 1)).set j (xj - 1)) HBM0.out HIM.out HK9.out (by rw [← HLM.out]))
                    have HGE : Hid (fX ≤ loadP ((X.set i (xi + 1)).set j (xj - 1)) (onceA (zipA G zs))) := Hid.mk (by
                      rw [HFX.out]
                      exact HSP.out ((X.set i (xi + 1)).set j (xj - 1)) ((mem_allI _ _ _).2 ⟨HLM.out.symm, (okL_iff.1 HK9.out).2.1, .inr (by rw [← HP9.out]; exact hle9)⟩))
                    obtain ⟨f9, hf9⟩ : ∃ f, f = loadP ((X.set i (xi + 1)).set j (xj - 1)) (onceA (zipA G zs)) := ⟨_, rfl⟩
                    rw [← hf9] at HLD HGE
                    have hge9 : ¬ f9 < fX := by have := HGE.out; omega
                    clear hf9
                    go_wp2_with fail
                    refine HLD.out.mono ?_
                    rintro e w9 ⟨rfl, hb9⟩
                    have HB9 := Hid.mk (HBM.out.trans (hb9.mono HBM.out.size))
                    clear hb9
                    go_wp2
                    go_roundw
                    case rel => exact ⟨j + 1, by omega, by go_num, HB9.out⟩
                    case measure => simp [intOf]; omega
                  · go_wp2
                    go_roundw
                    case rel => exact ⟨j + 1, by omega, by go_num, HBM.out⟩
                    case measure => simp [intOf]; omega
                · rw [show cellE ((X.set i (xi + 1)).set j (xj - 1)) = .tuple #[.int .i64 0, .int .i64 1] from if_neg hk9] at HCM
                  clear hk9
                  go_wp2_with fail
                  refine HCM.out.mono ?_
                  rintro e ww ⟨rfl, h⟩
                  rw [h]
                  clear h
                  go_wp2
                  go_roundw
                  case rel => exact ⟨j + 1, by omega, by go_num, HBM.out⟩
                  case measure => simp [intOf]; omega
              · go_wp2_with fail
                rw [← hW8]
                clear hW8 p7 pf7 p8 pf8
                have HRM : Hid (W8.ownsRow wy.heap.size 3 1 (.slice (some ⟨g8, 0, none⟩) k cap8) k ((X.set i (xi + 1)).flatMap csZ)) := HR8
                have HBM := HB8
                have HBM0 : Hid (Below W0.heap.size W0 W8) := Hid.mk (HW5.out _ HB8.out)
                have HLM : Hid (k = (X.set i (xi + 1)).length) := Hid.mk (by rw [List.length_set]; exact HKX.out)
                have HIM := Hid.mk (own_int HRM.out HLM.out)
                have HCM := Hid.mk (cells_any HIM.out (by rw [← HLM.out]; omega))
                by_cases hk9 : okL (X.set i (xi + 1)) = true
                · rw [show cellE (X.set i (xi + 1)) = .tuple #[.int .i64 (prodI (X.set i (xi + 1))), .int .i64 0] from if_pos hk9] at HCM
                  have hp91 := prodI_pos (okL_iff.1 hk9).2.1
                  have hp92 := (okL_iff.1 hk9).2.2
                  have HK9 := Hid.mk hk9
                  obtain ⟨P9, hP9⟩ : ∃ P, P = prodI (X.set i (xi + 1)) := ⟨_, rfl⟩
                  rw [← hP9] at HCM hp91 hp92
                  have HP9 := Hid.mk hP9
                  clear hk9 hP9
                  go_wp2_with fail
                  refine HCM.out.mono ?_
                  rintro e ww ⟨rfl, h⟩
                  rw [h]
                  clear h
                  obtain ⟨qz1, _⟩ := HBX.out W8 HBM0.out
                  by_cases hle9 : P9 ≤ (m : Int)
                  · have HLD := Hid.mk (HLO.out W8 _ _ (X.set i (xi + 1)) HBM0.out HIM.out HK9.out (by rw [← HLM.out]))
                    have HGE : Hid (fX ≤ loadP (X.set i (xi + 1)) (onceA (zipA G zs))) := Hid.mk (by
                      rw [HFX.out]
                      exact HSP.out (X.set i (xi + 1)) ((mem_allI _ _ _).2 ⟨HLM.out.symm, (okL_iff.1 HK9.out).2.1, .inr (by rw [← HP9.out]; exact hle9)⟩))
                    obtain ⟨f9, hf9⟩ : ∃ f, f = loadP (X.set i (xi + 1)) (onceA (zipA G zs)) := ⟨_, rfl⟩
                    rw [← hf9] at HLD HGE
                    have hge9 : ¬ f9 < fX := by have := HGE.out; omega
                    clear hf9
                    go_wp2_with fail
                    refine HLD.out.mono ?_
                    rintro e w9 ⟨rfl, hb9⟩
                    have HB9 := Hid.mk (HBM.out.trans (hb9.mono HBM.out.size))
                    clear hb9
                    go_wp2
                    go_roundw
                    case rel => exact ⟨j + 1, by omega, by go_num, HB9.out⟩
                    case measure => simp [intOf]; omega
                  · go_wp2
                    go_roundw
                    case rel => exact ⟨j + 1, by omega, by go_num, HBM.out⟩
                    case measure => simp [intOf]; omega
                · rw [show cellE (X.set i (xi + 1)) = .tuple #[.int .i64 0, .int .i64 1] from if_neg hk9] at HCM
                  clear hk9
                  go_wp2_with fail
                  refine HCM.out.mono ?_
                  rintro e ww ⟨rfl, h⟩
                  rw [h]
                  clear h
                  go_wp2
                  go_roundw
                  case rel => exact ⟨j + 1, by omega, by go_num, HBM.out⟩
                  case measure => simp [intOf]; omega
          · have hjkI : ¬ (j : Int) < (k : Int) := by omega
            go_wp2
            go_roundw
            case rel => exact ⟨i + 1, by omega, by go_num, HBJ.out⟩
            case measure => simp [intOf]; omega
      · have hikI : ¬ (i : Int) < (k : Int) := by omega
        go_wp2_with fail
        refine (HAW.out wx (HW5.out _ HBI.out)).mono ?_
        rintro e w9 ⟨rfl, hb9⟩
        have HB9 := Hid.mk hb9
        clear hb9
        go_wp2
        go_ret
        exact ⟨rfl, HB9.out⟩
end Go.Proofs.Ytbknlmalfkpenaa
