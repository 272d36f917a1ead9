/- Route: the document's. -/
import Derived.Test.YtojjepkmnifngaaHRRout
import Derived.Test.YtojjepkmnifngaaHCellL
import Derived.Deep.RegionHeld3
namespace Go.Proofs.Ytojjepkmnifngaa
open Go.RowKit

theorem route_step {L : List Int} {ps : List (Int × Int)} (c : Nat) : (rngI ((c + 1 : Nat) : Int)).filter (routeB L ps) = if routeB L ps (c : Int) = true then (rngI (c : Int)).filter (routeB L ps) ++ [(c : Int)] else (rngI (c : Int)).filter (routeB L ps) := by
  rw [rng_snoc, List.filter_append]
  by_cases h : routeB L ps (c : Int) = true
  · rw [if_pos h]; simp [h]
  · rw [if_neg h]; simp [h]
theorem filt_len {L : List Int} {ps : List (Int × Int)} (c : Nat) : ((rngI (c : Int)).filter (routeB L ps)).length ≤ c := by
  have := List.length_filter_le (routeB L ps) (rngI (c : Int))
  rw [rng_len] at this
  exact this
set_option maxRecDepth 100000 in
set_option maxHeartbeats 8000000 in
theorem rRoute_any {S : Nat → Prop} {w : World} {v1 v2 v3 : Value} {L vs : List Int} {ws : List (List UInt8)} (h1 : IntZ S w v1 L) (h2 : IntZ S w v2 vs) (h3 : TxtW S w v3 ws) (hb1 : L.length ≤ 9223372036854775807) (hb2 : vs.length ≤ 9223372036854775807) (hb3 : ws.length ≤ 9223372036854775807)
    (hs : ∀ s ∈ ws, s.length ≤ 140737488351000) :
    Calls Try.prog 11 #[v1, v2, v3] w (RouE L vs ws w) := by
  obtain ⟨i0, hi0, hz0, hz1, hz2⟩ := info_parts infoZ
  have HCL := Hid.mk (rCells_any h1 hb1)
  obtain ⟨a1, c1, rfl⟩ := h1.slice
  obtain ⟨a2, c2, rfl⟩ := h2.slice
  obtain ⟨a3, c3, rfl⟩ := h3.slice
  have H1 := Hid.mk h1
  have H2 := Hid.mk h2
  have H3 := Hid.mk h3
  have HQ1 : Hid (askR L vs ws.length → ∀ e w', Below w.heap.size w w' → (∃ v, e = .returned (.tuple #[v, .int .i64 0]) ∧ IntZ (fun k => w.heap.size ≤ k) w' v (routeL L (prs L vs ws))) → RouE L vs ws w e w') := Hid.mk (fun a e w' b c => ⟨b, .inl ⟨a, c⟩⟩)
  have HQ2 : Hid (¬ askR L vs ws.length → ∀ w', Below w.heap.size w w' → RouE L vs ws w (.returned (.tuple #[.slice none 0 0, .int .i64 1])) w') := Hid.mk (fun a w' b => ⟨b, .inr ⟨a, rfl⟩⟩)
  have HS := Hid.mk hs
  clear h1 h2 h3 hs
  by_cases hL : okL L = true
  · have HL := Hid.mk hL
    have hn16 := (okL_iff.1 hL).1
    have hP1 := prodI_pos (okL_iff.1 hL).2.1
    have hP2 := (okL_iff.1 hL).2.2
    rw [show cellE L = .tuple #[.int .i64 (prodI L), .int .i64 0] from if_pos hL] at HCL
    obtain ⟨n, hn⟩ : ∃ n, n = L.length := ⟨_, rfl⟩
    obtain ⟨m, hm⟩ : ∃ m, m = vs.length := ⟨_, rfl⟩
    obtain ⟨k, hk⟩ : ∃ k, k = ws.length := ⟨_, rfl⟩
    have HN := Hid.mk hn
    have HM := Hid.mk hm
    have HK := Hid.mk hk
    rw [← hn] at H1 HCL hb1 hn16 ⊢
    rw [← hm] at H2 hb2 ⊢
    rw [← hk] at H3 hb3 HQ1 HQ2 ⊢
    obtain ⟨P, hP⟩ : ∃ P : Nat, (P : Int) = prodI L := ⟨(prodI L).toNat, by omega⟩
    rw [← hP] at HCL hP1 hP2
    have HPP := Hid.mk hP
    clear hL hn hm hk hP
    by_cases hmk : m = k
    · by_cases hm16 : m ≤ 16
      · subst hmk
        have hmI : ¬ (16 : Int) < (m : Int) := by omega
        have hneB : ((m : Int) != (m : Int)) = false := by simp
        go_enter Try.func11, Try.ntmps11
        go_wp2_with fail
        refine HCL.out.mono ?_
        rintro e w1 ⟨rfl, h⟩
        rw [h]
        clear h
        go_wp2_with fail
        go_loopw [10] (fun c wr => ∃ i : Nat, i ≤ m ∧ c = .int .i64 i ∧ (∀ (j : Nat) v, j < i → vs[j]? = some v → 0 ≤ v ∧ v < (n : Int)) ∧ w = wr) (fun c _ => m - (intOf c).toNat)
        case atStart => exact ⟨0, Nat.zero_le _, rfl, fun j v hj => absurd hj (by omega), rfl⟩
        case round =>
          obtain ⟨i, hi, rfl, hall, rfl⟩ := hrel
          have HALL := Hid.mk hall
          clear hall
          by_cases hlt : i < m
          · have hltI : (i : Int) < (m : Int) := by omega
            obtain ⟨v, hv⟩ : ∃ v, vs[i]? = some v := ⟨_, List.getElem?_eq_getElem (by rw [← HM.out]; exact hlt)⟩
            obtain ⟨g, o, rfl, _, _, hc⟩ := H2.out.get hv
            have q1 := getZ hc
            rw [Nat.mul_one] at q1
            have HV := Hid.mk hv
            have HBAD : Hid (¬ (0 ≤ v ∧ v < (n : Int)) → RouE L vs ws w (.returned (.tuple #[.slice none 0 0, .int .i64 1])) w) := Hid.mk (fun hb => HQ2.out (fun ha => hb (by
              have := ha.2.2.2 v (List.mem_of_getElem? HV.out)
              rw [← HN.out] at this
              exact this)) w (Below.refl _ _))
            clear hc hv
            by_cases hv0 : v < 0
            · have HE := Hid.mk (HBAD.out (by omega))
              go_wp2
              go_ret2
              exact HE.out
            · by_cases hvn : (n : Int) ≤ v
              · have HE := Hid.mk (HBAD.out (by omega))
                go_wp2
                go_ret2
                exact HE.out
              · have HALL2 : Hid (∀ (j : Nat) v, j < i + 1 → vs[j]? = some v → 0 ≤ v ∧ v < (n : Int)) := Hid.mk (fun j v' hj hv' => by
                  by_cases e : j = i
                  · subst e
                    rw [HV.out] at hv'
                    rw [← Option.some.inj hv']
                    omega
                  · exact HALL.out j v' (by omega) hv')
                go_wp2
                go_roundw
                case rel => exact ⟨i + 1, by omega, by go_num, HALL2.out, by trivial⟩
                case measure => simp [intOf]; omega
          · have hltI : ¬ (i : Int) < (m : Int) := by omega
            have HASK : Hid (askR L vs m) := Hid.mk ⟨HL.out, by rw [← HM.out], by rw [← HM.out]; exact hm16, fun v hv => by
              obtain ⟨j, hj⟩ := List.getElem?_of_mem hv
              have hjl := (List.getElem?_eq_some_iff.1 hj).1
              have := HALL.out j v (by have := HM.out; omega) hj
              rw [← HN.out]
              exact this⟩
            have HV : Hid (∀ (j : Nat) v, vs[j]? = some v → 0 ≤ v ∧ v < (n : Int)) := Hid.mk (fun j v hj => HALL.out j v (by have hjl := (List.getElem?_eq_some_iff.1 hj).1; have := HM.out; omega) hj)
            clear hi hlt
            go_wp2_with fail
            go_loopw [11, 12] (fun vl c wr => ∃ (j : Nat) (u : Value), u = vl ∧ j ≤ P ∧ c = .int .i64 j ∧ wr.ownsRow w.heap.size 3 1 u ((rngI (j : Int)).filter (routeB L (prs L vs ws))).length (((rngI (j : Int)).filter (routeB L (prs L vs ws))).flatMap csZ) ∧ Below w.heap.size w wr) (fun _ c _ => P - (intOf c).toNat)
            case atStart => exact ⟨0, _, rfl, Nat.zero_le _, rfl, World.ownsRow_nil _ _ _ _, Below.refl _ _⟩
            case round =>
              obtain ⟨j, u, rfl, hj, rfl, hrow, hbw⟩ := hrel
              obtain ⟨wx, hwx⟩ : ∃ wx, wx = wr := ⟨_, rfl⟩
              subst hwx
              obtain ⟨ua, uc, hu⟩ := own_slice hrow
              subst hu
              have HROW := Hid.mk hrow
              have HBW := Hid.mk hbw
              have hsx : w.heap.size ≤ wx.heap.size := hbw.size
              have hfl := filt_len (L := L) (ps := prs L vs ws) j
              have HST := Hid.mk (route_step (L := L) (ps := prs L vs ws) j)
              obtain ⟨F, hF⟩ : ∃ F, F = (rngI (j : Int)).filter (routeB L (prs L vs ws)) := ⟨_, rfl⟩
              rw [← hF] at HROW hfl HST ⊢
              obtain ⟨f, hf⟩ : ∃ f, f = F.length := ⟨_, rfl⟩
              rw [← hf] at HROW hfl ⊢
              have HFF := Hid.mk hF
              have HF2 := Hid.mk hf
              clear hrow hbw hF hf
              by_cases hlt : j < P
              · have hltI : (j : Int) < (P : Int) := by omega
                have HCC := Hid.mk (coords_any (H1.out.below HBW.out) HL.out (j : Int) (by omega) (by omega))
                rw [← HN.out] at HCC
                go_wp2_with fail
                refine HCC.out.mono ?_
                rintro e w2 ⟨rfl, hrow2, hb2⟩
                have HR2 := Hid.mk hrow2
                have HB2 : Hid (Below w.heap.size w w2) := Hid.mk (HBW.out.trans (hb2.mono hsx))
                have HROW2 := Hid.mk (owns_below HROW.out hb2)
                obtain ⟨ab, hab⟩ : ∃ ab, ab = wx.heap.size := ⟨_, rfl⟩
                rw [← hab] at HR2 ⊢
                clear hrow2 hb2 hab
                go_wp2_with fail
                go_loopw [14, 15] (fun b c wr => ∃ i : Nat, i ≤ m ∧ c = .int .i64 i ∧ b = .bool ((prs L (vs.take i) (ws.take i)).all fun p => decide (coordI L p.1.toNat (j : Int) = p.2)) ∧ Below w2.heap.size w2 wr) (fun _ c _ => m - (intOf c).toNat)
                case atStart => exact ⟨0, Nat.zero_le _, rfl, rfl, Below.refl _ _⟩
                case round =>
                  obtain ⟨i, hi, rfl, rfl, hb3⟩ := hrel
                  obtain ⟨wy, hwy⟩ : ∃ wy, wy = wr := ⟨_, rfl⟩
                  subst hwy
                  have HB3 := Hid.mk hb3
                  clear hb3
                  obtain ⟨ok, hok⟩ : ∃ ok, ok = ((prs L (vs.take i) (ws.take i)).all fun p => decide (coordI L p.1.toNat (j : Int) = p.2)) := ⟨_, rfl⟩
                  rw [← hok]
                  have HOK := Hid.mk hok
                  clear hok
                  by_cases hlt2 : i < m
                  · have hlt2I : (i : Int) < (m : Int) := by omega
                    obtain ⟨v, hv⟩ : ∃ v, vs[i]? = some v := ⟨_, List.getElem?_eq_getElem (by rw [← HM.out]; exact hlt2)⟩
                    obtain ⟨s, hs⟩ : ∃ s, ws[i]? = some s := ⟨_, List.getElem?_eq_getElem (by rw [← HK.out]; exact hlt2)⟩
                    obtain ⟨hv0, hvn⟩ := HV.out i v hv
                    have HSTEP : Hid (((prs L (vs.take (i + 1)) (ws.take (i + 1))).all fun p => decide (coordI L p.1.toNat (j : Int) = p.2)) = (ok && decide (coordI L v.toNat (j : Int) = partM ⟨s.toArray⟩ (gI L v)))) := Hid.mk (by
                      rw [prs_take hv hs, List.all_append, ← HOK.out]
                      simp)
                    cases ok with
                    | false =>
                      have HSF : Hid (((prs L (vs.take (i + 1)) (ws.take (i + 1))).all fun p => decide (coordI L p.1.toNat (j : Int) = p.2)) = false) := Hid.mk (by rw [HSTEP.out]; rfl)
                      clear hv hs
                      go_wp2_with fail
                      go_quiet (fail)
                      go_wp2
                      go_roundw
                      case rel => exact ⟨i + 1, by omega, by go_num, by rw [HSF.out], below_drewN HB3.out _⟩
                      case measure => simp [intOf]; omega
                    | true =>
                      obtain ⟨vn, rfl⟩ : ∃ vn : Nat, v = (vn : Int) := ⟨v.toNat, by omega⟩
                      have hvnN : vn < n := by omega
                      obtain ⟨sh, hsh⟩ : ∃ sh, L[vn]? = some sh := ⟨_, List.getElem?_eq_getElem (by rw [← HN.out]; exact hvnN)⟩
                      have hgi : gI L (vn : Int) = sh := gI_at (by rw [Int.toNat_natCast]; exact hsh)
                      have hb23 : Below w.heap.size w wy := HB2.out.trans (HB3.out.mono HB2.out.size)
                      obtain ⟨g1, o1, e1, _, _, d1⟩ := (H1.out.below hb23.drew).get hsh
                      obtain ⟨g2, o2, e2, _, _, d2⟩ := (H2.out.below hb23.drew).get hv
                      obtain ⟨g3, o3, e3, _, _, d3⟩ := (H3.out.below hb23.drew).get hs
                      subst e1 e2 e3
                      have q1 := getZ d1
                      have q2 := getZ d2
                      have q3 := getW d3
                      rw [Nat.mul_one] at q1 q2 q3
                      have q4 := ((HR2.out.below HB3.out.drew).getZ (cooL_at (L := L) (c := (j : Int)) (j := vn) (by rw [← HN.out]; exact hvnN))).1
                      obtain ⟨x, hx⟩ : ∃ x, x = coordI L vn (j : Int) := ⟨_, rfl⟩
                      rw [← hx] at q4
                      have CP := Hid.mk (rPart_any ⟨s.toArray⟩ sh wy.drew (by have := HS.out s (List.mem_of_getElem? hs); simpa [ByteArray.size] using this))
                      obtain ⟨y, hy⟩ : ∃ y, y = partM ⟨s.toArray⟩ sh := ⟨_, rfl⟩
                      rw [← hy] at CP
                      have HSF : Hid (((prs L (vs.take (i + 1)) (ws.take (i + 1))).all fun p => decide (coordI L p.1.toNat (j : Int) = p.2)) = decide (x = y)) := Hid.mk (by rw [HSTEP.out, hgi, hx, hy, Int.toNat_natCast, Bool.true_and])
                      have HKD : Hid (wy.drew.cell? ⟨g2, o2 + i, none⟩ = some (.int .i64 (vn : Int)) ∧ wy.drew.cell? ⟨ab, vn, none⟩ = some (.int .i64 x) ∧ wy.drew.cell? ⟨g3, o3 + i, none⟩ = some (.string ⟨s.toArray⟩) ∧ wy.drew.cell? ⟨g1, o1 + vn, none⟩ = some (.int .i64 sh)) := Hid.mk ⟨q2, q4, q3, q1⟩
                      clear hv hs hsh hgi hx hy d1 d2 d3 q1 q2 q3 q4 hb23
                      have hdx : (x == y) = decide (x = y) := rfl
                      go_wp2_with fail
                      go_region_held3 (fun u => u.cell? ⟨g2, o2 + i, none⟩ = some (.int .i64 (vn : Int)) ∧ u.cell? ⟨ab, vn, none⟩ = some (.int .i64 x) ∧ u.cell? ⟨g3, o3 + i, none⟩ = some (.string ⟨s.toArray⟩) ∧ u.cell? ⟨g1, o1 + vn, none⟩ = some (.int .i64 sh))
                        (with_reducible exact HKD.out)
                        (first | (go_at_call 15; with_reducible refine CP.out.mono ?_; rintro e w5 ⟨rfl, hw5⟩; rw [hw5]; clear hw5))
                      go_wp2
                      go_roundw
                      case rel => exact ⟨i + 1, by omega, by go_num, by rw [HSF.out], HB3.out.drew⟩
                      case measure => simp [intOf]; omega
                  · have hlt2I : ¬ (i : Int) < (m : Int) := by omega
                    have HRB : Hid (routeB L (prs L vs ws) (j : Int) = ok) := Hid.mk (by
                      rw [HOK.out, List.take_of_length_le (by have := HM.out; omega), List.take_of_length_le (by have := HK.out; omega)]
                      rfl)
                    rw [HRB.out] at HST
                    have HBY : Hid (Below w.heap.size w wy) := Hid.mk (HB2.out.trans (HB3.out.mono HB2.out.size))
                    have HROW3 := Hid.mk (owns_below HROW2.out HB3.out)
                    have hsy : w.heap.size ≤ wy.heap.size := HBY.out.size
                    cases ok with
                    | false =>
                      have HST2 := Hid.mk (HST.out)
                      rw [if_neg (by decide)] at HST2
                      go_wp2
                      go_roundw
                      case rel => exact ⟨j + 1, _, rfl, by omega, by go_num, by rw [HST2.out, ← HF2.out]; exact HROW3.out, HBY.out⟩
                      case measure => simp [intOf]; omega
                    | true =>
                      have HST2 := Hid.mk (HST.out)
                      rw [if_pos rfl] at HST2
                      go_wp2_with (at_builtin; refine wpList_append_lies _ rfl _ _ _ rfl w.heap.size 3 i0 _ 1 8 Try.underlying24 hi0 hz0 hz1 hz2 rfl (by decide) (.slice ua f uc) _ _ (by rfl) (HROW3.out.alloc _) ⟨wy.heap.size, 0, none⟩ 1 1 (csZ (j : Int)) (by rfl) (by rfl) (World.news_of_block (cs := #[.int .i64 (j : Int)]) (t := 3) (fr := (0, 0)) (heap_alloc_new wy _)) (by simp [Value.oneCell']) (by decide) (by unfold maxLen; omega) (by omega) (by simp; omega) (wy.heap.size + 1) (by simp) ?_)
                      intro gg cap2 w9 hown9 hgrow9 hat9 hlt9
                      have HB9 : Hid (Below w.heap.size w w9) := Hid.mk ((HBY.out.alloc hsy _).grown hgrow9 (by simp; omega) (fun k hk => (HROW3.out.lt k hk).1))
                      have HO9 : Hid (w9.ownsRow w.heap.size 3 1 (.slice (some ⟨gg, 0, none⟩) (f + 1) cap2) ((rngI ((j + 1 : Nat) : Int)).filter (routeB L (prs L vs ws))).length (((rngI ((j + 1 : Nat) : Int)).filter (routeB L (prs L vs ws))).flatMap csZ)) := Hid.mk (by
                        rw [HST2.out, List.length_append, List.length_singleton, ← HF2.out, List.flatMap_append]
                        exact hown9)
                      clear hown9 hgrow9 hat9 hlt9
                      go_wp2
                      go_roundw
                      case rel => exact ⟨j + 1, _, rfl, by omega, by go_num, HO9.out, HB9.out⟩
                      case measure => simp [intOf]; omega
              · have hltI : ¬ (j : Int) < (P : Int) := by omega
                have HFIN : Hid (RouE L vs ws w (.returned (.tuple #[.slice ua f uc, .int .i64 0])) wx) := Hid.mk (HQ1.out HASK.out _ _ HBW.out ⟨_, rfl, by
                  have e : F = routeL L (prs L vs ws) := by
                    rw [HFF.out, routeL, ← HPP.out, show j = P by omega]
                  rw [← e]
                  exact (own_int HROW.out HF2.out).sub (fun b hb _ => (HROW.out.lt b hb).1)⟩)
                go_wp2
                go_ret2
                exact HFIN.out
      · have hmI : (16 : Int) < (m : Int) := by omega
        subst hmk
        have hneB : ((m : Int) != (m : Int)) = false := by simp
        have HE := Hid.mk (HQ2.out (fun ha => hm16 (by have := ha.2.2.1; rw [← HM.out] at this; exact this)) w (Below.refl _ _))
        go_enter Try.func11, Try.ntmps11
        go_wp2_with fail
        refine HCL.out.mono ?_
        rintro e w1 ⟨rfl, h⟩
        rw [h]
        clear h
        go_wp2
        go_ret2
        exact HE.out
    · have hmI : ¬ (m : Int) = (k : Int) := by omega
      have hneB : ((m : Int) != (k : Int)) = true := by simp; omega
      have HE := Hid.mk (HQ2.out (fun ha => hmk (by have := ha.2.1; rw [← HM.out] at this; omega)) w (Below.refl _ _))
      go_enter Try.func11, Try.ntmps11
      go_wp2_with fail
      refine HCL.out.mono ?_
      rintro e w1 ⟨rfl, h⟩
      rw [h]
      clear h
      go_wp2
      go_ret2
      exact HE.out
  · have HE := Hid.mk (HQ2.out (fun ha => hL ha.1) w (Below.refl _ _))
    rw [show cellE L = .tuple #[.int .i64 0, .int .i64 1] from if_neg hL] at HCL
    clear hL
    go_enter Try.func11, Try.ntmps11
    go_wp2_with fail
    refine HCL.out.mono ?_
    rintro e w1 ⟨rfl, h⟩
    rw [h]
    clear h
    go_wp2
    go_ret2
    exact HE.out
end Go.Proofs.Ytojjepkmnifngaa
