/- The cells of any words of any variables are the document's. -/
import Derived.Test.YtojjepkmnifngaaHRRou2
namespace Go.Proofs.Ytojjepkmnifngaa
open Go.RowKit

theorem cellsQW : Try.prog.cellsOf 9 = 1 := by kernel_rfl
/-- Texts as an argument. -/
theorem open_txtsH {H : Type} {enc : TypeId × Value → H} {W : World} {fuel : Nat} {v : Value} {x : DataW H × List MemPlace}
    (hf : DataW.trod enc Try.prog W 0 (fun _ => true) true fuel 32 [v] = some x) (hw : ∀ m ∈ x.1.weights Try.prog 32, m ≤ reachBytes) :
    ∃ L : List (List UInt8), TxtW (fun _ => True) W v L ∧ (∀ s ∈ L, s.length ≤ 140737488351232) ∧ L.length ≤ maxLen ∧ CapS v L.length :=
  open_slN (en := csW) [] (fun _ => rfl) (by decide) Try.underlying32 cellsQW (fun s => s.length ≤ 140737488351232) (fun _ cs y _ h hq => by
    obtain ⟨s, rfl, hy, _⟩ := DataW.trod_string Try.underlying9 h
    refine ⟨s.data.toList, rfl, ?_⟩
    rw [hy] at hq
    exact hq _ (by simp [DataW.weights])) hf hw
/-- What Route answers, either way. -/
noncomputable def rouF (L vs : List Int) (ws : List (List UInt8)) : List Int := open Classical in if askR L vs ws.length then routeL L (prs L vs ws) else []
noncomputable def rouR (L vs : List Int) (ws : List (List UInt8)) : Int := open Classical in if askR L vs ws.length then 0 else 1
def RouU (L vs : List Int) (ws : List (List UInt8)) (w : World) (e : Ending) (w' : World) : Prop := (∃ ao n cap, e = .returned (.tuple #[.slice ao n cap, .int .i64 (rouR L vs ws)]) ∧ n = (rouF L vs ws).length ∧ IntZ (fun _ => True) w' (.slice ao n cap) (rouF L vs ws)) ∧ Below w.heap.size w w'
theorem RouE.uni {L vs : List Int} {ws : List (List UInt8)} {w w' : World} {e : Ending} (h : RouE L vs ws w e w') : RouU L vs ws w e w' := by
  obtain ⟨hb, h⟩ := h
  refine ⟨?_, hb⟩
  rcases h with ⟨ha, v, rfl, hv⟩ | ⟨ha, rfl⟩
  · obtain ⟨ao, cap, rfl⟩ := hv.slice
    refine ⟨ao, _, cap, by rw [rouR, if_pos ha], by rw [rouF, if_pos ha], ?_⟩
    rw [rouF, if_pos ha]
    exact hv.sub (fun _ _ _ => trivial)
  · refine ⟨none, 0, 0, by rw [rouR, if_neg ha], by rw [rouF, if_neg ha]; rfl, ?_⟩
    rw [rouF, if_neg ha]
    exact SlS.nil _ _
theorem rouF_len (L vs : List Int) (ws : List (List UInt8)) : (rouF L vs ws).length ≤ 64 := by
  unfold rouF
  split
  · next ha =>
    have h1 := prodI_pos (okL_iff.1 ha.1).2.1
    have h2 := (okL_iff.1 ha.1).2.2
    obtain ⟨P, hP⟩ : ∃ P : Nat, prodI L = (P : Int) := ⟨(prodI L).toNat, by omega⟩
    have := List.length_filter_le (routeB L (prs L vs ws)) (rngI (prodI L))
    rw [routeL]
    rw [hP] at this ⊢
    rw [rng_len] at this
    omega
  · simp
theorem rouR_range (L vs : List Int) (ws : List (List UInt8)) : 0 ≤ rouR L vs ws ∧ rouR L vs ws ≤ 1 := by
  unfold rouR; split <;> omega
theorem cellE_two (L : List Int) : ∃ a b, cellE L = .tuple #[.int .i64 a, .int .i64 b] := by
  unfold cellE; split
  · exact ⟨_, _, rfl⟩
  · exact ⟨_, _, rfl⟩
set_option maxRecDepth 100000 in
set_option maxHeartbeats 8000000 in
theorem shareRoutes_walk (v1 : Value) (L : List Int) (v2 : Value) (vs : List Int) (v3 : Value) (ws : List (List UInt8)) (w : World) (h1 : IntZ (fun _ => True) w v1 L) (g1 : L.length ≤ 9223372036854775807 ∧ CapS v1 L.length) (h2 : IntZ (fun _ => True) w v2 vs) (g2 : vs.length ≤ 9223372036854775807 ∧ CapS v2 vs.length) (h3 : TxtW (fun _ => True) w v3 ws) (g3 : ws.length ≤ 9223372036854775807 ∧ CapS v3 ws.length) :
    Calls Try.prog 4 #[v1, v2, v3] w fun e w' => e = .returned (.bool true) ∧ Below w.heap.size w w' := by
  have H1 := Hid.mk h1
  have H2 := Hid.mk h2
  have H3 := Hid.mk h3
  have HCAW := Hid.mk (fun w => awake_any w)
  have HRO : Hid ((∀ s ∈ ws, s.length ≤ 4096) → Calls Try.prog 10 #[v1, v2, v3] w (RouU L vs ws w)) := Hid.mk (fun hs => (route_any h1 h2 h3 g1.1 g2.1 (fun s h => by have := hs s h; omega)).mono (fun _ _ h => h.uni))
  have HRR : Hid ((∀ s ∈ ws, s.length ≤ 4096) → ∀ u, Below w.heap.size w u → Calls Try.prog 11 #[v1, v2, v3] u (RouU L vs ws u)) := Hid.mk (fun hs u hu => (rRoute_any (h1.below hu) (h2.below hu) (h3.below hu) g1.1 g2.1 g3.1 (fun s h => by have := hs s h; omega)).mono (fun _ _ h => h.uni))
  have HCC : Hid (∀ u, Below w.heap.size w u → Calls Try.prog 12 #[v1] u fun e w' => e = .returned (cellE L) ∧ w' = u) := Hid.mk (fun u hu => cells_any (h1.below hu) g1.1)
  have HCR : Hid (∀ u, Below w.heap.size w u → Calls Try.prog 13 #[v1] u fun e w' => e = .returned (cellE L) ∧ w' = u) := Hid.mk (fun u hu => rCells_any (h1.below hu) g1.1)
  obtain ⟨ca, cb, hce⟩ := cellE_two L
  rw [hce] at HCC HCR
  have hFl := rouF_len L vs ws
  have hRr := rouR_range L vs ws
  obtain ⟨a1, c1, rfl⟩ := h1.slice
  obtain ⟨a2, c2, rfl⟩ := h2.slice
  obtain ⟨a3, c3, rfl⟩ := h3.slice
  obtain ⟨n, hn⟩ : ∃ n, n = L.length := ⟨_, rfl⟩
  obtain ⟨m, hm⟩ : ∃ m, m = ws.length := ⟨_, rfl⟩
  obtain ⟨k, hk⟩ : ∃ k, k = vs.length := ⟨_, rfl⟩
  have hn64 := g1.1
  have hm64 := g3.1
  rw [← hn] at H1 HRO HRR HCC HCR hn64 ⊢
  rw [← hm] at H3 HRO HRR hm64 ⊢
  rw [← hk] at H2 HRO HRR ⊢
  have HN := Hid.mk hn
  have HM := Hid.mk hm
  clear h1 h2 h3 g1 g2 g3 hn hm hk hce
  go_enter Try.func4, Try.ntmps4
  go_wp2_with fail
  go_loopw [7] (fun c wr => ∃ i : Nat, i ≤ m ∧ i ≤ 41 ∧ c = .int .i64 i ∧ (∀ (j : Nat) t, j < i → ws[j]? = some t → t.length ≤ 4096) ∧ w = wr) (fun c _ => 42 - (intOf c).toNat)
  case atStart => exact ⟨0, Nat.zero_le _, by omega, rfl, fun j t hj => absurd hj (by omega), rfl⟩
  case round =>
    obtain ⟨i, hi, hi41, rfl, hall, rfl⟩ := hrel
    have HALL := Hid.mk hall
    clear hall
    by_cases hlt : i < m
    · have hltI : (i : Int) < (m : Int) := by omega
      obtain ⟨t, ht⟩ : ∃ t, ws[i]? = some t := ⟨_, List.getElem?_eq_getElem (by rw [← HM.out]; exact hlt)⟩
      obtain ⟨g, o, rfl, _, _, hc⟩ := H3.out.get ht
      have q1 := getW hc
      rw [Nat.mul_one] at q1
      have HTT := Hid.mk ht
      have hsize : (ByteArray.mk t.toArray).size = t.length := by simp [ByteArray.size]
      clear hc ht
      by_cases hlong : 4096 < t.length
      · have hlI : (4096 : Int) < (t.length : Int) := by omega
        go_wp2_with fail
        refine (HCAW.out w).mono ?_
        rintro e w1 ⟨rfl, hb⟩
        go_wp2
        go_ret
        exact ⟨rfl, hb⟩
      · have hlI : ¬ (4096 : Int) < (t.length : Int) := by omega
        by_cases h40 : 40 < i
        · have h40I : (40 : Int) < (i : Int) := by omega
          go_wp2_with fail
          refine (HCAW.out w).mono ?_
          rintro e w1 ⟨rfl, hb⟩
          go_wp2
          go_ret
          exact ⟨rfl, hb⟩
        · have h40I : ¬ (40 : Int) < (i : Int) := by omega
          have HA2 : Hid (∀ (j : Nat) t', j < i + 1 → ws[j]? = some t' → t'.length ≤ 4096) := Hid.mk (fun j t' hj ht' => by
            by_cases e : j = i
            · subst e
              rw [HTT.out] at ht'
              rw [← Option.some.inj ht']
              omega
            · exact HALL.out j t' (by omega) ht')
          go_wp2
          go_roundw
          case rel => exact ⟨i + 1, by omega, by omega, by go_num, HA2.out, by trivial⟩
          case measure => simp [intOf]; omega
    · have hltI : ¬ (i : Int) < (m : Int) := by omega
      have HS : Hid (∀ s ∈ ws, s.length ≤ 4096) := Hid.mk (fun s hs => by
        obtain ⟨j, hj⟩ := List.getElem?_of_mem hs
        exact HALL.out j s (by have := (List.getElem?_eq_some_iff.1 hj).1; have := HM.out; omega) hj)
      have C1 := Hid.mk (HRO.out HS.out)
      have C2 := Hid.mk (HRR.out HS.out)
      clear hi hi41 hlt
      go_wp2_with fail
      refine C1.out.mono ?_
      rintro e w1 ⟨⟨ra, rn, rc, rfl, hrn, hr1⟩, hb1⟩
      have HR1 := Hid.mk hr1
      have HRN1 := Hid.mk hrn
      have HB1 := Hid.mk hb1
      clear hr1 hrn hb1
      go_wp2_with fail
      refine (C2.out w1 HB1.out).mono ?_
      rintro e w2 ⟨⟨sa, sn, sc, rfl, hsn, hs1⟩, hb2⟩
      have HR2 := Hid.mk hs1
      have HRN2 := Hid.mk hsn
      have HB2 : Hid (Below w.heap.size w w2) := Hid.mk (HB1.out.trans (hb2.mono HB1.out.size))
      have HSM : Hid (Calls Try.prog 9 #[.slice ra rn rc, .slice sa sn sc] w2 fun e w' => e = .returned (.bool true) ∧ Below w2.heap.size w2 w') := Hid.mk (by
        have := rSameZ_any (HR1.out.below hb2) HR2.out (by omega)
        rw [decide_eq_true rfl] at this
        exact this)
      have C3 := Hid.mk (HCC.out w2 HB2.out)
      have C4 := Hid.mk (HCR.out w2 HB2.out)
      obtain ⟨er, her⟩ : ∃ er, er = rouR L vs ws := ⟨_, rfl⟩
      rw [← her] at hRr ⊢
      have hne1 : (er != er) = false := by simp
      have hne2 : (ca != ca) = false := by simp
      have hne3 : (cb != cb) = false := by simp
      clear hs1 hsn hb2 her
      go_wp2_with fail
      refine C3.out.mono ?_
      rintro e wq ⟨rfl, hw⟩
      rw [hw]
      clear hw
      go_wp2_with fail
      refine C4.out.mono ?_
      rintro e wq ⟨rfl, hw⟩
      rw [hw]
      clear hw
      go_wp2_with fail
      refine HSM.out.mono ?_
      rintro e w3 ⟨rfl, hb3⟩
      have HB3 : Hid (Below w.heap.size w w3) := Hid.mk (HB2.out.trans (hb3.mono HB2.out.size))
      clear hb3
      go_wp2_with fail
      go_loopw [16] (fun c wr => ∃ j : Nat, j ≤ m ∧ c = .int .i64 j ∧ Below w.heap.size w wr) (fun c _ => m - (intOf c).toNat)
      case atStart => exact ⟨0, Nat.zero_le _, rfl, HB3.out⟩
      case round =>
        obtain ⟨j, hj, rfl, hbw⟩ := hrel
        obtain ⟨wx, hwx⟩ : ∃ wx, wx = wr := ⟨_, rfl⟩
        subst hwx
        have HBW := Hid.mk hbw
        have hsx : w.heap.size ≤ wx.heap.size := hbw.size
        clear hbw
        by_cases hjm : j < m
        · have hjmI : (j : Int) < (m : Int) := by omega
          by_cases hjn : j < n
          · have hjnI : (j : Int) < (n : Int) := by omega
            obtain ⟨t, ht⟩ : ∃ t, ws[j]? = some t := ⟨_, List.getElem?_eq_getElem (by rw [← HM.out]; exact hjm)⟩
            obtain ⟨s, hs⟩ : ∃ s, L[j]? = some s := ⟨_, List.getElem?_eq_getElem (by rw [← HN.out]; exact hjn)⟩
            have htl := HS.out t (List.mem_of_getElem? ht)
            have hsize : (ByteArray.mk t.toArray).size = t.length := by simp [ByteArray.size]
            obtain ⟨g1, o1, e1, _, _, _⟩ := H1.out.get hs
            obtain ⟨g3, o3, e3, _, _, _⟩ := H3.out.get ht
            subst e1 e3
            have HKC : Hid (∀ W, Below w.heap.size w W → W.cell? ⟨g1, o1 + j, none⟩ = some (.int .i64 s) ∧ W.cell? ⟨g3, o3 + j, none⟩ = some (.string ⟨t.toArray⟩)) := Hid.mk (fun W hb => by
              obtain ⟨g1', o1', e1, _, _, d1⟩ := (H1.out.below hb).get hs
              obtain ⟨g3', o3', e3, _, _, d3⟩ := (H3.out.below hb).get ht
              injection e1 with e1; injection e1 with e1 e1b
              injection e3 with e3; injection e3 with e3 e3b
              subst e1 e1b e3 e3b
              have q1 := getZ d1
              have q3 := getW d3
              rw [Nat.mul_one] at q1 q3
              exact ⟨q1, q3⟩)
            obtain ⟨y, hy⟩ : ∃ y, y = partM ⟨t.toArray⟩ s := ⟨_, rfl⟩
            have CP : Hid (∀ u, Calls Try.prog 14 #[.string ⟨t.toArray⟩, .int .i64 s] u fun e w' => e = .returned (.int .i64 y) ∧ Below u.heap.size u w') := Hid.mk (fun u => by rw [hy]; exact part_any _ s u (by rw [hsize]; omega))
            have CR : Hid (∀ u, Calls Try.prog 15 #[.string ⟨t.toArray⟩, .int .i64 s] u fun e w' => e = .returned (.int .i64 y) ∧ w' = u) := Hid.mk (fun u => by rw [hy]; exact rPart_any _ s u (by rw [hsize]; omega))
            have hyy : (y != y) = false := by simp
            have HD : Hid (Below w.heap.size w wx.drew) := Hid.mk HBW.out.drew
            clear ht hs hy htl hsize
            go_wp2_with fail
            go_region_held3 (fun u => u.cell? ⟨g1, o1 + j, none⟩ = some (.int .i64 s) ∧ u.cell? ⟨g3, o3 + j, none⟩ = some (.string ⟨t.toArray⟩))
              (first | with_reducible exact HKC.out _ h5 | with_reducible exact HKC.out _ HD.out)
              (first
                | (go_at_call 14; with_reducible refine (CP.out wx.drew).mono ?_; rintro e w5 ⟨rfl, hb5⟩; have h5 := HD.out.trans (hb5.mono HD.out.size))
                | (go_at_call 15; with_reducible refine (CR.out w5).mono ?_; rintro e w6 ⟨rfl, h6⟩; rw [h6]; clear h6)
                | (go_at_call 15; with_reducible refine (CR.out wx.drew).mono ?_; rintro e w6 ⟨rfl, h6⟩; rw [h6]; clear h6))
            all_goals (
              have HB5 := Hid.mk h5
              clear h5 hb5
              go_wp2
              go_roundw
              case rel => exact ⟨j + 1, by omega, by go_num, HB5.out⟩
              case measure => simp [intOf]; omega)
          · have hjnI : ¬ (j : Int) < (n : Int) := by omega
            go_wp2_with fail
            refine (HCAW.out wx).mono ?_
            rintro e w1 ⟨rfl, hb⟩
            have HB := Hid.mk (HBW.out.trans (hb.mono hsx))
            clear hb
            go_wp2
            go_ret
            exact ⟨rfl, HB.out⟩
        · have hjmI : ¬ (j : Int) < (m : Int) := by omega
          go_wp2_with fail
          refine (HCAW.out wx).mono ?_
          rintro e w1 ⟨rfl, hb⟩
          have HB := Hid.mk (HBW.out.trans (hb.mono hsx))
          clear hb
          go_wp2
          go_ret
          exact ⟨rfl, HB.out⟩
end Go.Proofs.Ytojjepkmnifngaa
