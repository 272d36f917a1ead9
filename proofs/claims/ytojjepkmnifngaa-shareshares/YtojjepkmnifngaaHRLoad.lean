/- Loads: the document's; whether there are few atoms of few numbers. -/
import Derived.Test.YtojjepkmnifngaaHAwake
namespace Go.Proofs.Ytojjepkmnifngaa
open Go.RowKit

set_option maxRecDepth 100000 in
set_option maxHeartbeats 1000000 in
theorem rIn_any {S : Nat → Prop} {w : World} {v : Value} {L : List Int} (h : IntZ S w v L) (hl : L.length ≤ 9223372036854775807) (z : Int) :
    Calls Try.prog 32 #[v, .int .i64 z] w fun e w' => e = .returned (.bool (decide (z ∈ L))) ∧ Below w.heap.size w w' := by
  obtain ⟨ao, cap, rfl⟩ := h.slice
  have H := Hid.mk h
  obtain ⟨n, hn⟩ : ∃ n, n = L.length := ⟨_, rfl⟩
  rw [← hn] at hl H ⊢
  have HN := Hid.mk hn
  obtain ⟨ans, hans⟩ : ∃ a, a = decide (z ∈ L) := ⟨_, rfl⟩
  rw [← hans]
  have HA := Hid.mk hans
  clear h hn hans
  go_enter Try.func32, Try.ntmps32
  go_wp2_with fail
  go_loopw [5] (fun c wr => ∃ i : Nat, i ≤ n ∧ c = .int .i64 i ∧ z ∉ L.take i ∧ wr = w) (fun c _ => n - (intOf c).toNat)
  case atStart => exact ⟨0, Nat.zero_le _, rfl, by simp, rfl⟩
  case round =>
    obtain ⟨i, hi, rfl, hall, rfl⟩ := hrel
    have HAll := Hid.mk hall
    clear hall
    by_cases hlt : i < n
    · have hltI : (i : Int) < (n : Int) := by omega
      obtain ⟨x, hx⟩ : ∃ x, L[i]? = some x := ⟨_, List.getElem?_eq_getElem (by rw [← HN.out]; exact hlt)⟩
      obtain ⟨g, off, rfl, _, _, hcell⟩ := H.out.get hx
      have q0 := getZ hcell
      rw [Nat.mul_one] at q0
      have HX := Hid.mk hx
      clear hx hcell
      by_cases e : x = z
      · subst e
        have HT : Hid (ans = true) := Hid.mk (by rw [HA.out]; exact decide_eq_true (List.mem_of_getElem? HX.out))
        go_wp2
        go_ret
        exact ⟨by rw [HT.out]; rfl, Below.refl _ _⟩
      · obtain ⟨e1, e2⟩ := not_both e
        have HA2 : Hid (z ∉ L.take (i + 1)) := Hid.mk (by
          rw [List.take_add_one, HX.out]
          intro h
          rcases List.mem_append.1 h with h | h
          · exact HAll.out h
          · simp at h; exact e h.symm)
        clear e
        go_wp2
        go_roundw
        case rel => exact ⟨i + 1, by omega, by go_num, HA2.out, by trivial⟩
        case measure => simp [intOf]; omega
    · have hltI : ¬ (i : Int) < (n : Int) := by omega
      have HF : Hid (ans = false) := Hid.mk (by
        rw [HA.out]
        refine decide_eq_false (fun h => HAll.out ?_)
        rw [List.take_of_length_le (by rw [← HN.out]; omega)]
        exact h)
      go_wp2
      go_ret
      exact ⟨by rw [HF.out]; rfl, Below.refl _ _⟩
theorem int_take {S : Nat → Prop} {w : World} {ao : Option Addr} {cap : Nat} {L : List Int} (h : IntZ S w (.slice ao L.length cap) L) (n : Nat) (hn : n ≤ L.length) : IntZ S w (.slice ao n cap) (L.take n) := by
  obtain ⟨ao', cap', e, h⟩ := h
  injection e with e1 e2 e3
  subst e1 e3
  refine ⟨ao, cap, by rw [List.length_take, Nat.min_eq_left hn], ?_⟩
  by_cases h0 : n = 0
  · subst h0; left; simp
  rcases h with h | ⟨g, off, e1, hs, hl, hc⟩
  · left; rw [h]; simp
  · right
    refine ⟨g, off, e1, hs, hl, fun j x hx c u hu => hc j x ?_ c u hu⟩
    have hj := (List.getElem?_eq_some_iff.1 hx).1
    rw [List.length_take] at hj
    rw [List.getElem?_take_of_lt (by omega)] at hx
    exact hx
theorem kOf_in {L l : List Int} {x : Int} (h : x ∈ l) : kOf L (onceL (l ++ [x])) = kOf L (onceL l) := by
  rw [onceL_snoc, onceF, if_pos ((mem_onceL l x).2 h)]
theorem kOf_out {L l : List Int} {x : Int} (h : ¬ x ∈ l) : kOf L (onceL (l ++ [x])) = kOf L (onceL l) * gI L x := by
  rw [onceL_snoc, onceF, if_neg (fun g => h ((mem_onceL l x).1 g)), kOf_snoc]
set_option maxHeartbeats 8000000 in
set_option maxRecDepth 100000 in
theorem rLoad_any {S T : Nat → Prop} {w : World} {v1 v2 v3 : Value} {L : List Int} {G : List Vz} {zs : List Int} (h1 : IntZ S w v1 L) (h2 : AtmS T w v2 G) (h3 : IntZ T w v3 zs) (hL : okL L = true) (hA : FitA L.length (zipA G zs)) (hl : zs.length = G.length) (h12 : zs.length ≤ 12) :
    Calls Try.prog 20 #[v1, v2, v3] w fun e w' => e = .returned (.int .i64 (loadP L (onceA (zipA G zs)))) ∧ Below w.heap.size w w' := by
  obtain ⟨a1, c1, rfl⟩ := h1.slice
  obtain ⟨a2, c2, rfl⟩ := h2.sl.slice
  obtain ⟨a3, c3, rfl⟩ := h3.slice
  have H1 := Hid.mk h1
  have H2 := Hid.mk h2
  have H3 := Hid.mk h3
  have HL := Hid.mk hL
  have HA := Hid.mk hA
  rw [hl] at H3 h12 ⊢
  obtain ⟨n, hn⟩ : ∃ n, n = L.length := ⟨_, rfl⟩
  obtain ⟨m, hm⟩ : ∃ m, m = G.length := ⟨_, rfl⟩
  rw [← hn] at H1 ⊢
  rw [← hm] at H2 H3 h12 ⊢
  have HN := Hid.mk hn
  have HM := Hid.mk hm
  have HM3 : Hid (m = zs.length) := Hid.mk (by rw [hm, hl])
  obtain ⟨ans, hans⟩ : ∃ a, a = loadP L (onceA (zipA G zs)) := ⟨_, rfl⟩
  rw [← hans]
  have HAN := Hid.mk hans
  have hn16 : n ≤ 16 := by rw [hn]; exact (okL_iff.1 hL).1
  clear h1 h2 h3 hL hA hn hm hans hl
  go_enter Try.func20, Try.ntmps20
  go_wp2_with fail
  go_loopw [7, 8] (fun s c wr => ∃ i : Nat, i ≤ m ∧ c = .int .i64 i ∧ s = .int .i64 (loadP L (onceA ((zipA G zs).take i))) ∧ Below w.heap.size w wr) (fun _ c _ => m - (intOf c).toNat)
  case atStart => exact ⟨0, Nat.zero_le _, rfl, rfl, Below.refl _ _⟩
  case round =>
    obtain ⟨i, hi, rfl, rfl, hbw⟩ := hrel
    obtain ⟨wx, hwx⟩ : ∃ wx, wx = wr := ⟨_, rfl⟩
    subst hwx
    have HBW := Hid.mk hbw
    obtain ⟨hr0, hr1⟩ := load_range (A := (zipA G zs).take i) (fun a ha => HA.out a (List.mem_of_mem_take ha)) HL.out
    have hr2 : loadP L (onceA ((zipA G zs).take i)) ≤ 1048576 * 12 := by
      have : ((((zipA G zs).take i).length : Nat) : Int) ≤ 12 := by rw [List.length_take]; omega
      omega
    obtain ⟨sm, hsm⟩ : ∃ s, s = loadP L (onceA ((zipA G zs).take i)) := ⟨_, rfl⟩
    rw [← hsm] at hr0 hr2 ⊢
    have HSM := Hid.mk hsm
    clear hbw hr1 hsm
    by_cases hlt : i < m
    · have hltI : (i : Int) < (m : Int) := by omega
      obtain ⟨p, hp⟩ : ∃ p, G[i]? = some p := ⟨_, List.getElem?_eq_getElem (by rw [← HM.out]; exact hlt)⟩
      obtain ⟨z, hz⟩ : ∃ z, zs[i]? = some z := ⟨_, List.getElem?_eq_getElem (by rw [← HM3.out]; exact hlt)⟩
      obtain ⟨hvr, hz0, hz1⟩ := HA.out _ (zip_mem hp hz)
      have HSN : Hid (loadP L (onceA ((zipA G zs).take (i + 1))) = sm + upI z (kOf L (onceL p.2))) := Hid.mk (by
        rw [take_snoc (zip_at hp hz), HSM.out]
        unfold onceA
        rw [List.map_append]
        exact loadP_snoc _ _ _)
      have hel := H2.out.el p (List.mem_of_getElem? hp)
      have hle := H2.out.le p (List.mem_of_getElem? hp)
      have HC2 : Hid (∀ W, Below w.heap.size w W → ∃ g o, a2 = some ⟨g, o, none⟩ ∧ W.cell? ⟨g, o + i, none⟩ = some p.1) := Hid.mk (fun W hb => by
        obtain ⟨g, o, e, _, _, d⟩ := (H2.out.sl.below hb).get hp
        have q := getA d
        rw [Nat.mul_one] at q
        exact ⟨g, o, e, q⟩)
      have HC3 : Hid (∀ W, Below w.heap.size w W → ∃ g o, a3 = some ⟨g, o, none⟩ ∧ W.cell? ⟨g, o + i, none⟩ = some (.int .i64 z)) := Hid.mk (fun W hb => by
        obtain ⟨g, o, e, _, _, d⟩ := (H3.out.below hb).get hz
        have q := getZ d
        rw [Nat.mul_one] at q
        exact ⟨g, o, e, q⟩)
      obtain ⟨pv, pl⟩ := p
      simp only at hvr hz0 hz1 HSN hel hle HC2
      obtain ⟨pa, pc, hpv⟩ := hel.slice
      subst hpv
      obtain ⟨xo, xc, ecap, hcap⟩ := hle.2
      injection ecap with ec1 ec2 ec3
      subst ec1 ec3
      have HEL := Hid.mk hel
      have HVR := Hid.mk hvr
      have hpl := hle.1
      have HTK : Hid (∀ W j, Below w.heap.size w W → j ≤ pl.length → IntZ T W (.slice pa j pc) (pl.take j)) := Hid.mk (fun W j hb hj => int_take (hel.below hb) j hj)
      obtain ⟨np, hnp⟩ : ∃ np, np = pl.length := ⟨_, rfl⟩
      rw [← hnp] at HEL HC2 HTK hcap hpl
      have HNP := Hid.mk hnp
      clear hp hz hel hle hnp hvr
      obtain ⟨g2, o2, e2, _⟩ := HC2.out wx HBW.out
      obtain ⟨g3, o3, e3, _⟩ := HC3.out wx HBW.out
      subst e2 e3
      have HQ2 : Hid (∀ W, Below w.heap.size w W → W.cell? ⟨g2, o2 + i, none⟩ = some (.slice pa np pc)) := Hid.mk (fun W hb => by
        obtain ⟨g, o, e, q⟩ := HC2.out W hb
        injection e with e; injection e with e e'
        subst e e'
        exact q)
      have HQ3 : Hid (∀ W, Below w.heap.size w W → W.cell? ⟨g3, o3 + i, none⟩ = some (.int .i64 z)) := Hid.mk (fun W hb => by
        obtain ⟨g, o, e, q⟩ := HC3.out W hb
        injection e with e; injection e with e e'
        subst e e'
        exact q)
      clear HC2 HC3
      go_wp2_with fail
      go_loopw [9, 10] (fun s c wr => ∃ j : Nat, j ≤ np ∧ c = .int .i64 j ∧ s = .int .i64 (kOf L (onceL (pl.take j))) ∧ Below w.heap.size w wr) (fun _ c _ => np - (intOf c).toNat)
      case atStart => exact ⟨0, Nat.zero_le _, rfl, rfl, HBW.out⟩
      case round =>
        obtain ⟨j, hj, rfl, rfl, hby⟩ := hrel
        obtain ⟨wy, hwy⟩ : ∃ wy, wy = wr := ⟨_, rfl⟩
        subst hwy
        have HBY := Hid.mk hby
        clear hby
        obtain ⟨hk1, hk2⟩ := fitD_k (L := L) (d := onceL (pl.take j)) HL.out (onceL_nodup _) (fun v hv => HVR.out v (List.mem_of_mem_take ((mem_onceL _ _).1 hv)))
        obtain ⟨kk, hkk⟩ : ∃ k, k = kOf L (onceL (pl.take j)) := ⟨_, rfl⟩
        rw [← hkk] at hk1 hk2 ⊢
        have HKK := Hid.mk hkk
        clear hkk
        have qy2 := HQ2.out wy HBY.out
        by_cases hltj : j < np
        · have hltjI : (j : Int) < (np : Int) := by omega
          obtain ⟨x, hx⟩ : ∃ x, pl[j]? = some x := ⟨_, List.getElem?_eq_getElem (by rw [← HNP.out]; exact hltj)⟩
          obtain ⟨hx0, hx1⟩ := HVR.out x (List.mem_of_getElem? hx)
          rw [← HN.out] at hx1
          obtain ⟨y, rfl⟩ : ∃ y : Nat, x = (y : Int) := ⟨x.toNat, by omega⟩
          have hyn : y < n := by omega
          obtain ⟨s, hs⟩ : ∃ s, L[y]? = some s := ⟨_, List.getElem?_eq_getElem (by rw [← HN.out]; exact hyn)⟩
          obtain ⟨hs1, hs2⟩ := okL_mem HL.out (List.mem_of_getElem? hs)
          have hgs : gI L (y : Int) = s := gI_at (by rw [Int.toNat_natCast]; exact hs)
          obtain ⟨g4, o4, e4, _, _, _⟩ := (HEL.out.below HBY.out).get hx
          obtain ⟨g1, o1, e1, _, _, _⟩ := (H1.out.below HBY.out).get hs
          have HQ4 : Hid (∀ W, Below w.heap.size w W → W.cell? ⟨g4, o4 + j, none⟩ = some (.int .i64 (y : Int))) := Hid.mk (fun W hb => by
            obtain ⟨g, o, e, _, _, d⟩ := (HEL.out.below hb).get hx
            rw [e4] at e
            injection e with e; injection e with e e'
            subst e e'
            have q := getZ d
            rw [Nat.mul_one] at q
            exact q)
          have HQ1 : Hid (∀ W, Below w.heap.size w W → W.cell? ⟨g1, o1 + y, none⟩ = some (.int .i64 s)) := Hid.mk (fun W hb => by
            obtain ⟨g, o, e, _, _, d⟩ := (H1.out.below hb).get hs
            rw [e1] at e
            injection e with e; injection e with e e'
            subst e e'
            have q := getZ d
            rw [Nat.mul_one] at q
            exact q)
          have hmul : 0 ≤ kk * s ∧ kk * s ≤ 64 * 64 := ⟨Int.mul_nonneg (by omega) (by omega), Int.mul_le_mul hk2 hs2 (by omega) (by omega)⟩
          obtain ⟨hm0, hm1⟩ := hmul
          have HCI := Hid.mk (rIn_any (HTK.out wy.drew j HBY.out.drew (by omega)) (by rw [List.length_take]; omega) (y : Int))
          have HT1 := Hid.mk (take_snoc hx)
          have hjc : j ≤ pc := by omega
          subst e4 e1
          clear hs
          by_cases hin : (y : Int) ∈ pl.take j
          · rw [decide_eq_true hin] at HCI
            have HK2 : Hid (kOf L (onceL (pl.take (j + 1))) = kk) := Hid.mk (by rw [HT1.out, kOf_in hin, HKK.out])
            clear hin hx hgs
            go_wp2_with fail
            go_region_held3 (fun u => u.cell? ⟨g2, o2 + i, none⟩ = some (.slice (some ⟨g4, o4, none⟩) np pc) ∧ u.cell? ⟨g4, o4 + j, none⟩ = some (.int .i64 (y : Int)))
              (first | with_reducible exact ⟨HQ2.out _ HBY.out.drew, HQ4.out _ HBY.out.drew⟩ | with_reducible exact ⟨HQ2.out _ h3, HQ4.out _ h3⟩)
              (first | (go_at_call 32; refine HCI.out.mono ?_; rintro e w3 ⟨rfl, hb3⟩; have h3 : Below w.heap.size w w3 := HBY.out.drew.trans (hb3.mono HBY.out.size)))
            have HB3 := Hid.mk h3
            clear h3 hb3
            go_wp2
            go_roundw
            case rel => exact ⟨j + 1, by omega, by go_num, by rw [HK2.out], HB3.out⟩
            case measure => simp [intOf]; omega
          · rw [decide_eq_false hin] at HCI
            have HK2 : Hid (kOf L (onceL (pl.take (j + 1))) = kk * s) := Hid.mk (by rw [HT1.out, kOf_out hin, HKK.out, hgs])
            clear hin hx hgs
            go_wp2_with fail
            go_region_held3 (fun u => u.cell? ⟨g2, o2 + i, none⟩ = some (.slice (some ⟨g4, o4, none⟩) np pc) ∧ u.cell? ⟨g4, o4 + j, none⟩ = some (.int .i64 (y : Int)))
              (first | with_reducible exact ⟨HQ2.out _ HBY.out.drew, HQ4.out _ HBY.out.drew⟩ | with_reducible exact ⟨HQ2.out _ h3, HQ4.out _ h3⟩)
              (first | (go_at_call 32; refine HCI.out.mono ?_; rintro e w3 ⟨rfl, hb3⟩; have h3 : Below w.heap.size w w3 := HBY.out.drew.trans (hb3.mono HBY.out.size)))
            have HB3 := Hid.mk h3
            have p1 := HQ1.out _ h3
            have p2 := HQ2.out _ h3
            have p4 := HQ4.out _ h3
            clear h3 hb3
            go_wp2
            go_roundw
            case rel => exact ⟨j + 1, by omega, by go_num, by rw [HK2.out], HB3.out⟩
            case measure => simp [intOf]; omega
        · have hltjI : ¬ (j : Int) < (np : Int) := by omega
          have HKE : Hid (kk = kOf L (onceL pl)) := Hid.mk (by rw [HKK.out, List.take_of_length_le (by rw [← HNP.out]; omega)])
          obtain ⟨hu0, hu1⟩ := upI_range hz0 hz1 hk1
          have hdiv : (z + kk - 1).tdiv kk = upI z kk := by rw [Int.tdiv_eq_ediv_of_nonneg (by omega)]; rfl
          obtain ⟨q, hq⟩ : ∃ q, q = upI z kk := ⟨_, rfl⟩
          rw [← hq] at hu0 hu1 hdiv
          have HQ : Hid (loadP L (onceA ((zipA G zs).take (i + 1))) = sm + q) := Hid.mk (by rw [HSN.out, hq, HKE.out])
          have qy3 := HQ3.out wy HBY.out
          clear hq
          go_wp2
          go_roundw
          case rel => exact ⟨i + 1, by omega, by go_num, by rw [HQ.out], HBY.out⟩
          case measure => simp [intOf]; omega
    · have hltI : ¬ (i : Int) < (m : Int) := by omega
      have HT : Hid (ans = sm) := Hid.mk (by
        rw [HAN.out, HSM.out, List.take_of_length_le]
        unfold zipA
        rw [List.length_zip, List.length_map, ← HM.out, ← HM3.out]
        omega)
      go_wp2
      go_ret
      exact ⟨by rw [HT.out]; rfl, HBW.out⟩
def IsBoolH (e : Ending) : Prop := ∃ b : Bool, e = .returned (.bool b)
set_option maxRecDepth 100000 in
set_option maxHeartbeats 1000000 in
theorem light_any {S : Nat → Prop} {w : World} {v : Value} {G : List Vz} (h : AtmS S w v G) :
    Calls Try.prog 5 #[v] w fun e w' => IsBoolH e ∧ Below w.heap.size w w' := by
  obtain ⟨ao, cap, rfl⟩ := h.sl.slice
  have H := Hid.mk h
  obtain ⟨n, hn⟩ : ∃ n, n = G.length := ⟨_, rfl⟩
  rw [← hn] at H ⊢
  have HN := Hid.mk hn
  clear h hn
  go_enter Try.func5, Try.ntmps5
  go_wp2_with fail
  go_loopw [3] (fun c wr => ∃ i : Nat, i ≤ n ∧ c = .int .i64 i ∧ Below w.heap.size w wr) (fun c _ => n - (intOf c).toNat)
  case atStart => exact ⟨0, Nat.zero_le _, rfl, Below.refl _ _⟩
  case round =>
    obtain ⟨i, hi, rfl, hbw⟩ := hrel
    by_cases hlt : i < n
    · have hltI : (i : Int) < (n : Int) := by omega
      obtain ⟨p, hp⟩ : ∃ p, G[i]? = some p := ⟨_, List.getElem?_eq_getElem (by rw [← HN.out]; exact hlt)⟩
      obtain ⟨g, o, e, _, _, d⟩ := (H.out.sl.below hbw).get hp
      have q := getA d
      rw [Nat.mul_one] at q
      obtain ⟨pa, pc, hpv⟩ := (H.out.el p (List.mem_of_getElem? hp)).slice
      have hpl := (H.out.le p (List.mem_of_getElem? hp)).1
      rw [hpv] at q
      obtain ⟨np, hnp⟩ : ∃ np, np = p.2.length := ⟨_, rfl⟩
      rw [← hnp] at q hpl
      subst e
      have HB := Hid.mk hbw
      clear hp d hpv hnp hbw
      by_cases h20 : 20 < i
      · have h20I : (20 : Int) < (i : Int) := by omega
        go_wp2
        go_ret
        exact ⟨⟨_, rfl⟩, HB.out⟩
      · have h20I : ¬ (20 : Int) < (i : Int) := by omega
        by_cases hp20 : 20 < np
        · have hp20I : (20 : Int) < (np : Int) := by omega
          go_wp2
          go_ret
          exact ⟨⟨_, rfl⟩, HB.out⟩
        · have hp20I : ¬ (20 : Int) < (np : Int) := by omega
          go_wp2
          go_roundw
          case rel => exact ⟨i + 1, by omega, by go_num, HB.out⟩
          case measure => simp [intOf]; omega
    · have hltI : ¬ (i : Int) < (n : Int) := by omega
      have HB := Hid.mk hbw
      clear hbw
      go_wp2
      go_ret
      exact ⟨⟨_, rfl⟩, HB.out⟩
end Go.Proofs.Ytojjepkmnifngaa
