/- Words of all variables have the cell of their parts' number. -/
import Derived.Test.YtbknlmalfkpenaaHAwake
namespace Go.Proofs.Ytbknlmalfkpenaa
open Go.RowKit

/-- The parts of words of all variables. -/
def ptsL (L : List Int) (ws : List (List UInt8)) : List Int := (L.zip ws).map fun p => partM ⟨p.2.toArray⟩ p.1
theorem pts_at {L : List Int} {ws : List (List UInt8)} {i : Nat} {s : Int} {t : List UInt8} (h1 : L[i]? = some s) (h2 : ws[i]? = some t) : (ptsL L ws)[i]? = some (partM ⟨t.toArray⟩ s) := by
  unfold ptsL
  rw [List.getElem?_map, (List.getElem?_zip_eq_some (z := (s, t))).2 ⟨h1, h2⟩]
  rfl
theorem pts_len {L : List Int} {ws : List (List UInt8)} (h : L.length ≤ ws.length) : (ptsL L ws).length = L.length := by
  unfold ptsL
  rw [List.length_map, List.length_zip]
  omega
theorem rng_at {n i : Nat} (h : i < n) : (rngI n)[i]? = some (i : Int) := by
  unfold rngI
  rw [Int.toNat_natCast, List.getElem?_map, List.getElem?_range h]
  rfl
theorem rng_len (n : Nat) : (rngI n).length = n := by simp [rngI]
theorem rng_take {n i : Nat} (h : i ≤ n) : (rngI n).take i = rngI i := by
  unfold rngI
  rw [← List.map_take, List.take_range, Int.toNat_natCast, Int.toNat_natCast, Nat.min_eq_left h]
theorem rng_snoc (i : Nat) : rngI ((i + 1 : Nat) : Int) = rngI (i : Int) ++ [(i : Int)] := by
  unfold rngI
  rw [Int.toNat_natCast, Int.toNat_natCast, List.range_succ, List.map_append]
  rfl
theorem prs_mem {L vs : List Int} {ws : List (List UInt8)} {p : Int × Int} (h : p ∈ prs L vs ws) : ∃ (i : Nat) (t : List UInt8), vs[i]? = some p.1 ∧ ws[i]? = some t ∧ p.2 = partM ⟨t.toArray⟩ (gI L p.1) := by
  unfold prs at h
  obtain ⟨q, hq, rfl⟩ := List.mem_map.1 h
  obtain ⟨i, hi⟩ := List.getElem?_of_mem hq
  rw [List.getElem?_zip_eq_some] at hi
  exact ⟨i, q.2, hi.1, hi.2, rfl⟩
theorem mem_prs {L vs : List Int} {ws : List (List UInt8)} {i : Nat} {v : Int} {t : List UInt8} (h1 : vs[i]? = some v) (h2 : ws[i]? = some t) : (v, partM ⟨t.toArray⟩ (gI L v)) ∈ prs L vs ws := by
  unfold prs
  exact List.mem_map.2 ⟨(v, t), List.mem_of_getElem? (List.getElem?_zip_eq_some.2 ⟨h1, h2⟩), rfl⟩
theorem bnd_all {L : List Int} {ws : List (List UInt8)} (h : ws.length = L.length) : Bnd (prs L (rngI L.length) ws) (ptsL L ws) := by
  constructor
  · intro p hp
    obtain ⟨i, t, h1, h2, h3⟩ := prs_mem hp
    have hi : i < L.length := by have := (List.getElem?_eq_some_iff.1 h1).1; rw [rng_len] at this; exact this
    rw [rng_at hi] at h1
    have e : p.1 = (i : Int) := (Option.some.inj h1).symm
    rw [h3, e, Int.toNat_natCast]
    have hL : L[i]? = some (L[i]'hi) := List.getElem?_eq_getElem hi
    rw [gI_at (z := (i : Int)) (x := L[i]'hi) (by rw [Int.toNat_natCast]; exact hL)]
    exact pts_at hL h2
  · intro v z hz
    right
    have hv : v < L.length := by have := (List.getElem?_eq_some_iff.1 hz).1; rw [pts_len (by omega)] at this; exact this
    have hL : L[v]? = some (L[v]'hv) := List.getElem?_eq_getElem hv
    have hw : ws[v]? = some (ws[v]'(by omega)) := List.getElem?_eq_getElem (by omega)
    rw [pts_at hL hw] at hz
    rw [← Option.some.inj hz, ← gI_at (L := L) (z := (v : Int)) (x := L[v]'hv) (by rw [Int.toNat_natCast]; exact hL)]
    exact mem_prs (rng_at hv) hw
theorem zip_range {L : List Int} {ws : List (List UInt8)} (hL : okL L = true) (h : ws.length = L.length) : ∀ x ∈ L.zip (ptsL L ws), 0 ≤ x.2 ∧ x.2 < x.1 := by
  intro x hx
  obtain ⟨i, hi⟩ := List.getElem?_of_mem hx
  rw [List.getElem?_zip_eq_some] at hi
  have hv := (List.getElem?_eq_some_iff.1 hi.1).1
  have hw : ws[i]? = some (ws[i]'(by omega)) := List.getElem?_eq_getElem (by omega)
  have h2 := hi.2
  rw [pts_at hi.1 hw] at h2
  rw [← Option.some.inj h2]
  have := okL_mem hL (List.mem_of_getElem? hi.1)
  exact partM_range _ this.1 this.2
theorem route_all {L : List Int} {ws : List (List UInt8)} (hL : okL L = true) (h : ws.length = L.length) : routeL L (prs L (rngI L.length) ws) = [horner (L.zip (ptsL L ws))] := by
  rw [route_eq (okL_iff.1 hL).2.1 (pts_len (by omega)) (bnd_all h) (prs_range hL (fun v hv => mem_rngI.1 hv)), cellsL_one _ (zip_range hL h)]
theorem txt_take {S : Nat → Prop} {w : World} {ao : Option Addr} {cap : Nat} {ws : List (List UInt8)} (h : TxtW S w (.slice ao ws.length cap) ws) (n : Nat) (hn : n ≤ ws.length) : TxtW S w (.slice ao n cap) (ws.take n) := by
  obtain ⟨ao', cap', e, h⟩ := h
  injection e with e1 e2 e3
  subst e1 e3
  refine ⟨ao, cap, by rw [List.length_take, Nat.min_eq_left hn], ?_⟩
  by_cases h0 : n = 0
  · subst h0; left; simp
  rcases h with h | ⟨g, off, e1, hs, hl, hc⟩
  · left; rw [h]; simp
  · right
    refine ⟨g, off, e1, hs, hl, fun j x hx c u hu => hc j x ?_ c u hu⟩
    have hj := (List.getElem?_eq_some_iff.1 hx).1
    rw [List.length_take] at hj
    rw [List.getElem?_take_of_lt (by omega)] at hx
    exact hx
set_option maxHeartbeats 8000000 in
set_option maxRecDepth 100000 in
theorem shareCell_walk (v1 : Value) (L : List Int) (v2 : Value) (ws : List (List UInt8)) (w : World) (h1 : IntZ (fun _ => True) w v1 L) (g1 : L.length ≤ 9223372036854775807 ∧ CapS v1 L.length) (h2 : TxtW (fun _ => True) w v2 ws) (g2 : ws.length ≤ 9223372036854775807 ∧ CapS v2 ws.length) :
    Calls Try.prog 8 #[v1, v2] w fun e w' => e = .returned (.bool true) ∧ Below w.heap.size w w' := by
  obtain ⟨i0, hi0, hz0, hz1, hz2⟩ := info_parts infoZ
  have HCL := Hid.mk (cells_any h1 g1.1)
  obtain ⟨a1, c1, rfl⟩ := h1.slice
  obtain ⟨a2, c2, rfl⟩ := h2.slice
  obtain ⟨ao, cap, e, hcap⟩ := g2.2
  injection e with e1 e2 e3
  subst e1 e3
  have H1 := Hid.mk h1
  have H2 := Hid.mk h2
  have HT : Hid (∀ W, Below w.heap.size w W → L.length ≤ ws.length → TxtW (fun _ => True) W (.slice a2 L.length c2) (ws.take L.length)) := Hid.mk (fun W hW hn => txt_take (h2.below hW) L.length hn)
  have hg1 := g1.1
  have hg2 := g2.1
  by_cases hL : okL L = true
  · have HL := Hid.mk hL
    have hn16 := (okL_iff.1 hL).1
    rw [show cellE L = .tuple #[.int .i64 (prodI L), .int .i64 0] from if_pos hL] at HCL
    obtain ⟨n, hn⟩ : ∃ n, n = L.length := ⟨_, rfl⟩
    obtain ⟨m, hm⟩ : ∃ m, m = ws.length := ⟨_, rfl⟩
    rw [← hn] at H1 HCL HT hn16 hg1 ⊢
    rw [← hm] at H2 HT hg2 hcap ⊢
    have HN := Hid.mk hn
    have HM := Hid.mk hm
    clear h1 h2 g1 g2 hL hn hm
    by_cases hlt : m < n
    · have hltI : (m : Int) < (n : Int) := by omega
      have HA := Hid.mk (awake_any w)
      go_enter Try.func8, Try.ntmps8
      go_wp2_with fail
      refine HCL.out.mono ?_
      rintro e w1 ⟨rfl, h⟩
      rw [h]
      clear h
      go_wp2_with fail
      refine HA.out.mono ?_
      rintro e w1 ⟨rfl, hb⟩
      go_wp2
      go_ret
      exact ⟨rfl, hb⟩
    · have hltI : ¬ (m : Int) < (n : Int) := by omega
      have hnm : n ≤ m := by omega
      go_enter Try.func8, Try.ntmps8
      go_wp2_with fail
      refine HCL.out.mono ?_
      rintro e w1 ⟨rfl, h⟩
      rw [h]
      clear h
      go_wp2_with fail
      go_loopw [7, 8, 9] (fun vl s c wr => ∃ (i : Nat) (u : Value), u = vl ∧ i ≤ n ∧ c = .int .i64 i ∧ (∀ (j : Nat) t, j < i → ws[j]? = some t → t.length ≤ 4096) ∧ s = .int .i64 (horner ((L.zip (ptsL L ws)).take i)) ∧ wr.ownsRow w.heap.size 3 1 u i ((rngI i).flatMap csZ) ∧ Below w.heap.size w wr) (fun _ _ c _ => n - (intOf c).toNat)
      case atStart => exact ⟨0, _, rfl, Nat.zero_le _, rfl, fun j t hj => absurd hj (by omega), rfl, World.ownsRow_nil _ _ _ _, Below.refl _ _⟩
      case round =>
        obtain ⟨i, u, rfl, hi, rfl, hall, rfl, hrow, hbw⟩ := hrel
        obtain ⟨wx, hwx⟩ : ∃ wx, wx = wr := ⟨_, rfl⟩
        subst hwx
        obtain ⟨ua, uc, hu⟩ := own_slice hrow
        subst hu
        have HALL := Hid.mk hall
        have HROW := Hid.mk hrow
        have HBW := Hid.mk hbw
        have hsx : w.heap.size ≤ wx.heap.size := hbw.size
        clear hall hrow hbw
        by_cases hin : i < n
        · have hinI : (i : Int) < (n : Int) := by omega
          have him : i < m := by omega
          have himI : (i : Int) < (m : Int) := by omega
          obtain ⟨s, hs⟩ : ∃ s, L[i]? = some s := ⟨_, List.getElem?_eq_getElem (by rw [← HN.out]; exact hin)⟩
          obtain ⟨t, ht⟩ : ∃ t, ws[i]? = some t := ⟨_, List.getElem?_eq_getElem (by rw [← HM.out]; omega)⟩
          obtain ⟨hs1, hs2⟩ := okL_mem HL.out (List.mem_of_getElem? hs)
          have hzi : (L.zip (ptsL L ws))[i]? = some (s, partM ⟨t.toArray⟩ s) := List.getElem?_zip_eq_some.2 ⟨hs, pts_at hs ht⟩
          have HZS : Hid (horner ((L.zip (ptsL L ws)).take (i + 1)) = horner ((L.zip (ptsL L ws)).take i) * s + partM ⟨t.toArray⟩ s) := Hid.mk (by rw [take_snoc hzi, horner_snoc])
          have hrg : 0 ≤ horner ((L.zip (ptsL L ws)).take i) ∧ horner ((L.zip (ptsL L ws)).take i) < 64 := by
            have h1 := horner_range ((L.zip (ptsL L ws)).take i) (fun x hx => by
              obtain ⟨k, hk⟩ := List.getElem?_of_mem (List.mem_of_mem_take hx)
              rw [List.getElem?_zip_eq_some] at hk
              have hv := (List.getElem?_eq_some_iff.1 hk.1).1
              have hw : ws[k]? = some (ws[k]'(by have := HM.out; have := HN.out; omega)) := List.getElem?_eq_getElem (by have := HM.out; have := HN.out; omega)
              have h2 := hk.2
              rw [pts_at hk.1 hw] at h2
              rw [← Option.some.inj h2]
              have := okL_mem HL.out (List.mem_of_getElem? hk.1)
              exact partM_range _ this.1 this.2)
            rw [List.map_take, List.map_fst_zip (by rw [pts_len (by have := HM.out; have := HN.out; omega)]; exact Nat.le_refl _)] at h1
            have := (okL_iff.1 (ok_take i HL.out)).2.2
            omega
          obtain ⟨hr0, hr1⟩ := hrg
          obtain ⟨x, hx⟩ : ∃ x, x = horner ((L.zip (ptsL L ws)).take i) := ⟨_, rfl⟩
          rw [← hx] at hr0 hr1 HZS ⊢
          obtain ⟨gg1, o1, e1, _, _, d1⟩ := (H1.out.below HBW.out).get hs
          obtain ⟨gg2, o2, e2, _, _, d2⟩ := (H2.out.below HBW.out).get ht
          have q1 := getZ d1
          have q2 := getW d2
          rw [Nat.mul_one] at q1 q2
          have HTT := Hid.mk ht
          subst e1 e2
          by_cases hlong : 4096 < t.length
          · have hlI : (4096 : Int) < (t.length : Int) := by omega
            have HA := Hid.mk (awake_any wx)
            clear hs ht hzi hx d1 d2
            have hsize : (ByteArray.mk t.toArray).size = t.length := by simp [ByteArray.size]
            go_wp2_with fail
            refine HA.out.mono ?_
            rintro e w1 ⟨rfl, hb⟩
            have HB := Hid.mk (HBW.out.trans (hb.mono hsx))
            go_wp2
            go_ret
            exact ⟨rfl, HB.out⟩
          · have hlI : ¬ (4096 : Int) < (t.length : Int) := by omega
            have hsize : (ByteArray.mk t.toArray).size = t.length := by simp [ByteArray.size]
            have HA2 : Hid (∀ (j : Nat) t', j < i + 1 → ws[j]? = some t' → t'.length ≤ 4096) := Hid.mk (fun j t' hj ht' => by
              by_cases e : j = i
              · subst e
                rw [HTT.out] at ht'
                rw [← Option.some.inj ht']
                omega
              · exact HALL.out j t' (by omega) ht')
            have HKC : Hid (∀ W, Below w.heap.size w W → W.cell? ⟨gg1, o1 + i, none⟩ = some (.int .i64 s) ∧ W.cell? ⟨gg2, o2 + i, none⟩ = some (.string ⟨t.toArray⟩)) := Hid.mk (fun W hb => by
              obtain ⟨g1', o1', e1, _, _, d1⟩ := (H1.out.below hb).get hs
              obtain ⟨g3', o3', e3, _, _, d3⟩ := (H2.out.below hb).get ht
              injection e1 with e1; injection e1 with e1 e1b
              injection e3 with e3; injection e3 with e3 e3b
              subst e1 e1b e3 e3b
              have q1 := getZ d1
              have q3 := getW d3
              rw [Nat.mul_one] at q1 q3
              exact ⟨q1, q3⟩)
            have hmul : 0 ≤ x * s ∧ x * s ≤ 64 * 64 := ⟨Int.mul_nonneg hr0 (by omega), Int.mul_le_mul (by omega) hs2 (by omega) (by omega)⟩
            obtain ⟨hm0, hm1⟩ := hmul
            obtain ⟨hp0, hp1⟩ := partM_range ⟨t.toArray⟩ hs1 hs2
            obtain ⟨pt, hpt⟩ : ∃ p, p = partM ⟨t.toArray⟩ s := ⟨_, rfl⟩
            have HPC : Hid (∀ W, Calls Try.prog 20 #[.string ⟨t.toArray⟩, .int .i64 s] W fun e w' => e = .returned (.int .i64 pt) ∧ Below W.heap.size W w') := Hid.mk (fun W => by rw [hpt]; exact part_any _ _ W (by rw [hsize]; omega))
            rw [← hpt] at hp0 hp1 HZS
            have HWM : Hid (IntKind.i64.wrap (x * s) = x * s) := Hid.mk (by rw [IntKind.wrap_i64]; omega)
            have HWR : Hid (IntKind.i64.wrap (x * s + pt) = x * s + pt) := Hid.mk (by rw [IntKind.wrap_i64]; omega)
            clear hs ht hzi hx d1 d2 hpt
            go_wp2_with (at_builtin; refine wpList_append_lies _ rfl _ _ _ rfl w.heap.size 3 i0 _ 1 8 Try.underlying24 hi0 hz0 hz1 hz2 rfl (by decide) (.slice ua i uc) _ _ (by rfl) (HROW.out.alloc _) ⟨wx.heap.size, 0, none⟩ 1 1 (csZ (i : Int)) (by rfl) (by rfl) (World.news_of_block (cs := #[.int .i64 (i : Int)]) (t := 3) (fr := (0, 0)) (heap_alloc_new wx _)) (by simp [Value.oneCell']) (by decide) (by unfold maxLen; omega) (by omega) (by simp; omega) (wx.heap.size + 1) (by simp) ?_)
            intro gg cap2 w9 hown9 hgrow9 _ _
            have HB9 : Hid (Below w.heap.size w w9) := Hid.mk ((HBW.out.alloc HBW.out.size _).grown hgrow9 (by simp; omega) (fun k e => (HROW.out.lt k e).1))
            have HR9 : Hid (w9.ownsRow w.heap.size 3 1 (.slice (some ⟨gg, 0, none⟩) (i + 1) cap2) (i + 1) ((rngI ((i + 1 : Nat) : Int)).flatMap csZ)) := Hid.mk (by
              rw [rng_snoc, List.flatMap_append]
              exact hown9)
            clear hown9 hgrow9 q1 q2
            go_wp2_with fail
            go_region_held3 (fun u => u.cell? ⟨gg1, o1 + i, none⟩ = some (.int .i64 s) ∧ u.cell? ⟨gg2, o2 + i, none⟩ = some (.string ⟨t.toArray⟩))
              (first | with_reducible exact HKC.out _ HB9.out.drew | with_reducible exact HKC.out _ h3)
              (first | (go_at_call 20; refine (HPC.out _).mono ?_; rintro e w3 ⟨rfl, hb3⟩; have h3 : Below w.heap.size w w3 := HB9.out.drew.trans (hb3.mono HB9.out.size)))
            have HB3 := Hid.mk h3
            have HR3 : Hid (w3.ownsRow w.heap.size 3 1 (.slice (some ⟨gg, 0, none⟩) (i + 1) cap2) (i + 1) ((rngI ((i + 1 : Nat) : Int)).flatMap csZ)) := Hid.mk (owns_below (w := w9) HR9.out ⟨hb3.os, hb3.tape, hb3.output, hb3.size, hb3.block⟩)
            clear h3 hb3
            go_wp2
            go_roundw
            case rel => exact ⟨i + 1, _, rfl, by omega, by go_num, HA2.out, by rw [HZS.out, HWM.out, HWR.out], HR3.out, HB3.out⟩
            case measure => simp [intOf]; omega
        · have hinI : ¬ (i : Int) < (n : Int) := by omega
          have e : i = n := by omega
          subst e
          have HWL : Hid ((ws.take i).length = L.length) := Hid.mk (by rw [List.length_take, ← HN.out]; have := HM.out; omega)
          have HS : Hid (∀ s ∈ ws.take i, s.length ≤ 140737488351000) := Hid.mk (fun s hs => by
            obtain ⟨k, hk⟩ := List.getElem?_of_mem hs
            have hk2 := (List.getElem?_eq_some_iff.1 hk).1
            rw [List.length_take] at hk2
            rw [List.getElem?_take_of_lt (by omega)] at hk
            have := HALL.out k s (by omega) hk
            omega)
          have hpz : ptsL L ws = ptsL L (ws.take i) := by
            unfold ptsL
            congr 1
            have eL : L.take i = L := List.take_of_length_le (by rw [← HN.out]; exact Nat.le_refl _)
            rw [show L.zip (ws.take i) = (L.take i).zip (ws.take i) by rw [eL]]
            rw [show (L.take i).zip (ws.take i) = (L.zip ws).take i by simp [List.zip, List.take_zipWith]]
            rw [List.take_of_length_le (by rw [List.length_zip, ← HN.out]; omega)]
          have HX : Hid ((L.zip (ptsL L ws)).take i = L.zip (ptsL L (ws.take i))) := Hid.mk (by
            rw [← hpz, List.take_of_length_le (by rw [List.length_zip, ← HN.out]; omega)])
          obtain ⟨x, hx⟩ : ∃ x, x = horner ((L.zip (ptsL L ws)).take i) := ⟨_, rfl⟩
          rw [← hx]
          have HRO : Hid (routeL L (prs L (rngI (i : Int)) (ws.take i)) = [x]) := Hid.mk (by
            rw [hx, HX.out]
            have := route_all HL.out HWL.out
            rw [← HN.out] at this
            exact this)
          have HASK : Hid (askR L (rngI (i : Int)) (ws.take i).length) := Hid.mk ⟨HL.out, by rw [rng_len, HWL.out, HN.out], by rw [rng_len]; omega, fun v hv => by rw [← HN.out]; exact mem_rngI.1 hv⟩
          have HC : Hid (Calls Try.prog 17 #[.slice a1 i c1, .slice ua i uc, .slice a2 i c2] wx fun e w' => Below wx.heap.size wx w' ∧ ∃ g off c, e = .returned (.tuple #[.slice (some ⟨g, off, none⟩) 1 c, .int .i64 0]) ∧ w'.cell? ⟨g, off, none⟩ = some (.int .i64 x)) := Hid.mk ((route_any (S := fun _ => True) (by exact H1.out.below HBW.out) ((own_int HROW.out (by rw [rng_len])).sub (fun _ _ _ => trivial)) (HT.out wx HBW.out hnm) (by rw [← HN.out]; exact hg1) (by rw [rng_len]; omega) HS.out).mono (fun e w' h => by
            obtain ⟨hb, h⟩ := h
            refine ⟨hb, ?_⟩
            rcases h with ⟨_, v, e1, e2⟩ | ⟨h, _⟩
            · rw [HRO.out] at e2
              obtain ⟨a, c, e3⟩ := e2.slice
              subst e3
              obtain ⟨g, off, e4, _, _, d⟩ := e2.get (j := 0) (x := x) rfl
              have q := getZ d
              subst e4
              exact ⟨g, off, c, e1, by simpa using q⟩
            · exact absurd HASK.out h))
          clear hx hpz
          have hcapI : i ≤ c2 := by omega
          go_wp2_with fail
          refine HC.out.mono ?_
          rintro e w5 ⟨hb5, g5, o5, c5, rfl, q5⟩
          have HB5 := Hid.mk (HBW.out.trans (hb5.mono hsx))
          have HA := Hid.mk (awake_any w5)
          clear hb5
          go_wp2_with fail
          refine HA.out.mono ?_
          rintro e w6 ⟨rfl, hb6⟩
          have HB6 := Hid.mk (HB5.out.trans (hb6.mono HB5.out.size))
          clear hb6
          go_wp2
          go_ret
          exact ⟨rfl, HB6.out⟩
  · rw [show cellE L = .tuple #[.int .i64 0, .int .i64 1] from if_neg hL] at HCL
    have HA := Hid.mk (awake_any w)
    clear hL h1 h2 g1 g2
    go_enter Try.func8, Try.ntmps8
    go_wp2_with fail
    refine HCL.out.mono ?_
    rintro e w1 ⟨rfl, h⟩
    rw [h]
    clear h
    go_wp2_with fail
    refine HA.out.mono ?_
    rintro e w1 ⟨rfl, hb⟩
    go_wp2
    go_ret
    exact ⟨rfl, hb⟩
end Go.Proofs.Ytbknlmalfkpenaa
