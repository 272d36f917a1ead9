/- The parts that words bind variables to. -/
import Derived.Test.YtojjepkmnifngaaHPart
import Derived.Deep.OwnRows
import Derived.OwnWalk
import Derived.Laws.OwnMore
import Derived.Deep.RegionLaw
import Derived.Maps.AppendAt
namespace Go.Proofs.Ytojjepkmnifngaa
open Go.RowKit

/-- A block whose cells are these values. -/
def VRow (w : World) (g : Nat) (t : TypeId) (l : List Value) : Prop := w.heap[g]? = some (.cells l.toArray t (0, 0))
theorem VRow.cell {w : World} {g i : Nat} {t : TypeId} {l : List Value} {v : Value} (h : VRow w g t l) (hi : l[i]? = some v) : w.cell? ⟨g, i, none⟩ = some v ∧ w.frozen? ⟨g, i, none⟩ = false := by
  have h : w.heap[g]? = _ := h
  constructor
  · simp [World.cell?, h, hi]
  · simp [World.frozen?, h]
theorem VRow.set {w : World} {g : Nat} {t : TypeId} {l : List Value} (h : VRow w g t l) (i : Nat) (v : Value) : VRow (w.setCell ⟨g, i, none⟩ v) g t (l.set i v) := by
  unfold VRow at h ⊢
  simp [World.setCell, Array.getElem?_modify, h]
theorem VRow.sl {α : Type} {enc : α → List Value} (hk : ∀ x, (enc x).length = 1) {w : World} {g n : Nat} {t : TypeId} {L : List α} (h : VRow w g t (L.flatMap enc)) (hn : n = L.length) : SlS enc 1 (fun k => k = g) w (.slice (some ⟨g, 0, none⟩) n n) L := by
  refine ⟨_, n, by rw [hn], .inr ⟨g, 0, rfl, rfl, lt_of_block h, fun j x hx c u hu => ?_⟩⟩
  have hc : c = 0 := by have := (List.getElem?_eq_some_iff.1 hu).1; rw [hk] at this; omega
  subst hc
  have h1 := flat_at hk L j 0 x hx (by omega)
  rw [hu] at h1
  have := (h.cell h1).1
  rw [show 0 + j * 1 + 0 = j * 1 + 0 by omega]
  exact this
theorem VRow.below {w w' : World} {g : Nat} {t : TypeId} {l : List Value} (h : VRow w g t l) (hb : Below w.heap.size w w') : VRow w' g t l := (hb.block g (lt_of_block h)).trans h
theorem made_list (z : Value) (n : Nat) : madeCells #[z] n = (List.replicate n z).toArray := by
  apply Array.ext_getElem?
  intro j
  by_cases hj : j < n
  · simp [madeCells, hj, Nat.mod_one]
  · rw [Array.getElem?_eq_none (by simp [madeCells]; omega), Array.getElem?_eq_none (by simp; omega)]
theorem made_row (w : World) (z : Value) (n : Nat) (t : TypeId) : VRow (w.alloc (.cells (madeCells #[z] n) t)) w.heap.size t (List.replicate n z) := by
  unfold VRow
  rw [made_list]
  exact heap_alloc_new _ _
theorem flat_Z (L : List Int) : L.flatMap csZ = L.map (fun z => Value.int .i64 z) := by
  induction L with
  | nil => rfl
  | cons a l ih => rw [List.flatMap_cons, ih]; rfl
theorem VRow.getZ {w : World} {g i : Nat} {l : List Int} {z : Int} (h : VRow w g 3 (l.flatMap csZ)) (hi : l[i]? = some z) : w.cell? ⟨g, i, none⟩ = some (.int .i64 z) ∧ w.frozen? ⟨g, i, none⟩ = false :=
  h.cell (by rw [flat_Z, List.getElem?_map, hi]; rfl)
theorem VRow.setZ {w : World} {g i : Nat} {l : List Int} (h : VRow w g 3 (l.flatMap csZ)) (z : Int) : VRow (w.setCell ⟨g, i, none⟩ (.int .i64 z)) g 3 ((l.set i z).flatMap csZ) := by
  have := h.set i (.int .i64 z)
  rw [flat_Z] at this ⊢
  rw [List.map_set]
  exact this

/-- The variables that words are of, with the words' parts. -/
def prs (L : List Int) (vs : List Int) (ws : List (List UInt8)) : List (Int × Int) := (vs.zip ws).map fun p => (p.1, partM ⟨p.2.toArray⟩ (gI L p.1))
theorem prs_take {L vs : List Int} {ws : List (List UInt8)} {i : Nat} {v : Int} {s : List UInt8} (hv : vs[i]? = some v) (hs : ws[i]? = some s) : prs L (vs.take (i + 1)) (ws.take (i + 1)) = prs L (vs.take i) (ws.take i) ++ [(v, partM ⟨s.toArray⟩ (gI L v))] := by
  have h1 := (List.getElem?_eq_some_iff.1 hv).1
  have h2 := (List.getElem?_eq_some_iff.1 hs).1
  rw [take_snoc hv, take_snoc hs]
  unfold prs
  rw [List.zip_append (by rw [List.length_take, List.length_take]; omega), List.map_append]
  rfl
theorem prs_pre {L vs : List Int} {ws : List (List UInt8)} (i : Nat) {p : Int × Int} (h : p ∈ prs L (vs.take i) (ws.take i)) : p ∈ prs L vs ws := by
  unfold prs at h ⊢
  obtain ⟨q, hq, rfl⟩ := List.mem_map.1 h
  rw [show (vs.take i).zip (ws.take i) = (vs.zip ws).take i by simp [List.zip, List.take_zipWith]] at hq
  exact List.mem_map.2 ⟨q, List.mem_of_mem_take hq, rfl⟩
theorem gI_at {L : List Int} {z x : Int} (h : L[z.toNat]? = some x) : gI L z = x := by simp [gI, h]
theorem gI_ok {L : List Int} (hL : okL L = true) {z : Int} (h0 : 0 ≤ z) (h1 : z < L.length) : 1 ≤ gI L z ∧ gI L z ≤ 64 := by
  have hx : L[z.toNat]? = some (L[z.toNat]'(by omega)) := List.getElem?_eq_getElem (by omega)
  rw [gI_at hx]
  exact okL_mem hL (List.getElem_mem _)
theorem Bnd.step {ps : List (Int × Int)} {Bd : List Int} (h : Bnd ps Bd) (hps : ∀ p ∈ ps, 0 ≤ p.2) {v z : Int} (h0 : 0 ≤ v) (hv : v.toNat < Bd.length) (hz : Bd[v.toNat]? = some (-1) ∨ Bd[v.toNat]? = some z) : Bnd (ps ++ [(v, z)]) (Bd.set v.toNat z) := by
  constructor
  · intro p hp
    rcases List.mem_append.1 hp with hp | hp
    · have h1 := h.at_ p hp
      by_cases e : v.toNat = p.1.toNat
      · rw [← e, List.getElem?_set_self hv]
        rw [← e] at h1
        rcases hz with hz | hz
        · rw [hz] at h1
          have := hps p hp
          have := Option.some.inj h1
          omega
        · rw [hz] at h1; exact h1
      · rw [List.getElem?_set_ne e]; exact h1
    · rw [List.mem_singleton.1 hp]
      exact List.getElem?_set_self hv
  · intro u y hu
    by_cases e : v.toNat = u
    · subst e
      rw [List.getElem?_set_self hv] at hu
      right
      refine List.mem_append_right _ ?_
      rw [← Option.some.inj hu, show ((v.toNat : Nat) : Int) = v by omega]
      simp
    · rw [List.getElem?_set_ne e] at hu
      rcases h.of u y hu with h1 | h1
      · exact .inl h1
      · exact .inr (List.mem_append_left _ h1)
theorem prs_range {L vs : List Int} {ws : List (List UInt8)} (hL : okL L = true) (hv : ∀ v ∈ vs, 0 ≤ v ∧ v < L.length) : ∀ p ∈ prs L vs ws, 0 ≤ p.2 := by
  intro p hp
  unfold prs at hp
  obtain ⟨q, hq, rfl⟩ := List.mem_map.1 hp
  have h1 := hv q.1 (List.of_mem_zip hq).1
  have h2 := gI_ok hL h1.1 h1.2
  exact (partM_range _ h2.1 h2.2).1
/-- What partsOf ends with. -/
def PrtE (L : List Int) (ps : List (Int × Int)) (w : World) (e : Ending) (w' : World) : Prop :=
  Below w.heap.size w w' ∧ ((∃ Bd : List Int, e = .returned (.tuple #[.slice (some ⟨w.heap.size, 0, none⟩) L.length L.length, .bool true]) ∧ VRow w' w.heap.size 3 (Bd.flatMap csZ) ∧ Bd.length = L.length ∧ Bnd ps Bd) ∨
    (e = .returned (.tuple #[.slice none 0 0, .bool false]) ∧ routeL L ps = []))
set_option maxHeartbeats 4000000 in
set_option maxRecDepth 100000 in
theorem partsOf_any {S : Nat → Prop} {w : World} {v1 v2 v3 : Value} {L vs : List Int} {ws : List (List UInt8)} (h1 : IntZ S w v1 L) (h2 : IntZ S w v2 vs) (h3 : TxtW S w v3 ws) (hL : okL L = true)
    (hv : ∀ v ∈ vs, 0 ≤ v ∧ v < L.length) (hl : ws.length = vs.length) (hl16 : vs.length ≤ 16) (hs : ∀ s ∈ ws, s.length ≤ 140737488351000) :
    Calls Try.prog 21 #[v1, v2, v3] w (PrtE L (prs L vs ws) w) := by
  obtain ⟨i0, hi0, hz0, hz1, hz2⟩ := info_parts infoZ
  obtain ⟨a1, c1, rfl⟩ := h1.slice
  obtain ⟨a2, c2, rfl⟩ := h2.slice
  obtain ⟨a3, c3, rfl⟩ := h3.slice
  have HP := Hid.mk (prs_range (ws := ws) hL hv)
  have hn16 := (okL_iff.1 hL).1
  have H1 := Hid.mk h1
  have H2 := Hid.mk h2
  have H3 := Hid.mk h3
  have HV := Hid.mk hv
  have HOK := Hid.mk hL
  have HS := Hid.mk hs
  rw [hl] at H3 ⊢
  obtain ⟨n, hn⟩ : ∃ n, n = L.length := ⟨_, rfl⟩
  obtain ⟨m, hm⟩ : ∃ m, m = vs.length := ⟨_, rfl⟩
  rw [← hm] at H2 H3 hl16 ⊢
  have HQ : Hid (∀ e w', Below w.heap.size w w' → ((∃ Bd : List Int, e = .returned (.tuple #[.slice (some ⟨w.heap.size, 0, none⟩) n n, .bool true]) ∧ VRow w' w.heap.size 3 (Bd.flatMap csZ) ∧ Bd.length = n ∧ Bnd (prs L vs ws) Bd) ∨
    (e = .returned (.tuple #[.slice none 0 0, .bool false]) ∧ routeL L (prs L vs ws) = [])) → PrtE L (prs L vs ws) w e w') := Hid.mk (by rw [hn]; exact fun e w' a b => ⟨a, b⟩)
  rw [← hn] at H1 hn16 ⊢
  have HN := Hid.mk hn
  have HM2 := Hid.mk hm
  have HL := Hid.mk hl
  clear h1 h2 h3 hL hv hs hn hm hl
  have HM := Hid.mk (made_row w (.int .i64 0) n 3)
  have HB0 : Hid (Below w.heap.size w (w.alloc (.cells (madeCells #[.int .i64 0] n) 3))) := Hid.mk ((Below.refl _ _).alloc (Nat.le_refl _) _)
  go_enter Try.func21, Try.ntmps21
  go_wp2_with (at_make; refine wpList_make_row _ rfl _ _ 24 rfl 3 i0 (.int .i64 0) Try.underlying24 hi0 hz0 hz1 rfl _ _ n rfl rfl (by rw [hz2]; omega) (by omega) ?_)
  obtain ⟨W0, hW0⟩ : ∃ W, W = w.alloc (.cells (madeCells #[.int .i64 0] n) 3) := ⟨_, rfl⟩
  rw [← hW0] at HM HB0 ⊢
  clear hW0
  go_wp2_with fail
  go_loopw [18] (fun c wr => ∃ (i : Nat) (l : List Int), i ≤ n ∧ c = .int .i64 i ∧ l.length = n ∧ l.take i = List.replicate i (-1) ∧ VRow wr w.heap.size 3 (l.flatMap csZ) ∧ Below w.heap.size w wr) (fun c _ => n - (intOf c).toNat)
  case atStart => exact ⟨0, List.replicate n 0, Nat.zero_le _, rfl, by simp, by simp, by
      have := HM.out
      rw [show (List.replicate n (0 : Int)).flatMap csZ = List.replicate n (Value.int .i64 0) by rw [flat_Z]; simp]
      exact this, HB0.out⟩
  case round =>
    obtain ⟨i, l, hi, rfl, hll, htk, hrow, hbw⟩ := hrel
    obtain ⟨wx, hwx⟩ : ∃ wx, wx = wr := ⟨_, rfl⟩
    subst hwx
    have HROW := Hid.mk hrow
    have HBW := Hid.mk hbw
    have HTK := Hid.mk htk
    have HLL := Hid.mk hll
    clear hrow hbw htk hll
    by_cases hlt : i < n
    · have hltI : (i : Int) < (n : Int) := by omega
      obtain ⟨x, hx⟩ : ∃ x, l[i]? = some x := ⟨_, List.getElem?_eq_getElem (by rw [HLL.out]; exact hlt)⟩
      obtain ⟨q0, q1⟩ := HROW.out.getZ hx
      have HR2 := Hid.mk (HROW.out.setZ (i := i) (-1))
      have HB2 := Hid.mk (HBW.out.setCell (p := ⟨w.heap.size, i, none⟩) (Nat.le_refl _) (.int .i64 (-1)))
      have HT2 : Hid ((l.set i (-1)).take (i + 1) = List.replicate (i + 1) (-1)) := Hid.mk (by
        rw [List.replicate_succ', ← HTK.out, List.take_add_one, List.getElem?_set_self (by rw [HLL.out]; exact hlt), List.take_set_of_le (Nat.le_refl _)]
        rfl)
      clear hx
      go_wp2
      go_roundw
      case rel => exact ⟨i + 1, l.set i (-1), by omega, by go_num, by rw [List.length_set]; exact HLL.out, HT2.out, HR2.out, HB2.out⟩
      case measure => simp [intOf]; omega
    · have hltI : ¬ (i : Int) < (n : Int) := by omega
      have HE : Hid (l = List.replicate n (-1)) := Hid.mk (by
        have := HTK.out
        have e : i = n := by omega
        rw [e, List.take_of_length_le (by rw [HLL.out]; exact Nat.le_refl _)] at this
        exact this)
      clear HTK hlt
      go_wp2_with fail
      go_loopw [27] (fun c wr => ∃ (k : Nat) (Bd : List Int), k ≤ m ∧ c = .int .i64 k ∧ Bd.length = n ∧ Bnd (prs L (vs.take k) (ws.take k)) Bd ∧ VRow wr w.heap.size 3 (Bd.flatMap csZ) ∧ Below w.heap.size w wr) (fun c _ => m - (intOf c).toNat)
      case atStart => exact ⟨0, l, Nat.zero_le _, rfl, HLL.out, ⟨by simp [prs], fun v z hz => .inl (by
          rw [HE.out, List.getElem?_replicate] at hz
          split at hz
          · exact (Option.some.inj hz).symm
          · cases hz)⟩, HROW.out, HBW.out⟩
      case round =>
        obtain ⟨k, Bd, hk, rfl, hbl, hbnd, hrow, hbw⟩ := hrel
        obtain ⟨wy, hwy⟩ : ∃ wy, wy = wr := ⟨_, rfl⟩
        subst hwy
        have HROW2 := Hid.mk hrow
        have HBW2 := Hid.mk hbw
        have HBN := Hid.mk hbnd
        have HBL := Hid.mk hbl
        clear hrow hbw hbnd hbl
        by_cases hlt2 : k < m
        · have hltI2 : (k : Int) < (m : Int) := by omega
          obtain ⟨v, hv⟩ : ∃ v, vs[k]? = some v := ⟨_, List.getElem?_eq_getElem (by rw [← HM2.out]; exact hlt2)⟩
          obtain ⟨s, hs⟩ : ∃ s, ws[k]? = some s := ⟨_, List.getElem?_eq_getElem (by rw [HL.out, ← HM2.out]; exact hlt2)⟩
          obtain ⟨hv0, hv1⟩ := HV.out v (List.mem_of_getElem? hv)
          have HSZ := Hid.mk (HS.out s (List.mem_of_getElem? hs))
          have HPT := Hid.mk (prs_take (L := L) hv hs)
          rw [← HN.out] at hv1
          obtain ⟨j, rfl⟩ : ∃ j : Nat, v = (j : Int) := ⟨v.toNat, by omega⟩
          have hjn : j < n := by omega
          obtain ⟨x, hx⟩ : ∃ x, L[j]? = some x := ⟨_, List.getElem?_eq_getElem (by rw [← HN.out]; exact hjn)⟩
          obtain ⟨y, hy⟩ : ∃ y, Bd[j]? = some y := ⟨_, List.getElem?_eq_getElem (by rw [HBL.out]; exact hjn)⟩
          have HGX : Hid (gI L (j : Int) = x) := Hid.mk (gI_at (by simpa using hx))
          rw [HGX.out] at HPT
          have HXR := Hid.mk (okL_mem HOK.out (List.mem_of_getElem? hx))
          obtain ⟨g1, o1, e1, _, _, d1⟩ := (H1.out.below HBW2.out).get hx
          obtain ⟨g2, o2, e2, _, _, d2⟩ := (H2.out.below HBW2.out).get hv
          obtain ⟨g3, o3, e3, _, _, d3⟩ := (H3.out.below HBW2.out).get hs
          have q1 := getZ d1
          have q2 := getZ d2
          have q3 := getW d3
          rw [Nat.mul_one] at q1 q2 q3
          obtain ⟨q4, q5⟩ := HROW2.out.getZ hy
          have HSE : Hid (Bd[j]? = some y) := Hid.mk hy
          subst e1 e2 e3
          have HK : Hid (∀ W, Below w.heap.size w W → W.cell? ⟨g1, o1 + j, none⟩ = some (.int .i64 x) ∧ W.cell? ⟨g3, o3 + k, none⟩ = some (.string ⟨s.toArray⟩)) := Hid.mk (fun W hb => by
            obtain ⟨g1', o1', e1, _, _, d1⟩ := (H1.out.below hb).get hx
            obtain ⟨g3', o3', e3, _, _, d3⟩ := (H3.out.below hb).get hs
            injection e1 with e1; injection e1 with e1 e1b
            injection e3 with e3; injection e3 with e3 e3b
            subst e1 e1b e3 e3b
            have q1 := getZ d1
            have q3 := getW d3
            rw [Nat.mul_one] at q1 q3
            exact ⟨q1, q3⟩)
          clear d1 d2 d3 hv hs hx hy hv0
          obtain ⟨pt, hpt⟩ : ∃ p, p = partM ⟨s.toArray⟩ x := ⟨_, rfl⟩
          have HPR := Hid.mk (partM_range ⟨s.toArray⟩ HXR.out.1 HXR.out.2)
          have HC := Hid.mk (part_any ⟨s.toArray⟩ x wy.drew (by have := HSZ.out; simpa [ByteArray.size] using this))
          rw [← hpt] at HPR HC HPT
          clear hpt
          go_wp2_with fail
          go_region_held3 (fun u => u.cell? ⟨g1, o1 + j, none⟩ = some (.int .i64 x) ∧ u.cell? ⟨g3, o3 + k, none⟩ = some (.string ⟨s.toArray⟩))
            (first | with_reducible exact HK.out _ HBW2.out.drew | with_reducible exact HK.out _ h3)
            (first | (go_at_call 14; refine HC.out.mono ?_; rintro e w3 ⟨rfl, hb3⟩; have h3 : Below w.heap.size w w3 := HBW2.out.drew.trans (hb3.mono HBW2.out.size)))
          have HB3 : Hid (Below w.heap.size w w3) := Hid.mk h3
          clear h3
          have HR3 : Hid (VRow w3 w.heap.size 3 (Bd.flatMap csZ)) := Hid.mk (HROW2.out.below (w := wy) ⟨hb3.os, hb3.tape, hb3.output, hb3.size, hb3.block⟩)
          obtain ⟨q6, q7⟩ := HR3.out.getZ HSE.out
          clear hb3 q1 q2 q3 q4 q5
          have hpr0 : 0 ≤ pt := HPR.out.1
          have HPS := Hid.mk (fun p hp => HP.out p (prs_pre (L := L) k hp))
          by_cases hf : y = -1
          · subst hf
            have HBD2 : Hid (Bnd (prs L (vs.take (k + 1)) (ws.take (k + 1))) (Bd.set j pt)) := Hid.mk (by
              rw [HPT.out]
              exact HBN.out.step HPS.out (v := (j : Int)) (by omega) (by simp [HBL.out]; exact hjn) (.inl (by simpa using HSE.out)))
            have HR4 := Hid.mk (HR3.out.setZ (i := j) pt)
            have HB4 := Hid.mk (HB3.out.setCell (p := ⟨w.heap.size, j, none⟩) (Nat.le_refl _) (.int .i64 pt))
            go_wp2
            go_roundw
            case rel => exact ⟨k + 1, Bd.set j pt, by omega, by go_num, by rw [List.length_set]; exact HBL.out, HBD2.out, HR4.out, HB4.out⟩
            case measure => simp [intOf]; omega
          · obtain ⟨f1, f2⟩ := not_both hf
            by_cases hp : y = pt
            · subst hp
              have HBD2 : Hid (Bnd (prs L (vs.take (k + 1)) (ws.take (k + 1))) (Bd.set j y)) := Hid.mk (by
                rw [HPT.out]
                exact HBN.out.step HPS.out (v := (j : Int)) (by omega) (by simp [HBL.out]; exact hjn) (.inr (by simpa using HSE.out)))
              have HR4 := Hid.mk (HR3.out.setZ (i := j) y)
              have HB4 := Hid.mk (HB3.out.setCell (p := ⟨w.heap.size, j, none⟩) (Nat.le_refl _) (.int .i64 y))
              clear hf
              go_wp2
              go_roundw
              case rel => exact ⟨k + 1, Bd.set j y, by omega, by go_num, by rw [List.length_set]; exact HBL.out, HBD2.out, HR4.out, HB4.out⟩
              case measure => simp [intOf]; omega
            · obtain ⟨p1, p2⟩ := not_both hp
              have p3 : (y != pt) = true := by simpa using hp
              have HNO : Hid (routeL L (prs L vs ws) = []) := Hid.mk (by
                rcases HBN.out.of j y HSE.out with h | h
                · exact absurd h hf
                · exact route_none (prs_pre k h) (prs_pre (k + 1) (by rw [HPT.out]; simp)) hp)
              clear hf hp
              go_wp2
              go_ret2
              exact HQ.out _ _ HB3.out (.inr ⟨rfl, HNO.out⟩)
        · have hltI2 : ¬ (k : Int) < (m : Int) := by omega
          have HBE : Hid (Bnd (prs L vs ws) Bd) := Hid.mk (by
            have := HBN.out
            rw [List.take_of_length_le (by rw [← HM2.out]; omega), List.take_of_length_le (by rw [HL.out, ← HM2.out]; omega)] at this
            exact this)
          go_wp2
          go_ret2
          exact HQ.out _ _ HBW2.out (.inl ⟨Bd, rfl, HROW2.out, HBL.out, HBE.out⟩)
end Go.Proofs.Ytojjepkmnifngaa
