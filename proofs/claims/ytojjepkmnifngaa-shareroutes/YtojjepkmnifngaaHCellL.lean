/- Words of all variables have the cell of their parts' number. -/
import Derived.Test.YtojjepkmnifngaaHAwake
namespace Go.Proofs.Ytojjepkmnifngaa
open Go.RowKit

/-- The parts of words of all variables. -/
def ptsL (L : List Int) (ws : List (List UInt8)) : List Int := (L.zip ws).map fun p => partM ⟨p.2.toArray⟩ p.1
theorem pts_at {L : List Int} {ws : List (List UInt8)} {i : Nat} {s : Int} {t : List UInt8} (h1 : L[i]? = some s) (h2 : ws[i]? = some t) : (ptsL L ws)[i]? = some (partM ⟨t.toArray⟩ s) := by
  unfold ptsL
  rw [List.getElem?_map, (List.getElem?_zip_eq_some (z := (s, t))).2 ⟨h1, h2⟩]
  rfl
theorem pts_len {L : List Int} {ws : List (List UInt8)} (h : L.length ≤ ws.length) : (ptsL L ws).length = L.length := by
  unfold ptsL
  rw [List.length_map, List.length_zip]
  omega
theorem rng_at {n i : Nat} (h : i < n) : (rngI n)[i]? = some (i : Int) := by
  unfold rngI
  rw [Int.toNat_natCast, List.getElem?_map, List.getElem?_range h]
  rfl
theorem rng_len (n : Nat) : (rngI n).length = n := by simp [rngI]
theorem rng_take {n i : Nat} (h : i ≤ n) : (rngI n).take i = rngI i := by
  unfold rngI
  rw [← List.map_take, List.take_range, Int.toNat_natCast, Int.toNat_natCast, Nat.min_eq_left h]
theorem rng_snoc (i : Nat) : rngI ((i + 1 : Nat) : Int) = rngI (i : Int) ++ [(i : Int)] := by
  unfold rngI
  rw [Int.toNat_natCast, Int.toNat_natCast, List.range_succ, List.map_append]
  rfl
theorem prs_mem {L vs : List Int} {ws : List (List UInt8)} {p : Int × Int} (h : p ∈ prs L vs ws) : ∃ (i : Nat) (t : List UInt8), vs[i]? = some p.1 ∧ ws[i]? = some t ∧ p.2 = partM ⟨t.toArray⟩ (gI L p.1) := by
  unfold prs at h
  obtain ⟨q, hq, rfl⟩ := List.mem_map.1 h
  obtain ⟨i, hi⟩ := List.getElem?_of_mem hq
  rw [List.getElem?_zip_eq_some] at hi
  exact ⟨i, q.2, hi.1, hi.2, rfl⟩
theorem mem_prs {L vs : List Int} {ws : List (List UInt8)} {i : Nat} {v : Int} {t : List UInt8} (h1 : vs[i]? = some v) (h2 : ws[i]? = some t) : (v, partM ⟨t.toArray⟩ (gI L v)) ∈ prs L vs ws := by
  unfold prs
  exact List.mem_map.2 ⟨(v, t), List.mem_of_getElem? (List.getElem?_zip_eq_some.2 ⟨h1, h2⟩), rfl⟩
theorem bnd_all {L : List Int} {ws : List (List UInt8)} (h : ws.length = L.length) : Bnd (prs L (rngI L.length) ws) (ptsL L ws) := by
  constructor
  · intro p hp
    obtain ⟨i, t, h1, h2, h3⟩ := prs_mem hp
    have hi : i < L.length := by have := (List.getElem?_eq_some_iff.1 h1).1; rw [rng_len] at this; exact this
    rw [rng_at hi] at h1
    have e : p.1 = (i : Int) := (Option.some.inj h1).symm
    rw [h3, e, Int.toNat_natCast]
    have hL : L[i]? = some (L[i]'hi) := List.getElem?_eq_getElem hi
    rw [gI_at (z := (i : Int)) (x := L[i]'hi) (by rw [Int.toNat_natCast]; exact hL)]
    exact pts_at hL h2
  · intro v z hz
    right
    have hv : v < L.length := by have := (List.getElem?_eq_some_iff.1 hz).1; rw [pts_len (by omega)] at this; exact this
    have hL : L[v]? = some (L[v]'hv) := List.getElem?_eq_getElem hv
    have hw : ws[v]? = some (ws[v]'(by omega)) := List.getElem?_eq_getElem (by omega)
    rw [pts_at hL hw] at hz
    rw [← Option.some.inj hz, ← gI_at (L := L) (z := (v : Int)) (x := L[v]'hv) (by rw [Int.toNat_natCast]; exact hL)]
    exact mem_prs (rng_at hv) hw
theorem zip_range {L : List Int} {ws : List (List UInt8)} (hL : okL L = true) (h : ws.length = L.length) : ∀ x ∈ L.zip (ptsL L ws), 0 ≤ x.2 ∧ x.2 < x.1 := by
  intro x hx
  obtain ⟨i, hi⟩ := List.getElem?_of_mem hx
  rw [List.getElem?_zip_eq_some] at hi
  have hv := (List.getElem?_eq_some_iff.1 hi.1).1
  have hw : ws[i]? = some (ws[i]'(by omega)) := List.getElem?_eq_getElem (by omega)
  have h2 := hi.2
  rw [pts_at hi.1 hw] at h2
  rw [← Option.some.inj h2]
  have := okL_mem hL (List.mem_of_getElem? hi.1)
  exact partM_range _ this.1 this.2
theorem route_all {L : List Int} {ws : List (List UInt8)} (hL : okL L = true) (h : ws.length = L.length) : routeL L (prs L (rngI L.length) ws) = [horner (L.zip (ptsL L ws))] := by
  rw [route_eq (okL_iff.1 hL).2.1 (pts_len (by omega)) (bnd_all h) (prs_range hL (fun v hv => mem_rngI.1 hv)), cellsL_one _ (zip_range hL h)]
theorem txt_take {S : Nat → Prop} {w : World} {ao : Option Addr} {cap : Nat} {ws : List (List UInt8)} (h : TxtW S w (.slice ao ws.length cap) ws) (n : Nat) (hn : n ≤ ws.length) : TxtW S w (.slice ao n cap) (ws.take n) := by
  obtain ⟨ao', cap', e, h⟩ := h
  injection e with e1 e2 e3
  subst e1 e3
  refine ⟨ao, cap, by rw [List.length_take, Nat.min_eq_left hn], ?_⟩
  by_cases h0 : n = 0
  · subst h0; left; simp
  rcases h with h | ⟨g, off, e1, hs, hl, hc⟩
  · left; rw [h]; simp
  · right
    refine ⟨g, off, e1, hs, hl, fun j x hx c u hu => hc j x ?_ c u hu⟩
    have hj := (List.getElem?_eq_some_iff.1 hx).1
    rw [List.length_take] at hj
    rw [List.getElem?_take_of_lt (by omega)] at hx
    exact hx
end Go.Proofs.Ytojjepkmnifngaa
