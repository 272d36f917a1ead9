/- What agrees meets. -/
import Derived.Test.YtbknlmalfkpenaaHCellL
namespace Go.Proofs.Ytbknlmalfkpenaa
open Go.RowKit

/-- What two words bind. -/
def twoB (n a b : Nat) (x y : Int) : List Int := ((List.replicate n (-1 : Int)).set a x).set b y
theorem twoB_at {n a b : Nat} {x y : Int} (ha : a < n) (hb : b < n) (hab : a = b → x = y) : (twoB n a b x y)[a]? = some x ∧ (twoB n a b x y)[b]? = some y := by
  unfold twoB
  constructor
  · by_cases e : b = a
    · rw [← hab e.symm, e, List.getElem?_set_self (by simp; omega)]
    · rw [List.getElem?_set_ne e, List.getElem?_set_self (by simp; omega)]
  · rw [List.getElem?_set_self (by simp; omega)]
theorem twoB_of {n a b v : Nat} {x y z : Int} (h : (twoB n a b x y)[v]? = some z) : z = -1 ∨ (v = a ∧ z = x) ∨ (v = b ∧ z = y) := by
  unfold twoB at h
  by_cases e : b = v
  · subst e
    rw [List.getElem?_set, if_pos rfl] at h
    split at h
    · right; right; exact ⟨rfl, by cases h; rfl⟩
    · cases h
  · rw [List.getElem?_set_ne e] at h
    by_cases e2 : a = v
    · subst e2
      rw [List.getElem?_set, if_pos rfl] at h
      split at h
      · right; left; exact ⟨rfl, by cases h; rfl⟩
      · cases h
    · rw [List.getElem?_set_ne e2, List.getElem?_replicate] at h
      split at h
      · left; exact (Option.some.inj h).symm
      · cases h
theorem twoB_len (n a b : Nat) (x y : Int) : (twoB n a b x y).length = n := by simp [twoB]
theorem wide_two {L : List Int} {a b : Nat} {x y : Int} (hx : 0 ≤ x) (hy : 0 ≤ y) (ha : a < L.length) (hb : b < L.length) (hab : a = b → x = y) : wideL (L.zip (twoB L.length a b x y)) = (L.set a 1).set b 1 := by
  apply List.ext_getElem?
  intro v
  unfold wideL
  rw [List.getElem?_map]
  by_cases hv : v < L.length
  · have h1 : L[v]? = some (L[v]'hv) := List.getElem?_eq_getElem hv
    obtain ⟨z, hz⟩ : ∃ z, (twoB L.length a b x y)[v]? = some z := ⟨_, List.getElem?_eq_getElem (by rw [twoB_len]; exact hv)⟩
    rw [(List.getElem?_zip_eq_some (z := (L[v]'hv, z))).2 ⟨h1, hz⟩]
    obtain ⟨t1, t2⟩ := twoB_at (x := x) (y := y) ha hb hab
    simp only [Option.map_some]
    by_cases eb : b = v
    · subst eb
      rw [t2] at hz
      rw [List.getElem?_set_self (by simp; omega), if_neg (by have := Option.some.inj hz; omega)]
    · rw [List.getElem?_set_ne eb]
      by_cases ea : a = v
      · subst ea
        rw [t1] at hz
        rw [List.getElem?_set_self (by omega), if_neg (by have := Option.some.inj hz; omega)]
      · rw [List.getElem?_set_ne ea, h1]
        rcases twoB_of hz with h | ⟨h, _⟩ | ⟨h, _⟩
        · rw [if_pos h]
        · exact absurd h.symm ea
        · exact absurd h.symm eb
  · rw [List.getElem?_eq_none (by rw [List.length_zip, twoB_len]; omega), List.getElem?_eq_none (by simp; omega)]
    rfl
/-- How many cells two words go to. -/
theorem route_two {L : List Int} (hL : okL L = true) {ws : List (List UInt8)} {a b : Nat} (ha : a < L.length) (hb : b < L.length) {s t : List UInt8} (hs : ws[a]? = some s) (ht : ws[b]? = some t) {sa sb : Int} (hsa : L[a]? = some sa) (hsb : L[b]? = some sb) (hw : ws.length = L.length) :
    ((routeL L (prs L [(a : Int), (b : Int)] [s, t])).length : Int) = (if a = b then prodI L / sa else prodI L / sa / sb) ∧ horner (L.zip (ptsL L ws)) ∈ routeL L (prs L [(a : Int), (b : Int)] [s, t]) := by
  have ga : gI L (a : Int) = sa := gI_at (by simpa using hsa)
  have gb : gI L (b : Int) = sb := gI_at (by simpa using hsb)
  obtain ⟨ra0, ra1⟩ := okL_mem hL (List.mem_of_getElem? hsa)
  obtain ⟨rb0, rb1⟩ := okL_mem hL (List.mem_of_getElem? hsb)
  have hx := partM_range ⟨s.toArray⟩ ra0 ra1
  have hy := partM_range ⟨t.toArray⟩ rb0 rb1
  have hps : prs L [(a : Int), (b : Int)] [s, t] = [((a : Int), partM ⟨s.toArray⟩ sa), ((b : Int), partM ⟨t.toArray⟩ sb)] := by
    show [((a : Int), partM ⟨s.toArray⟩ (gI L (a : Int))), ((b : Int), partM ⟨t.toArray⟩ (gI L (b : Int)))] = _
    rw [ga, gb]
  have hab : a = b → partM ⟨s.toArray⟩ sa = partM ⟨t.toArray⟩ sb := by
    rintro rfl
    rw [hs] at ht
    rw [hsa] at hsb
    rw [Option.some.inj ht, Option.some.inj hsb]
  have pa := pts_at hsa hs
  have pb := pts_at hsb ht
  rw [hps]
  generalize partM ⟨s.toArray⟩ sa = x at hx hab pa
  generalize partM ⟨t.toArray⟩ sb = y at hy hab pb
  obtain ⟨t1, t2⟩ := twoB_at (n := L.length) (x := x) (y := y) ha hb hab
  have hbnd : Bnd [((a : Int), x), ((b : Int), y)] (twoB L.length a b x y) := by
    constructor
    · intro p hp
      simp at hp
      rcases hp with rfl | rfl
      · simpa using t1
      · simpa using t2
    · intro v z hz
      rcases twoB_of hz with h | ⟨h1, h2⟩ | ⟨h1, h2⟩
      · exact .inl h
      · right; rw [h1, h2]; simp
      · right; rw [h1, h2]; simp
  have hro := route_eq (L := L) (okL_iff.1 hL).2.1 (twoB_len _ _ _ _ _) hbnd (by
    intro p hp
    simp at hp
    rcases hp with rfl | rfl
    · exact hx.1
    · exact hy.1)
  rw [hro]
  have hz : ∀ q ∈ L.zip (twoB L.length a b x y), 1 ≤ q.1 ∧ (q.2 = -1 ∨ (0 ≤ q.2 ∧ q.2 < q.1)) := by
    intro q hq
    obtain ⟨v, hv⟩ := List.getElem?_of_mem hq
    rw [List.getElem?_zip_eq_some] at hv
    refine ⟨(okL_mem hL (List.mem_of_getElem? hv.1)).1, ?_⟩
    rcases twoB_of hv.2 with h | ⟨h1, h2⟩ | ⟨h1, h2⟩
    · exact .inl h
    · right
      have h3 := hv.1
      rw [h1, hsa] at h3
      rw [h2, ← Option.some.inj h3]; exact hx
    · right
      have h3 := hv.1
      rw [h1, hsb] at h3
      rw [h2, ← Option.some.inj h3]; exact hy
  constructor
  · rw [cellsL_len _ hz, wide_two hx.1 hy.1 ha hb hab]
    by_cases e : a = b
    · subst e
      rw [if_pos rfl, List.set_set]
      have h := prodI_set (y := 1) hsa
      rw [Int.mul_one] at h
      exact (Int.ediv_eq_of_eq_mul_left (by omega) h.symm).symm
    · rw [if_neg e]
      have h1 := prodI_set (y := 1) hsa
      have h2 := prodI_set (L := L.set a 1) (a := b) (x := sb) (y := 1) (by rw [List.getElem?_set_ne e]; exact hsb)
      rw [Int.mul_one] at h1 h2
      rw [Int.ediv_eq_of_eq_mul_left (show sa ≠ 0 by omega) h1.symm]
      exact (Int.ediv_eq_of_eq_mul_left (by omega) h2.symm).symm
  · refine cellsL_mem L _ _ (twoB_len _ _ _ _ _) (pts_len (by omega)) (fun v s' b' p' e1 e2 e3 => ?_)
    have hv := (List.getElem?_eq_some_iff.1 e1).1
    have hwv : ws[v]? = some (ws[v]'(by omega)) := List.getElem?_eq_getElem (by omega)
    have hr := okL_mem hL (List.mem_of_getElem? e1)
    have hp := pts_at e1 hwv
    have e4 := e3
    rw [hp] at e4
    have hrg := partM_range ⟨(ws[v]'(by omega)).toArray⟩ hr.1 hr.2
    rw [Option.some.inj e4] at hrg
    refine ⟨hrg.1, hrg.2, ?_⟩
    rcases twoB_of e2 with h | ⟨h1, h2⟩ | ⟨h1, h2⟩
    · exact .inl h
    · right
      rw [h1, pa] at e3
      rw [h2]; exact Option.some.inj e3
    · right
      rw [h1, pb] at e3
      rw [h2]; exact Option.some.inj e3
end Go.Proofs.Ytbknlmalfkpenaa
