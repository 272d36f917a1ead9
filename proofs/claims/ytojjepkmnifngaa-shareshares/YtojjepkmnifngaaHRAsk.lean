/- Whether shares may be asked for: the document's. -/
import Derived.Test.YtojjepkmnifngaaHRAll
namespace Go.Proofs.Ytojjepkmnifngaa
open Go.RowKit

noncomputable def askB (a k : Int) (G : List Vz) (zs : List Int) : Bool := open Classical in decide (askS a k G zs)
theorem askB_yes {a k : Int} {G : List Vz} {zs : List Int} (h : askS a k G zs) : askB a k G zs = true := by unfold askB; exact @decide_eq_true _ (Classical.propDecidable _) h
theorem askB_no {a k : Int} {G : List Vz} {zs : List Int} (h : ¬ askS a k G zs) : askB a k G zs = false := by unfold askB; exact @decide_eq_false _ (Classical.propDecidable _) h
theorem fit_step {j : Nat} {P : List (List Int × Int)} {i : Nat} {x : List Int × Int} (h : FitA j (P.take i)) (hx : P[i]? = some x) (hf : (∀ v ∈ x.1, 0 ≤ v ∧ v < (j : Int)) ∧ 0 ≤ x.2 ∧ x.2 ≤ 1048576) : FitA j (P.take (i + 1)) := by
  rw [take_snoc hx]
  intro a ha
  rcases List.mem_append.1 ha with ha | ha
  · exact h a ha
  · rw [List.mem_singleton.1 ha]; exact hf
set_option maxRecDepth 100000 in
set_option maxHeartbeats 8000000 in
theorem asks_any {T : Nat → Prop} {w : World} {v1 v2 : Value} {G : List Vz} {zs : List Int} (h1 : AtmS T w v1 G) (h2 : IntZ T w v2 zs) (hl1 : G.length ≤ 9223372036854775807) (hl2 : zs.length ≤ 9223372036854775807) (a k : Int) :
    Calls Try.prog 18 #[.int .i64 a, .int .i64 k, v1, v2] w fun e w' => e = .returned (.bool (askB a k G zs)) ∧ w' = w := by
  obtain ⟨a1, c1, rfl⟩ := h1.sl.slice
  obtain ⟨a2, c2, rfl⟩ := h2.slice
  have H1 := Hid.mk h1
  have H2 := Hid.mk h2
  have HNO : Hid (¬ askS a k G zs → askB a k G zs = false) := Hid.mk askB_no
  have HYES : Hid (askS a k G zs → askB a k G zs = true) := Hid.mk askB_yes
  obtain ⟨ans, hans⟩ : ∃ b, b = askB a k G zs := ⟨_, rfl⟩
  rw [← hans] at HNO HYES ⊢
  obtain ⟨n, hn⟩ : ∃ n, n = G.length := ⟨_, rfl⟩
  obtain ⟨m, hm⟩ : ∃ m, m = zs.length := ⟨_, rfl⟩
  rw [← hn] at hl1 ⊢
  rw [← hm] at H2 hl2 ⊢
  have HN := Hid.mk hn
  have HM := Hid.mk hm
  have HSL : Hid (SlS csA 1 T w (.slice a1 n c1) G) := Hid.mk (by rw [hn]; exact h1.sl)
  have HEL := Hid.mk h1.el
  have HLE := Hid.mk h1.le
  clear h1 h2 hans hn hm H1
  by_cases ha1 : a < 1
  · have HE := Hid.mk (HNO.out (fun h => by have := h.1.1; omega))
    rw [HE.out]
    clear HNO HYES HE
    go_enter Try.func18, Try.ntmps18
    go_wp2
    go_ret
    exact ⟨rfl, rfl⟩
  by_cases ha2 : 64 < a
  · have HE := Hid.mk (HNO.out (fun h => by have := h.1.2; omega))
    rw [HE.out]
    clear HNO HYES HE
    go_enter Try.func18, Try.ntmps18
    go_wp2
    go_ret
    exact ⟨rfl, rfl⟩
  by_cases hk1 : k < 0
  · have HE := Hid.mk (HNO.out (fun h => by have := h.2.1.1; omega))
    rw [HE.out]
    clear HNO HYES HE
    go_enter Try.func18, Try.ntmps18
    go_wp2
    go_ret
    exact ⟨rfl, rfl⟩
  by_cases hk2 : 6 < k
  · have HE := Hid.mk (HNO.out (fun h => by have := h.2.1.2; omega))
    rw [HE.out]
    clear HNO HYES HE
    go_enter Try.func18, Try.ntmps18
    go_wp2
    go_ret
    exact ⟨rfl, rfl⟩
  by_cases hnm : n = m
  case neg =>
    have HE := Hid.mk (HNO.out (fun h => by have := h.2.2.1; have := HN.out; have := HM.out; omega))
    have hne : ((n : Int) != (m : Int)) = true := by simp; omega
    have hne2 : ¬ (n : Int) = (m : Int) := by omega
    rw [HE.out]
    clear HNO HYES HE
    go_enter Try.func18, Try.ntmps18
    go_wp2
    go_ret
    exact ⟨rfl, rfl⟩
  subst hnm
  have hne : ((n : Int) != (n : Int)) = false := by simp
  by_cases h12 : 12 < n
  · have HE := Hid.mk (HNO.out (fun h => by have := h.2.2.2.1; have := HM.out; omega))
    have h12I : (12 : Int) < (n : Int) := by omega
    rw [HE.out]
    clear HNO HYES HE
    go_enter Try.func18, Try.ntmps18
    go_wp2
    go_ret
    exact ⟨rfl, rfl⟩
  have h12I : ¬ (12 : Int) < (n : Int) := by omega
  obtain ⟨j, rfl⟩ : ∃ j : Nat, k = (j : Int) := ⟨k.toNat, by omega⟩
  have HBAD : Hid (¬ FitA j (zipA G zs) → ans = false) := Hid.mk (fun h => HNO.out (fun hh => h (by have := hh.2.2.2.2; simpa using this)))
  have HGOOD : Hid (FitA j (zipA G zs) → ans = true) := Hid.mk (fun h => HYES.out ⟨⟨by omega, by omega⟩, ⟨by omega, by omega⟩, by rw [← HN.out, ← HM.out], by rw [← HM.out]; omega, by simpa using h⟩)
  clear HNO HYES
  go_enter Try.func18, Try.ntmps18
  go_wp2_with fail
  go_loopw [9] (fun c wr => ∃ i : Nat, i ≤ n ∧ c = .int .i64 (i : Int) ∧ FitA j ((zipA G zs).take i) ∧ w = wr) (fun c _ => n - (intOf c).toNat)
  case atStart => exact ⟨0, Nat.zero_le _, rfl, by simp [FitA], rfl⟩
  case round =>
    obtain ⟨i, hi, rfl, hfit, rfl⟩ := hrel
    have HFIT := Hid.mk hfit
    clear hfit
    by_cases hlt : i < n
    · have hltI : (i : Int) < (n : Int) := by omega
      obtain ⟨p, hp⟩ : ∃ p, G[i]? = some p := ⟨_, List.getElem?_eq_getElem (by rw [← HN.out]; exact hlt)⟩
      obtain ⟨z, hz⟩ : ∃ z, zs[i]? = some z := ⟨_, List.getElem?_eq_getElem (by rw [← HM.out]; exact hlt)⟩
      obtain ⟨g1, o1, e1, _, _, d1⟩ := HSL.out.get hp
      obtain ⟨g2, o2, e2, _, _, d2⟩ := H2.out.get hz
      have HPE := Hid.mk (HEL.out p (List.mem_of_getElem? hp))
      have hpl := (HLE.out p (List.mem_of_getElem? hp)).1
      have HZM := Hid.mk (zip_mem hp hz)
      have HZA := Hid.mk (zip_at hp hz)
      have q1 := getA d1
      have q2 := getZ d2
      rw [Nat.mul_one] at q1 q2
      subst e1 e2
      clear hp hz d1 d2
      obtain ⟨pv, pl⟩ := p
      simp only at q1 hpl
      obtain ⟨pa, pc, hpv⟩ := HPE.out.slice
      simp only at hpv
      obtain ⟨np, hnp⟩ : ∃ np, np = pl.length := ⟨_, rfl⟩
      rw [← hnp] at hpl hpv
      subst hpv
      have HNP := Hid.mk hnp
      clear hnp
      by_cases hz0 : z < 0
      · have HE := Hid.mk (HBAD.out (fun h => by have := (h _ HZM.out).2.1; simp only at this; omega))
        go_wp2
        go_ret
        exact ⟨by rw [HE.out]; rfl, rfl⟩
      by_cases hz1 : 1048576 < z
      · have HE := Hid.mk (HBAD.out (fun h => by have := (h _ HZM.out).2.2; simp only at this; omega))
        go_wp2
        go_ret
        exact ⟨by rw [HE.out]; rfl, rfl⟩
      go_wp2_with fail
      go_loopw [10] (fun c wr => ∃ l : Nat, l ≤ np ∧ c = .int .i64 (l : Int) ∧ (∀ (b : Nat) x, b < l → pl[b]? = some x → 0 ≤ x ∧ x < (j : Int)) ∧ w = wr) (fun c _ => np - (intOf c).toNat)
      case atStart => exact ⟨0, Nat.zero_le _, rfl, fun b x hb => absurd hb (by omega), rfl⟩
      case round =>
        obtain ⟨l, hl, rfl, hall, rfl⟩ := hrel
        have HALL := Hid.mk hall
        clear hall
        by_cases hlp : l < np
        · have hlpI : (l : Int) < (np : Int) := by omega
          obtain ⟨x, hx⟩ : ∃ x, pl[l]? = some x := ⟨_, List.getElem?_eq_getElem (by rw [← HNP.out]; exact hlp)⟩
          obtain ⟨g3, o3, e3, _, _, d3⟩ := HPE.out.get (j := l) (x := x) hx
          have q3 := getZ d3
          rw [Nat.mul_one] at q3
          subst e3
          have HXM := Hid.mk (List.mem_of_getElem? hx)
          have HXX := Hid.mk hx
          clear hx d3
          by_cases hx0 : x < 0
          · have HE := Hid.mk (HBAD.out (fun h => by have := ((h _ HZM.out).1 x HXM.out).1; omega))
            go_wp2
            go_ret
            exact ⟨by rw [HE.out]; rfl, rfl⟩
          by_cases hx1 : (j : Int) ≤ x
          · have HE := Hid.mk (HBAD.out (fun h => by have := ((h _ HZM.out).1 x HXM.out).2; omega))
            go_wp2
            go_ret
            exact ⟨by rw [HE.out]; rfl, rfl⟩
          have HALL2 : Hid (∀ (b : Nat) x, b < l + 1 → pl[b]? = some x → 0 ≤ x ∧ x < (j : Int)) := Hid.mk (fun b x' hb hx' => by
            by_cases e : b = l
            · subst e
              rw [HXX.out] at hx'
              rw [← Option.some.inj hx']
              omega
            · exact HALL.out b x' (by omega) hx')
          go_wp2
          go_roundw
          case rel => exact ⟨l + 1, by omega, by go_num, HALL2.out, by trivial⟩
          case measure => simp [intOf]; omega
        · have hlpI : ¬ (l : Int) < (np : Int) := by omega
          have HFIT2 : Hid (FitA j ((zipA G zs).take (i + 1))) := Hid.mk (fit_step HFIT.out HZA.out ⟨fun x hx => by
            obtain ⟨b, hb⟩ := List.getElem?_of_mem hx
            exact HALL.out b x (by have := (List.getElem?_eq_some_iff.1 hb).1; have := HNP.out; simp only at *; omega) hb, by simp only; omega, by simp only; omega⟩)
          go_wp2
          go_roundw
          case rel => exact ⟨i + 1, by omega, by go_num, HFIT2.out, by trivial⟩
          case measure => simp [intOf]; omega
    · have hltI : ¬ (i : Int) < (n : Int) := by omega
      have HE := Hid.mk (HGOOD.out (by
        have := HFIT.out
        rw [List.take_of_length_le (by rw [zipA, List.length_zip, List.length_map]; have := HN.out; have := HM.out; omega)] at this
        exact this))
      go_wp2
      go_ret
      exact ⟨by rw [HE.out]; rfl, rfl⟩
end Go.Proofs.Ytojjepkmnifngaa
