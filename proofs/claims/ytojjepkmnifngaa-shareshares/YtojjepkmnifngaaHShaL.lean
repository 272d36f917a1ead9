/- The shares of any atoms are the document's. -/
import Derived.Test.YtojjepkmnifngaaHRSha
namespace Go.Proofs.Ytojjepkmnifngaa
open Go.RowKit

noncomputable def shaF (a k : Int) (G : List Vz) (zs : List Int) : List Int := open Classical in if askS a k G zs then shaM a.toNat k.toNat (zipA G zs) else []
noncomputable def shaR (a k : Int) (G : List Vz) (zs : List Int) : Int := open Classical in if askS a k G zs then 0 else 1
def ShaU (a k : Int) (G : List Vz) (zs : List Int) (w : World) (e : Ending) (w' : World) : Prop := (∃ ao n cap, e = .returned (.tuple #[.slice ao n cap, .int .i64 (shaR a k G zs)]) ∧ n = (shaF a k G zs).length ∧ IntZ (fun _ => True) w' (.slice ao n cap) (shaF a k G zs)) ∧ Below w.heap.size w w'
theorem ShaE.uni {a k : Int} {G : List Vz} {zs : List Int} {w w' : World} {e : Ending} (h : ShaE a k G zs w e w') : ShaU a k G zs w e w' := by
  obtain ⟨hb, h⟩ := h
  refine ⟨?_, hb⟩
  rcases h with ⟨ha, v, rfl, hv⟩ | ⟨ha, rfl⟩
  · obtain ⟨ao, cap, rfl⟩ := hv.slice
    refine ⟨ao, _, cap, by rw [shaR, if_pos ha], by rw [shaF, if_pos ha], ?_⟩
    rw [shaF, if_pos ha]
    exact hv.sub (fun _ _ _ => trivial)
  · refine ⟨none, 0, 0, by rw [shaR, if_neg ha], by rw [shaF, if_neg ha]; rfl, ?_⟩
    rw [shaF, if_neg ha]
    exact SlS.nil _ _
theorem shaF_len (a k : Int) (G : List Vz) (zs : List Int) : (shaF a k G zs).length ≤ 6 := by
  unfold shaF
  split
  · next ha =>
    obtain ⟨⟨ha1, ha2⟩, ⟨hk1, hk2⟩, hll, h12, hfit⟩ := ha
    have hne := all_ne k.toNat a.toNat (by omega)
    have hs := bst_spec (fun L => loadP L (onceA (zipA G zs))) (allI k.toNat a.toNat) (fun l hl => by
      obtain ⟨hok, hlen⟩ := all_ok (k := k.toNat) (m := a.toNat) (by omega) (by omega) hl
      exact (load_range (A := zipA G zs) (by rw [hlen]; exact hfit) hok).1)
    rcases hs with ⟨h0, _⟩ | ⟨h0, _⟩
    · rw [h0] at hne; simp at hne
    · have := all_mem_len h0
      rw [shaM]; omega
  · simp
set_option maxRecDepth 100000 in
set_option maxHeartbeats 8000000 in
theorem shareShares_walk (r : Int × Int) (v2 : Value) (G : List Vz) (v3 : Value) (zs : List Int) (w : World) (_ : (Lit.int .i64 r.1).wf = true ∧ (Lit.int .i64 r.2).wf = true) (h2 : AtmS (fun _ => True) w v2 G) (g2 : G.length ≤ 9223372036854775807) (h3 : IntZ (fun _ => True) w v3 zs) (g3 : zs.length ≤ 9223372036854775807 ∧ CapS v3 zs.length) :
    Calls Try.prog 3 #[.agg #[.int .i64 r.1, .int .i64 r.2], v2, v3] w fun e w' => e = .returned (.bool true) ∧ Below w.heap.size w w' := by
  obtain ⟨z1, z2⟩ := r
  simp only
  obtain ⟨W0, hW0⟩ : ∃ W, W = w.alloc (.cells #[.int .i64 z1, .int .i64 z2] 22) := ⟨_, rfl⟩
  have hb0 : Below w.heap.size w W0 := by rw [hW0]; exact (Below.refl _ _).alloc (Nat.le_refl _) _
  have hbx : VRow W0 w.heap.size 22 [.int .i64 z1, .int .i64 z2] := by rw [hW0]; exact heap_alloc_new _ _
  have HBX : Hid (∀ W, Below W0.heap.size W0 W → W.cell? ⟨w.heap.size, 0, none⟩ = some (.int .i64 z1) ∧ W.cell? ⟨w.heap.size, 1, none⟩ = some (.int .i64 z2)) := Hid.mk (fun W hW => ⟨((hbx.below hW).cell (i := 0) rfl).1, ((hbx.below hW).cell (i := 1) rfl).1⟩)
  have h2' := h2.below hb0
  have h3' := h3.below hb0
  have HLI := Hid.mk (light_any h2')
  have HAW : Hid (∀ W, Below W0.heap.size W0 W → Calls Try.prog 6 #[] W fun e w' => e = .returned (.bool true) ∧ Below w.heap.size w w') := Hid.mk (fun W hW => (awake_any W).mono (by
    rintro e w' ⟨rfl, hb⟩
    have h1 : Below w.heap.size w W := hb0.trans (hW.mono hb0.size)
    exact ⟨rfl, h1.trans (hb.mono h1.size)⟩))
  have HSH : Hid (∀ W, Below W0.heap.size W0 W → Calls Try.prog 7 #[.int .i64 z1, .int .i64 z2, v2, v3] W (ShaU z1 z2 G zs W)) := Hid.mk (fun W hW => (shares_any (h2'.below hW) (h3'.below hW) z1 z2).mono (fun _ _ h => h.uni))
  have HRS : Hid (∀ W, Below W0.heap.size W0 W → Calls Try.prog 8 #[.int .i64 z1, .int .i64 z2, v2, v3] W (ShaU z1 z2 G zs W)) := Hid.mk (fun W hW => (rShares_any (h2'.below hW) (h3'.below hW) g2 g3.1 z1 z2).mono (fun _ _ h => h.uni))
  have hFl := shaF_len z1 z2 G zs
  obtain ⟨a2, c2, hv2⟩ := h2.sl.slice
  obtain ⟨a3, c3, hv3⟩ := h3.slice
  obtain ⟨n2, hn2⟩ : ∃ n, n = G.length := ⟨_, rfl⟩
  obtain ⟨n3, hn3⟩ : ∃ n, n = zs.length := ⟨_, rfl⟩
  rw [← hn2] at hv2
  rw [← hn3] at hv3
  subst hv2 hv3
  clear h2 h3 h2' h3' hn2 hn3 hb0 hbx
  go_enter Try.func3, Try.ntmps3
  go_wp2_with fail
  rw [← hW0]
  refine HLI.out.mono ?_
  rintro e w1 ⟨⟨lb, rfl⟩, hb1⟩
  have HB1 := Hid.mk hb1
  clear hb1 hW0
  obtain ⟨qb1, qb2⟩ := HBX.out w1 HB1.out
  cases lb with
  | false =>
    go_wp2_with fail
    refine (HAW.out w1 HB1.out).mono ?_
    rintro e w2 ⟨rfl, hb2⟩
    have HB2 := Hid.mk hb2
    clear hb2
    go_wp2
    go_ret
    exact ⟨rfl, HB2.out⟩
  | true =>
    by_cases hout : 16 < z1 ∧ z1 ≤ 64 ∧ 4 < z2 ∧ z2 ≤ 6
    · obtain ⟨h1, h2, h3, h4⟩ := hout
      go_wp2_with fail
      refine (HAW.out w1 HB1.out).mono ?_
      rintro e w2 ⟨rfl, hb2⟩
      have HB2 := Hid.mk hb2
      clear hb2
      go_wp2
      go_ret
      exact ⟨rfl, HB2.out⟩
    · rcases (show ¬ 16 < z1 ∨ (16 < z1 ∧ ¬ z1 ≤ 64) ∨ ((16 < z1 ∧ z1 ≤ 64) ∧ ¬ 4 < z2) ∨ ((16 < z1 ∧ z1 ≤ 64) ∧ 4 < z2 ∧ ¬ z2 ≤ 6) by omega) with h | ⟨h, h'⟩ | ⟨⟨h, h'⟩, h''⟩ | ⟨⟨h, h'⟩, h'', h'''⟩
      all_goals (
        clear hout
        go_wp2_with fail
        refine (HSH.out w1 HB1.out).mono ?_
        rintro e w2 ⟨⟨ra, rn, rc, rfl, hrn, hr⟩, hb2⟩
        have HB2 : Hid (Below W0.heap.size W0 w2) := Hid.mk (HB1.out.trans (hb2.mono HB1.out.size))
        have HR := Hid.mk hr
        have HRN := Hid.mk hrn
        clear hb2 hr qb1 qb2 hrn
        obtain ⟨qb1, qb2⟩ := HBX.out w2 HB2.out
        go_wp2_with fail
        refine (HRS.out w2 HB2.out).mono ?_
        rintro e w3 ⟨⟨sa, sn, sc, rfl, hsn, hs⟩, hb3⟩
        have HB3 : Hid (Below W0.heap.size W0 w3) := Hid.mk (HB2.out.trans (hb3.mono HB2.out.size))
        have HSM : Hid (Calls Try.prog 9 #[.slice ra rn rc, .slice sa sn sc] w3 fun e w' => e = .returned (.bool true) ∧ Below w3.heap.size w3 w') := Hid.mk (by
          have := rSameZ_any (HR.out.below hb3) hs (by omega)
          rw [decide_eq_true rfl] at this
          exact this)
        obtain ⟨er, her⟩ : ∃ er, er = shaR z1 z2 G zs := ⟨_, rfl⟩
        rw [← her]
        have hee : (er == er) = true := by simp
        clear hb3 hs her hsn qb1 qb2
        go_wp2_with fail
        refine HSM.out.mono ?_
        rintro e w4 ⟨rfl, hb4⟩
        have HB4 : Hid (Below W0.heap.size W0 w4) := Hid.mk (HB3.out.trans (hb4.mono HB3.out.size))
        clear hb4
        go_wp2_with fail
        refine (HAW.out w4 HB4.out).mono ?_
        rintro e w5 ⟨rfl, hb5⟩
        have HB5 := Hid.mk hb5
        clear hb5
        go_wp2
        go_ret
        exact ⟨rfl, HB5.out⟩)
end Go.Proofs.Ytojjepkmnifngaa
