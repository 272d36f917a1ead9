/- More workers, no more load. -/
import Derived.Test.YtbknlmalfkpenabHRLoad
namespace Go.Proofs.Ytbknlmalfkpenab
open Go.RowKit

theorem allI_ok {k a : Nat} {l : List Int} (hk : k ≤ 16) (ha : a ≤ 64) (h : l ∈ allI k a) : okL l = true ∧ l.length = k := by
  obtain ⟨h1, h2, h3⟩ := (mem_allI k a l).1 h
  refine ⟨okL_iff.2 ⟨by omega, h2, ?_⟩, h1⟩
  rcases h3 with h3 | h3
  · rw [h3] at h1
    rw [List.length_eq_zero_iff.1 h1]
    simp [prodI]
  · omega
theorem sha_spec {a k : Nat} (hk : k ≤ 16) (ha1 : 1 ≤ a) (ha : a ≤ 64) {P : List (List Int × Int)} (hP : FitA k P) : shaM a k P ∈ allI k a ∧ ∀ l ∈ allI k a, loadP (shaM a k P) (onceA P) ≤ loadP l (onceA P) := by
  have hf : ∀ l ∈ allI k a, 0 ≤ (fun L => loadP L (onceA P)) l := fun l hl => by
    obtain ⟨h1, h2⟩ := allI_ok hk ha hl
    exact (load_range (by rw [h2]; exact hP) h1).1
  rcases bst_spec (fun L => loadP L (onceA P)) (allI k a) hf with ⟨h, _⟩ | ⟨h1, _, h3⟩
  · exact absurd h (allI_ne k a ha1)
  · exact ⟨h1, h3⟩
theorem allI_mono {k a b : Nat} (h : a ≤ b) {l : List Int} (hl : l ∈ allI k a) : l ∈ allI k b := by
  obtain ⟨h1, h2, h3⟩ := (mem_allI k a l).1 hl
  refine (mem_allI k b l).2 ⟨h1, h2, ?_⟩
  rcases h3 with h3 | h3
  · exact .inl h3
  · exact .inr (by omega)
theorem sha_one (P : List (List Int × Int)) : shaM 1 4 P = [1, 1, 1, 1] := by
  have e : allI 4 1 = [[1, 1, 1, 1]] := by decide +kernel
  unfold shaM
  rw [e, bst_one]
theorem mask24 (z : Int) : ∃ q j : Nat, bits .and .i64 z 65535 = (q : Int) ∧ q ≤ 65535 ∧ (q : Int).tmod 24 = (j : Int) ∧ j < 24 := by
  refine ⟨(z % 65536).toNat, (z % 65536).toNat % 24, by rw [i64_maskH z 16 65535 65536 (by omega) (by decide) (by decide)]; omega, by omega, ?_, Nat.mod_lt _ (by omega)⟩
  rw [Int.tmod_eq_emod_of_nonneg (by omega)]
  rfl
set_option maxHeartbeats 16000000 in
set_option maxRecDepth 100000 in
theorem shareMore_walk (r : Int × Int) (v2 : Value) (G : List Vz) (v3 : Value) (zs : List Int) (w : World) (_ : (Lit.int .i64 r.1).wf = true ∧ (Lit.int .i64 r.2).wf = true) (h2 : AtmS (fun _ => True) w v2 G) (_ : G.length ≤ 9223372036854775807) (h3 : IntZ (fun _ => True) w v3 zs) (_ : zs.length ≤ 9223372036854775807 ∧ CapS v3 zs.length) :
    Calls Try.prog 3 #[.agg #[.int .i64 r.1, .int .i64 r.2], v2, v3] w fun e w' => e = .returned (.bool true) ∧ Below w.heap.size w w' := by
  obtain ⟨z1, z2⟩ := r
  simp only
  obtain ⟨W0, hW0⟩ : ∃ W, W = w.alloc (.cells #[.int .i64 z1, .int .i64 z2] 22) := ⟨_, rfl⟩
  have hb0 : Below w.heap.size w W0 := by rw [hW0]; exact (Below.refl _ _).alloc (Nat.le_refl _) _
  have hbx : VRow W0 w.heap.size 22 [.int .i64 z1, .int .i64 z2] := by rw [hW0]; exact heap_alloc_new _ _
  have HBX : Hid (∀ W, Below W0.heap.size W0 W → W.cell? ⟨w.heap.size, 0, none⟩ = some (.int .i64 z1) ∧ W.cell? ⟨w.heap.size, 1, none⟩ = some (.int .i64 z2)) := Hid.mk (fun W hW => ⟨((hbx.below hW).cell (i := 0) rfl).1, ((hbx.below hW).cell (i := 1) rfl).1⟩)
  have h2' := h2.below hb0
  have h3' := h3.below hb0
  have HAW : Hid (∀ W, Below W0.heap.size W0 W → Calls Try.prog 5 #[] W fun e w' => e = .returned (.bool true) ∧ Below w.heap.size w w') := Hid.mk (fun W hW => (awake_any W).mono (fun e w' h => ⟨h.1, hb0.trans ((hW.trans (h.2.mono hW.size)).mono hb0.size)⟩))
  have HLI := Hid.mk (light_any h2')
  have HSH : Hid (∀ W a, Below W0.heap.size W0 W → Calls Try.prog 6 #[.int .i64 a, .int .i64 4, v2, v3] W (ShaE a 4 G zs W)) := Hid.mk (fun W a hW => shares_any (h2'.below hW) (h3'.below hW) a 4)
  have HLO : Hid (∀ W (T : Nat → Prop) (v : Value) (L : List Int), Below W0.heap.size W0 W → IntZ T W v L → okL L = true → L.length = 4 → FitA 4 (zipA G zs) → zs.length = G.length → zs.length ≤ 12 → Calls Try.prog 8 #[v, v2, v3] W fun e w' => e = .returned (.int .i64 (loadP L (onceA (zipA G zs)))) ∧ Below W.heap.size W w') := Hid.mk (fun W T v L hW hv hL hl hA a b => rLoad_any hv (h2'.below hW) (h3'.below hW) hL (by rw [hl]; exact hA) a b)
  obtain ⟨a2, c2, rfl⟩ := h2.sl.slice
  obtain ⟨a3, c3, rfl⟩ := h3.slice
  obtain ⟨n2, hn2⟩ : ∃ n, n = G.length := ⟨_, rfl⟩
  obtain ⟨n3, hn3⟩ : ∃ n, n = zs.length := ⟨_, rfl⟩
  rw [← hn2] at HLI HSH HLO ⊢
  rw [← hn3] at HSH HLO ⊢
  have HN2 := Hid.mk hn2
  have HN3 := Hid.mk hn3
  clear h2 h3 h2' h3' hbx hb0 hn2 hn3
  obtain ⟨y1, ja, hy1, hy1b, hja, hjan⟩ := mask24 z1
  obtain ⟨y2, jb, hy2, hy2b, hjb, hjbn⟩ := mask24 z2
  go_enter Try.func3, Try.ntmps3
  go_wp2_with fail
  rw [← hW0]
  refine HLI.out.mono ?_
  rintro e w1 ⟨⟨lb, rfl⟩, hb1⟩
  have HB1 := Hid.mk hb1
  clear hb1 hW0
  cases lb with
  | false =>
    go_wp2_with fail
    refine (HAW.out w1 HB1.out).mono ?_
    rintro e w2 ⟨rfl, hb2⟩
    have HB2 := Hid.mk hb2
    clear hb2
    go_wp2
    go_ret
    exact ⟨rfl, HB2.out⟩
  | true =>
    obtain ⟨qb1, qb2⟩ := HBX.out w1.drew HB1.out.drew
    go_wp2_with fail
    go_region
    obtain ⟨wy, hwy⟩ : ∃ wy, wy = w1.drew := ⟨_, rfl⟩
    have hby : Below W0.heap.size W0 wy := by rw [hwy]; exact HB1.out.drew
    rw [← hwy]
    have HBY := Hid.mk hby
    clear hwy hby qb1 qb2 hy1 hy2 hja hjb hy1b hy2b
    obtain ⟨lo, hi, hmin, hmax, hlh, hh24⟩ : ∃ lo hi : Nat, min (ja : Int) (jb : Int) = (lo : Int) ∧ max (ja : Int) (jb : Int) = (hi : Int) ∧ lo ≤ hi ∧ hi < 24 := ⟨min ja jb, max ja jb, by omega, by omega, by omega, by omega⟩
    have HSL := Hid.mk (HSH.out wy (1 + (lo : Int)) HBY.out)
    go_wp2_with fail
    clear hmin hmax
    refine HSL.out.mono ?_
    rintro e w3 ⟨hb3, h3⟩
    have HB3 := Hid.mk (HBY.out.trans (hb3.mono HBY.out.size))
    have HS2 := Hid.mk (HSH.out w3 (1 + (hi : Int)) HB3.out)
    rcases h3 with ⟨hask, xv, rfl, hx⟩ | ⟨hno, rfl⟩
    · have hxs := hx
      obtain ⟨xa, xc, hxv⟩ := hx.slice
      obtain ⟨_, _, hq1, hq2, hq3⟩ := hask
      have hP : FitA 4 (zipA G zs) := hq3
      obtain ⟨sx1, sx2⟩ := sha_spec (a := (1 + (lo : Int)).toNat) (k := 4) (by omega) (by omega) (by omega) hP
      obtain ⟨ox1, ox2⟩ := allI_ok (by omega) (by omega) sx1
      obtain ⟨sy1, sy2⟩ := sha_spec (a := (1 + (hi : Int)).toNat) (k := 4) (by omega) (by omega) (by omega) hP
      obtain ⟨oy1, oy2⟩ := allI_ok (by omega) (by omega) sy1
      have hyx := sy2 _ (allI_mono (by omega) sx1)
      have hone : [1, 1, 1, 1] ∈ allI 4 1 := by decide +kernel
      have hxz := sx2 _ (allI_mono (by omega) hone)
      have okz : okL [1, 1, 1, 1] = true := by decide
      have rx := load_range (A := zipA G zs) (by rw [ox2]; exact hP) ox1
      have ry := load_range (A := zipA G zs) (by rw [oy2]; exact hP) oy1
      have rz := load_range (A := zipA G zs) (L := [1, 1, 1, 1]) hP okz
      obtain ⟨X, hX⟩ : ∃ X, X = shaM (1 + (lo : Int)).toNat 4 (zipA G zs) := ⟨_, rfl⟩
      obtain ⟨Y, hY⟩ : ∃ Y, Y = shaM (1 + (hi : Int)).toNat 4 (zipA G zs) := ⟨_, rfl⟩
      rw [← hX] at ox1 ox2 hyx hxz rx
      rw [← hY] at oy1 oy2 hyx ry
      have hx2 : IntZ (fun b => wy.heap.size ≤ b) w3 xv X := by rw [hX]; exact hx
      rw [show (shaM (1 + (lo : Int)).toNat (Int.toNat 4) (zipA G zs)).length = 4 by rw [show Int.toNat 4 = 4 from rfl, ← hX]; exact ox2] at hxv
      subst hxv
      have HX := Hid.mk hx2
      have HP := Hid.mk hP
      have HQ1 : Hid (zs.length = G.length) := Hid.mk hq1
      have HQ2 : Hid (zs.length ≤ 12) := Hid.mk hq2
      have HASK : Hid (∀ j : Nat, j < 24 → askS (1 + (j : Int)) 4 G zs) := Hid.mk (fun j hj => ⟨by omega, by omega, hq1, hq2, hq3⟩)
      have HAS1 : Hid (askS 1 4 G zs) := Hid.mk ⟨by omega, by omega, hq1, hq2, hq3⟩
      have HOX := Hid.mk (And.intro ox1 ox2)
      have HOY := Hid.mk (And.intro oy1 oy2)
      have HYY := Hid.mk hY
      obtain ⟨fx, hfx⟩ : ∃ f, f = loadP X (onceA (zipA G zs)) := ⟨_, rfl⟩
      obtain ⟨fy, hfy⟩ : ∃ f, f = loadP Y (onceA (zipA G zs)) := ⟨_, rfl⟩
      obtain ⟨fz, hfz⟩ : ∃ f, f = loadP [1, 1, 1, 1] (onceA (zipA G zs)) := ⟨_, rfl⟩
      rw [← hfx] at hyx hxz
      rw [← hfy] at hyx
      rw [← hfz] at hxz
      have HFX := Hid.mk hfx
      have HFY := Hid.mk hfy
      have HFZ := Hid.mk hfz
      clear hxs hx hx2 hX hY sx1 sx2 sy1 sy2 ox1 ox2 oy1 oy2 hone okz rx ry rz hq1 hq2 hq3 hP hfx hfy hfz hb3
      go_wp2_with fail
      refine HS2.out.mono ?_
      rintro e w4 ⟨hb4, h4⟩
      rcases h4 with ⟨_, yv, rfl, hy⟩ | ⟨hno, _⟩
      case inr => exact absurd (HASK.out hi (by omega)) hno
      have hy2 : IntZ (fun b => w3.heap.size ≤ b) w4 yv Y := by rw [HYY.out]; exact hy
      obtain ⟨ya, yc, hyv⟩ := hy2.slice
      rw [HOY.out.2] at hyv
      subst hyv
      have HY := Hid.mk hy2
      have HB4 := Hid.mk (HB3.out.trans (hb4.mono HB3.out.size))
      have HX4 := Hid.mk (HX.out.below hb4)
      have HS3 := Hid.mk (HSH.out w4 1 HB4.out)
      clear hy hy2 hb4
      go_wp2_with fail
      refine HS3.out.mono ?_
      rintro e w5 ⟨hb5, h5⟩
      rcases h5 with ⟨_, zv, rfl, hz⟩ | ⟨hno, _⟩
      case inr => exact absurd HAS1.out hno
      have hz2 : IntZ (fun b => w4.heap.size ≤ b) w5 zv [1, 1, 1, 1] := by have := hz; rw [show Int.toNat 1 = 1 from rfl, show Int.toNat 4 = 4 from rfl, sha_one] at this; exact this
      obtain ⟨za, zc, hzv⟩ := hz2.slice
      subst hzv
      have HZ := Hid.mk hz2
      have HB5 := Hid.mk (HB4.out.trans (hb5.mono HB4.out.size))
      have HX5 := Hid.mk (HX4.out.below hb5)
      have HY5 := Hid.mk (HY.out.below hb5)
      clear hz hz2 hb5
      have hr5 : VRow (w5.alloc (.cells #[.int .i64 1, .int .i64 1, .int .i64 1, .int .i64 1] 3)) w5.heap.size 3 (([1, 1, 1, 1] : List Int).flatMap csZ) := heap_alloc_new _ _
      have ba5 : Below w5.heap.size w5 (w5.alloc (.cells #[.int .i64 1, .int .i64 1, .int .i64 1, .int .i64 1] 3)) := (Below.refl _ _).alloc (Nat.le_refl _) _
      have HC6 := Hid.mk (rSameZ_any (HZ.out.below ba5) (slZ hr5 (n := 4) rfl) (by simp))
      rw [show decide (([1, 1, 1, 1] : List Int) = [1, 1, 1, 1]) = true by rfl] at HC6
      have HBA5 := Hid.mk ba5
      clear hr5 ba5
      go_wp2_with fail
      refine HC6.out.mono ?_
      rintro e w6 ⟨rfl, hb6⟩
      have hb56 := HBA5.out.trans (hb6.mono HBA5.out.size)
      have HB6 := Hid.mk (HB5.out.trans (hb56.mono HB5.out.size))
      have HX6 := Hid.mk (HX5.out.below hb56)
      have HY6 := Hid.mk (HY5.out.below hb56)
      have HZ6 := Hid.mk (HZ.out.below hb56)
      have HL7 := Hid.mk (HLO.out w6 _ _ Y HB6.out HY6.out HOY.out.1 HOY.out.2 HP.out (by rw [HN2.out, HN3.out]; exact HQ1.out) (by rw [HN3.out]; exact HQ2.out))
      rw [← HFY.out] at HL7
      clear hb6 hb56
      go_wp2_with fail
      refine HL7.out.mono ?_
      rintro e w7 ⟨rfl, hb7⟩
      have HB7 := Hid.mk (HB6.out.trans (hb7.mono HB6.out.size))
      have HX7 := Hid.mk (HX6.out.below hb7)
      have HZ7 := Hid.mk (HZ6.out.below hb7)
      have HL8 := Hid.mk (HLO.out w7 _ _ X HB7.out HX7.out HOX.out.1 HOX.out.2 HP.out (by rw [HN2.out, HN3.out]; exact HQ1.out) (by rw [HN3.out]; exact HQ2.out))
      rw [← HFX.out] at HL8
      clear hb7
      go_wp2_with fail
      refine HL8.out.mono ?_
      rintro e w8 ⟨rfl, hb8⟩
      have HB8 := Hid.mk (HB7.out.trans (hb8.mono HB7.out.size))
      have HX8 := Hid.mk (HX7.out.below hb8)
      have HZ8 := Hid.mk (HZ7.out.below hb8)
      have HL9 := Hid.mk (HLO.out w8 _ _ X HB8.out HX8.out HOX.out.1 HOX.out.2 HP.out (by rw [HN2.out, HN3.out]; exact HQ1.out) (by rw [HN3.out]; exact HQ2.out))
      rw [← HFX.out] at HL9
      clear hb8
      go_wp2_with fail
      refine HL9.out.mono ?_
      rintro e w9 ⟨rfl, hb9⟩
      have HB9 := Hid.mk (HB8.out.trans (hb9.mono HB8.out.size))
      have HZ9 := Hid.mk (HZ8.out.below hb9)
      have HL10 := Hid.mk (HLO.out w9 _ _ [1, 1, 1, 1] HB9.out HZ9.out (by decide) rfl HP.out (by rw [HN2.out, HN3.out]; exact HQ1.out) (by rw [HN3.out]; exact HQ2.out))
      rw [← HFZ.out] at HL10
      clear hb9
      go_wp2_with fail
      refine HL10.out.mono ?_
      rintro e w10 ⟨rfl, hb10⟩
      have HB10 := Hid.mk (HB9.out.trans (hb10.mono HB9.out.size))
      clear hb10
      go_wp2_with fail
      refine (HAW.out w10 HB10.out).mono ?_
      rintro e w11 ⟨rfl, hb11⟩
      have HB11 := Hid.mk hb11
      clear hb11
      go_wp2
      go_ret
      exact ⟨rfl, HB11.out⟩
    · have HNO : Hid (∀ a, 1 ≤ a → a ≤ 64 → ¬ askS a 4 G zs) := Hid.mk (fun a h1 h2 ⟨_, b, c, d, e⟩ => hno ⟨by omega, b, c, d, e⟩)
      clear hno hb3
      go_wp2_with fail
      refine HS2.out.mono ?_
      rintro e w4 ⟨hb4, h4⟩
      have HB4 := Hid.mk (HB3.out.trans (hb4.mono HB3.out.size))
      have HS3 := Hid.mk (HSH.out w4 1 HB4.out)
      rcases h4 with ⟨hask, _⟩ | ⟨_, rfl⟩
      · exact absurd hask (HNO.out _ (by omega) (by omega))
      clear hb4
      go_wp2_with fail
      refine HS3.out.mono ?_
      rintro e w5 ⟨hb5, h5⟩
      have HB5 := Hid.mk (HB4.out.trans (hb5.mono HB4.out.size))
      rcases h5 with ⟨hask, _⟩ | ⟨_, rfl⟩
      · exact absurd hask (HNO.out _ (by omega) (by omega))
      clear hb5
      go_wp2_with fail
      refine (HAW.out w5 HB5.out).mono ?_
      rintro e w6 ⟨rfl, hb6⟩
      have HB6 := Hid.mk hb6
      clear hb6
      go_wp2
      go_ret
      exact ⟨rfl, HB6.out⟩
end Go.Proofs.Ytbknlmalfkpenab
