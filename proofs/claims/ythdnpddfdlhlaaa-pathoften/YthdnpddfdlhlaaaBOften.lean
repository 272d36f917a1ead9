/- PathOften. (Written by a program.) -/
import Derived.Test.YthdnpddfdlhlaaaBLaw
import Derived.Test.YthdnpddfdlhlaaaQOpen
namespace Go.Proofs.Ythdnpddfdlhlaaa
open Go.RowKit Go.Shelf

set_option maxRecDepth 100000 in
set_option maxHeartbeats 8000000 in
theorem pathOften_walk (t : Vt) (v : Value) (L : List Wd) (w : World) (h : VOk (fun _ => True) w t) (hv : TxtS (fun _ => True) w v L) (hcap : L.length ≤ 9223372036854775807 ∧ CapS v L.length) :
    Calls Try.prog 7 #[encN t, v] w fun e w' => e = .returned (.bool true) ∧ Below w.heap.size w w' := by
  obtain ⟨hvl, va, vc, rfl, hvc⟩ := hcap
  obtain ⟨ao, cap, hvv⟩ := h.parts.1.slice
  have hkl := h.parts.2.2.1
  obtain ⟨P, hP⟩ : ∃ P, P = t.pt := ⟨_, rfl⟩
  obtain ⟨b, hb⟩ : ∃ b, b = mayP P := ⟨_, rfl⟩
  have HV := Hid.mk hv
  have CF := Hid.mk (fun u (hu : Below w.heap.size w u) => flat_any (h.below hu))
  have CM : Hid (∀ u, Below w.heap.size w u → Calls Try.prog 23 #[encN t] u fun e w' => e = .returned (.bool b) ∧ Below u.heap.size u w') := Hid.mk (fun u hu => by rw [hb, hP]; exact rMayPath_any (h.below hu))
  have HHI : Hid (b = true → high P ≤ 12) := Hid.mk (fun h1 => by rw [hb] at h1; exact may_high h1)
  have CD : Hid (b = true → ∀ u, Below w.heap.size w u → Calls Try.prog 25 #[encN t] u fun e w' => e = .returned (.int .i64 (high P : Int)) ∧ Below u.heap.size u w') := Hid.mk (fun h1 u hu => by
    rw [hP]
    refine rDeep_any t u ?_ (h.below hu)
    have := HHI.out h1
    rw [hP] at this
    omega)
  have CO : Hid (b = true → ∀ u, Below w.heap.size w u → Calls Try.prog 11 #[encN t] u (OfE P u)) := Hid.mk (fun h1 u hu => by rw [hP]; exact of_may (h.below hu) (by rw [← hP, ← hb, h1]))
  have CK : Hid (∀ k : Int, k = 4 ∨ k = 5 ∨ k = 6 → b = true → high P ≤ 11 → ∀ u g, Below w.heap.size w u → u.heap[g]? = some (.cells #[.int .i64 t.kind, .string ⟨t.word.toArray⟩, t.val] 24 (0, 0)) → Calls Try.prog 11 #[.agg #[.int .i64 k, .string ⟨#[]⟩, .slice (some ⟨g, 0, none⟩) 1 1]] u (OfE ⟨k, [], [P]⟩ u)) := Hid.mk (fun k hk h1 h2 u g hu hg => by
    have hv : VOk (fun _ => True) u ⟨k, [], .slice (some ⟨g, 0, none⟩) 1 1, [t]⟩ := vok_mk.2 ⟨sl_lit csN_len hg (by rfl) (by rfl), by simp, by simp, fun x hx => by simp at hx; subst hx; exact h.below hu⟩
    have hp : Vt.pt ⟨k, [], .slice (some ⟨g, 0, none⟩) 1 1, [t]⟩ = ⟨k, [], [P]⟩ := by rw [Vt.pt_mk, hP]; rfl
    have := of_may hv (by rw [hp]; exact may_one hk (by rw [← hb, h1]) h2)
    rw [hp] at this
    exact this)
  have HB := Hid.mk hb
  obtain ⟨k, wd, kv, l⟩ := t
  dsimp only at hvv hkl CK
  subst hvv
  obtain ⟨nk, hnk⟩ : ∃ n, n = l.length := ⟨_, rfl⟩
  rw [← hnk] at CF CM CO CD CK hkl ⊢
  obtain ⟨n, hn⟩ : ∃ n, n = L.length := ⟨_, rfl⟩
  rw [← hn] at HV hvl hvc ⊢
  have HN := Hid.mk hn
  clear h hv hP hb hn hnk
  show Calls Try.prog _ #[.agg #[.int .i64 k, .string ⟨wd.toArray⟩, .slice ao nk cap], _] w _
  obtain ⟨o, ho⟩ : ∃ o, o = Obj.cells #[.int .i64 k, .string ⟨wd.toArray⟩, .slice ao nk cap] 24 := ⟨_, rfl⟩
  have HOB := Hid.mk ho
  have HC : Hid (∀ wr, Below (w.alloc o).heap.size (w.alloc o) wr → wr.cell? ⟨w.heap.size, 0, none⟩ = some (.int .i64 k) ∧ wr.cell? ⟨w.heap.size, 1, none⟩ = some (.string ⟨wd.toArray⟩) ∧ wr.cell? ⟨w.heap.size, 2, none⟩ = some (.slice ao nk cap)) := Hid.mk (fun wr hb => by
    have h := box_keptQ hb
    rw [HOB.out] at h
    exact (three_cells h).1)
  have HB0 : Hid (Below (w.alloc o).heap.size (w.alloc o) (w.alloc (.cells #[.int .i64 k, .string ⟨wd.toArray⟩, .slice ao nk cap] 24))) := Hid.mk (by rw [HOB.out]; exact Below.refl _ _)
  clear ho
  go_enter Try.func7, Try.ntmps7
  go_wp2_with fail
  refine (CF.out _ (below_boxQ HB0.out)).mono ?_
  rintro e w1 ⟨⟨fl, rfl⟩, hb1⟩
  have HB1 := Hid.mk (HB0.out.trans (hb1.mono HB0.out.size))
  clear hb1
  cases fl with
  | false =>
    go_wp2_with fail
    refine (awake_any _).mono ?_
    rintro e wz ⟨rfl, hbz⟩
    have HBZ := Hid.mk (HB1.out.trans (hbz.mono HB1.out.size))
    clear hbz
    go_wp2
    go_ret
    exact ⟨rfl, below_boxQ HBZ.out⟩
  | true =>
    obtain ⟨c0, c1, c2⟩ := HC.out _ HB1.out
    cases b with
    | false =>
      go_wp2_with fail
      refine (CM.out _ (below_boxQ HB1.out)).mono ?_
      rintro e w2 ⟨rfl, hb2⟩
      have HB2 := Hid.mk (HB1.out.trans (hb2.mono HB1.out.size))
      clear hb2 c0 c1 c2
      go_wp2_with fail
      refine (awake_any _).mono ?_
      rintro e wz ⟨rfl, hbz⟩
      have HBZ := Hid.mk (HB2.out.trans (hbz.mono HB2.out.size))
      clear hbz
      go_wp2
      go_ret
      exact ⟨rfl, below_boxQ HBZ.out⟩
    | true =>
      have CD2 := Hid.mk (CD.out rfl)
      have CO2 := Hid.mk (CO.out rfl)
      have HMAY : Hid (mayP P = true) := Hid.mk HB.out.symm
      go_wp2_with fail
      refine (CM.out _ (below_boxQ HB1.out)).mono ?_
      rintro e w2 ⟨rfl, hb2⟩
      have HB2 := Hid.mk (HB1.out.trans (hb2.mono HB1.out.size))
      clear hb2 c0 c1 c2
      obtain ⟨c0, c1, c2⟩ := HC.out _ HB2.out
      have hhi := HHI.out (by trivial)
      go_wp2_with fail
      refine (CD2.out _ (below_boxQ HB2.out)).mono ?_
      rintro e w3 ⟨rfl, hb3⟩
      have HB3 := Hid.mk (HB2.out.trans (hb3.mono HB2.out.size))
      clear hb3 c0 c1 c2
      obtain ⟨hi, hhie⟩ : ∃ x, x = high P := ⟨_, rfl⟩
      rw [← hhie] at hhi ⊢
      have HHE := Hid.mk hhie
      clear hhie
      by_cases d1 : (11 : Int) < (hi : Int)
      · have d1b : decide ((11 : Int) < (hi : Int)) = true := decide_eq_true d1
        go_wp2_with fail
        refine (awake_any _).mono ?_
        rintro e wz ⟨rfl, hbz⟩
        have HBZ := Hid.mk (HB3.out.trans (hbz.mono HB3.out.size))
        clear hbz
        go_wp2
        go_ret
        exact ⟨rfl, below_boxQ HBZ.out⟩
      · have d1b : decide ((11 : Int) < (hi : Int)) = false := decide_eq_false d1
        by_cases d2 : (8 : Int) < (n : Int)
        · have d2b : decide ((8 : Int) < (n : Int)) = true := decide_eq_true d2
          go_wp2_with fail
          refine (awake_any _).mono ?_
          rintro e wz ⟨rfl, hbz⟩
          have HBZ := Hid.mk (HB3.out.trans (hbz.mono HB3.out.size))
          clear hbz
          go_wp2
          go_ret
          exact ⟨rfl, below_boxQ HBZ.out⟩
        · have d2b : decide ((8 : Int) < (n : Int)) = false := decide_eq_false d2
          have h11 : high P ≤ 11 := by have := HHE.out; omega
          have CK4 := Hid.mk (CK.out 4 (by omega) (by trivial) h11)
          have CK5 := Hid.mk (CK.out 5 (by omega) (by trivial) h11)
          have CK6 := Hid.mk (CK.out 6 (by omega) (by trivial) h11)
          have hn8 : n ≤ 8 := by omega
          clear CK h11
          obtain ⟨c0, c1, c2⟩ := HC.out _ HB3.out
          have hlt3 : w.heap.size < w3.heap.size := by have := HB3.out.size; simp at this; omega
          go_wp2_with fail
          have KG : Hid (∀ u, Below (w3.alloc o).heap.size (w3.alloc o) u → Below (w.alloc o).heap.size (w.alloc o) u ∧ u.heap[w3.heap.size]? = some (.cells #[.int .i64 k, .string ⟨wd.toArray⟩, .slice ao nk cap] 24 (0, 0))) := Hid.mk (fun u hu => ⟨HB3.out.trans ((below_boxQ hu).mono HB3.out.size), by
            have h := box_keptQ hu
            rw [HOB.out] at h
            exact h⟩)
          have HG0 : Hid (Below (w3.alloc o).heap.size (w3.alloc o) (w3.alloc (.cells #[.int .i64 k, .string ⟨wd.toArray⟩, .slice ao nk cap] 24))) := Hid.mk (by rw [HOB.out]; exact Below.refl _ _)
          refine (CO2.out _ (below_boxQ (KG.out _ HG0.out).1)).mono ?_
          rintro e w4 ⟨m1, rfl, hu, ha, hb⟩
          have HG1w := Hid.mk (HG0.out.trans (hb.mono HG0.out.size))
          obtain ⟨wa1, wc1, fa1, fc1, la1, lc1, oa1, oc1, e1, e2, e3, e4⟩ := hu.slices
          obtain ⟨f1, hf⟩ : ∃ f : List Wd → Bool, f = accB m1.au := ⟨_, rfl⟩
          have HF1 := Hid.mk ha
          rw [← hf] at HF1
          have CA1 : Hid (∀ u x K, Below w4.heap.size w4 u → TxtS (fun _ => True) u x K → K.length ≤ 1000 → Calls Try.prog 16 #[encU m1, x] u fun e w' => e = .returned (.bool (f1 K)) ∧ Below u.heap.size u w') := Hid.mk (fun u x K hu2 hx hl => by rw [hf]; exact acc_any (hu.below hu2) hx (by omega))
          obtain ⟨v1a, v1b, v1c, v1d, v1e, v1f, v1g, v1h, em1⟩ := m1
          dsimp only at e1 e2 e3 e4 CA1
          subst e1 e2 e3 e4
          obtain ⟨nw1, hnw⟩ : ∃ n, n = v1b.length := ⟨_, rfl⟩
          obtain ⟨nf1, hnf⟩ : ∃ n, n = v1d.length := ⟨_, rfl⟩
          obtain ⟨nl1, hnl⟩ : ∃ n, n = v1f.length := ⟨_, rfl⟩
          obtain ⟨no1, hno⟩ : ∃ n, n = v1h.length := ⟨_, rfl⟩
          have CB1 : Hid (∀ u x K, Below w4.heap.size w4 u → TxtS (fun _ => True) u x K → K.length ≤ 1000 → Calls Try.prog 16 #[.agg #[.slice wa1 nw1 wc1, .slice fa1 nf1 fc1, .slice la1 nl1 lc1, .slice oa1 no1 oc1, .bool em1], x] u fun e w' => e = .returned (.bool (f1 K)) ∧ Below u.heap.size u w') := Hid.mk (by rw [hnw, hnf, hnl, hno]; exact CA1.out)
          rw [← hnw, ← hnf, ← hnl, ← hno]
          have hO : ∃ O, O = Obj.cells #[.slice wa1 nw1 wc1, .slice fa1 nf1 fc1, .slice la1 nl1 lc1, .slice oa1 no1 oc1, .bool em1] 31 := ⟨_, rfl⟩
          obtain ⟨O1, hO⟩ := hO
          have HO1 := Hid.mk hO
          have HG1 : Hid (Below (w3.alloc o).heap.size (w3.alloc o) (w4.alloc (.cells #[.slice wa1 nw1 wc1, .slice fa1 nf1 fc1, .slice la1 nl1 lc1, .slice oa1 no1 oc1, .bool em1] 31))) := Hid.mk (HG1w.out.alloc HG1w.out.size _)
          have KA1 : Hid (∀ u, Below (w4.alloc O1).heap.size (w4.alloc O1) u → Below w4.heap.size w4 u ∧ u.cell? ⟨w4.heap.size, 0, none⟩ = some (.slice wa1 nw1 wc1) ∧ u.cell? ⟨w4.heap.size, 1, none⟩ = some (.slice fa1 nf1 fc1) ∧ u.cell? ⟨w4.heap.size, 2, none⟩ = some (.slice la1 nl1 lc1) ∧ u.cell? ⟨w4.heap.size, 3, none⟩ = some (.slice oa1 no1 oc1) ∧ u.cell? ⟨w4.heap.size, 4, none⟩ = some (.bool em1)) := Hid.mk (fun u hu => by
            have h := box_keptQ hu
            rw [HO1.out] at h
            exact ⟨below_boxQ hu, cells5 h⟩)
          clear hb hu ha hf hnw hnf hnl hno hO CA1 c0 c1 c2
          go_wp2_with fail
          refine (CK4.out _ w3.heap.size (below_boxQ (KG.out _ HG1.out).1) (KG.out _ HG1.out).2).mono ?_
          rintro e w5 ⟨m2, rfl, hu, ha, hb⟩
          have HG2w := Hid.mk (HG1.out.trans (hb.mono HG1.out.size))
          obtain ⟨wa2, wc2, fa2, fc2, la2, lc2, oa2, oc2, e1, e2, e3, e4⟩ := hu.slices
          obtain ⟨f2, hf⟩ : ∃ f : List Wd → Bool, f = accB m2.au := ⟨_, rfl⟩
          have HF2 := Hid.mk ha
          rw [← hf] at HF2
          have CA2 : Hid (∀ u x K, Below w5.heap.size w5 u → TxtS (fun _ => True) u x K → K.length ≤ 1000 → Calls Try.prog 16 #[encU m2, x] u fun e w' => e = .returned (.bool (f2 K)) ∧ Below u.heap.size u w') := Hid.mk (fun u x K hu2 hx hl => by rw [hf]; exact acc_any (hu.below hu2) hx (by omega))
          obtain ⟨v2a, v2b, v2c, v2d, v2e, v2f, v2g, v2h, em2⟩ := m2
          dsimp only at e1 e2 e3 e4 CA2
          subst e1 e2 e3 e4
          obtain ⟨nw2, hnw⟩ : ∃ n, n = v2b.length := ⟨_, rfl⟩
          obtain ⟨nf2, hnf⟩ : ∃ n, n = v2d.length := ⟨_, rfl⟩
          obtain ⟨nl2, hnl⟩ : ∃ n, n = v2f.length := ⟨_, rfl⟩
          obtain ⟨no2, hno⟩ : ∃ n, n = v2h.length := ⟨_, rfl⟩
          have CB2 : Hid (∀ u x K, Below w5.heap.size w5 u → TxtS (fun _ => True) u x K → K.length ≤ 1000 → Calls Try.prog 16 #[.agg #[.slice wa2 nw2 wc2, .slice fa2 nf2 fc2, .slice la2 nl2 lc2, .slice oa2 no2 oc2, .bool em2], x] u fun e w' => e = .returned (.bool (f2 K)) ∧ Below u.heap.size u w') := Hid.mk (by rw [hnw, hnf, hnl, hno]; exact CA2.out)
          rw [← hnw, ← hnf, ← hnl, ← hno]
          have hO : ∃ O, O = Obj.cells #[.slice wa2 nw2 wc2, .slice fa2 nf2 fc2, .slice la2 nl2 lc2, .slice oa2 no2 oc2, .bool em2] 31 := ⟨_, rfl⟩
          obtain ⟨O2, hO⟩ := hO
          have HO2 := Hid.mk hO
          have HG2 : Hid (Below (w3.alloc o).heap.size (w3.alloc o) (w5.alloc (.cells #[.slice wa2 nw2 wc2, .slice fa2 nf2 fc2, .slice la2 nl2 lc2, .slice oa2 no2 oc2, .bool em2] 31))) := Hid.mk (HG2w.out.alloc HG2w.out.size _)
          have KA2 : Hid (∀ u, Below (w5.alloc O2).heap.size (w5.alloc O2) u → Below w5.heap.size w5 u ∧ u.cell? ⟨w5.heap.size, 0, none⟩ = some (.slice wa2 nw2 wc2) ∧ u.cell? ⟨w5.heap.size, 1, none⟩ = some (.slice fa2 nf2 fc2) ∧ u.cell? ⟨w5.heap.size, 2, none⟩ = some (.slice la2 nl2 lc2) ∧ u.cell? ⟨w5.heap.size, 3, none⟩ = some (.slice oa2 no2 oc2) ∧ u.cell? ⟨w5.heap.size, 4, none⟩ = some (.bool em2)) := Hid.mk (fun u hu => by
            have h := box_keptQ hu
            rw [HO2.out] at h
            exact ⟨below_boxQ hu, cells5 h⟩)
          have HS2 : Hid (Below (w4.alloc O1).heap.size (w4.alloc O1) w5) := Hid.mk (by rw [HO1.out]; exact hb)
          clear hb hu ha hf hnw hnf hnl hno hO CA2
          go_wp2_with fail
          refine (CK5.out _ w3.heap.size (below_boxQ (KG.out _ HG2.out).1) (KG.out _ HG2.out).2).mono ?_
          rintro e w6 ⟨m3, rfl, hu, ha, hb⟩
          have HG3w := Hid.mk (HG2.out.trans (hb.mono HG2.out.size))
          obtain ⟨wa3, wc3, fa3, fc3, la3, lc3, oa3, oc3, e1, e2, e3, e4⟩ := hu.slices
          obtain ⟨f3, hf⟩ : ∃ f : List Wd → Bool, f = accB m3.au := ⟨_, rfl⟩
          have HF3 := Hid.mk ha
          rw [← hf] at HF3
          have CA3 : Hid (∀ u x K, Below w6.heap.size w6 u → TxtS (fun _ => True) u x K → K.length ≤ 1000 → Calls Try.prog 16 #[encU m3, x] u fun e w' => e = .returned (.bool (f3 K)) ∧ Below u.heap.size u w') := Hid.mk (fun u x K hu2 hx hl => by rw [hf]; exact acc_any (hu.below hu2) hx (by omega))
          obtain ⟨v3a, v3b, v3c, v3d, v3e, v3f, v3g, v3h, em3⟩ := m3
          dsimp only at e1 e2 e3 e4 CA3
          subst e1 e2 e3 e4
          obtain ⟨nw3, hnw⟩ : ∃ n, n = v3b.length := ⟨_, rfl⟩
          obtain ⟨nf3, hnf⟩ : ∃ n, n = v3d.length := ⟨_, rfl⟩
          obtain ⟨nl3, hnl⟩ : ∃ n, n = v3f.length := ⟨_, rfl⟩
          obtain ⟨no3, hno⟩ : ∃ n, n = v3h.length := ⟨_, rfl⟩
          have CB3 : Hid (∀ u x K, Below w6.heap.size w6 u → TxtS (fun _ => True) u x K → K.length ≤ 1000 → Calls Try.prog 16 #[.agg #[.slice wa3 nw3 wc3, .slice fa3 nf3 fc3, .slice la3 nl3 lc3, .slice oa3 no3 oc3, .bool em3], x] u fun e w' => e = .returned (.bool (f3 K)) ∧ Below u.heap.size u w') := Hid.mk (by rw [hnw, hnf, hnl, hno]; exact CA3.out)
          rw [← hnw, ← hnf, ← hnl, ← hno]
          have hO : ∃ O, O = Obj.cells #[.slice wa3 nw3 wc3, .slice fa3 nf3 fc3, .slice la3 nl3 lc3, .slice oa3 no3 oc3, .bool em3] 31 := ⟨_, rfl⟩
          obtain ⟨O3, hO⟩ := hO
          have HO3 := Hid.mk hO
          have HG3 : Hid (Below (w3.alloc o).heap.size (w3.alloc o) (w6.alloc (.cells #[.slice wa3 nw3 wc3, .slice fa3 nf3 fc3, .slice la3 nl3 lc3, .slice oa3 no3 oc3, .bool em3] 31))) := Hid.mk (HG3w.out.alloc HG3w.out.size _)
          have KA3 : Hid (∀ u, Below (w6.alloc O3).heap.size (w6.alloc O3) u → Below w6.heap.size w6 u ∧ u.cell? ⟨w6.heap.size, 0, none⟩ = some (.slice wa3 nw3 wc3) ∧ u.cell? ⟨w6.heap.size, 1, none⟩ = some (.slice fa3 nf3 fc3) ∧ u.cell? ⟨w6.heap.size, 2, none⟩ = some (.slice la3 nl3 lc3) ∧ u.cell? ⟨w6.heap.size, 3, none⟩ = some (.slice oa3 no3 oc3) ∧ u.cell? ⟨w6.heap.size, 4, none⟩ = some (.bool em3)) := Hid.mk (fun u hu => by
            have h := box_keptQ hu
            rw [HO3.out] at h
            exact ⟨below_boxQ hu, cells5 h⟩)
          have HS3 : Hid (Below (w5.alloc O2).heap.size (w5.alloc O2) w6) := Hid.mk (by rw [HO2.out]; exact hb)
          clear hb hu ha hf hnw hnf hnl hno hO CA3
          go_wp2_with fail
          refine (CK6.out _ w3.heap.size (below_boxQ (KG.out _ HG3.out).1) (KG.out _ HG3.out).2).mono ?_
          rintro e w7 ⟨m4, rfl, hu, ha, hb⟩
          have HG4w := Hid.mk (HG3.out.trans (hb.mono HG3.out.size))
          obtain ⟨wa4, wc4, fa4, fc4, la4, lc4, oa4, oc4, e1, e2, e3, e4⟩ := hu.slices
          obtain ⟨f4, hf⟩ : ∃ f : List Wd → Bool, f = accB m4.au := ⟨_, rfl⟩
          have HF4 := Hid.mk ha
          rw [← hf] at HF4
          have CA4 : Hid (∀ u x K, Below w7.heap.size w7 u → TxtS (fun _ => True) u x K → K.length ≤ 1000 → Calls Try.prog 16 #[encU m4, x] u fun e w' => e = .returned (.bool (f4 K)) ∧ Below u.heap.size u w') := Hid.mk (fun u x K hu2 hx hl => by rw [hf]; exact acc_any (hu.below hu2) hx (by omega))
          obtain ⟨v4a, v4b, v4c, v4d, v4e, v4f, v4g, v4h, em4⟩ := m4
          dsimp only at e1 e2 e3 e4 CA4
          subst e1 e2 e3 e4
          obtain ⟨nw4, hnw⟩ : ∃ n, n = v4b.length := ⟨_, rfl⟩
          obtain ⟨nf4, hnf⟩ : ∃ n, n = v4d.length := ⟨_, rfl⟩
          obtain ⟨nl4, hnl⟩ : ∃ n, n = v4f.length := ⟨_, rfl⟩
          obtain ⟨no4, hno⟩ : ∃ n, n = v4h.length := ⟨_, rfl⟩
          have CB4 : Hid (∀ u x K, Below w7.heap.size w7 u → TxtS (fun _ => True) u x K → K.length ≤ 1000 → Calls Try.prog 16 #[.agg #[.slice wa4 nw4 wc4, .slice fa4 nf4 fc4, .slice la4 nl4 lc4, .slice oa4 no4 oc4, .bool em4], x] u fun e w' => e = .returned (.bool (f4 K)) ∧ Below u.heap.size u w') := Hid.mk (by rw [hnw, hnf, hnl, hno]; exact CA4.out)
          rw [← hnw, ← hnf, ← hnl, ← hno]
          have hO : ∃ O, O = Obj.cells #[.slice wa4 nw4 wc4, .slice fa4 nf4 fc4, .slice la4 nl4 lc4, .slice oa4 no4 oc4, .bool em4] 31 := ⟨_, rfl⟩
          obtain ⟨O4, hO⟩ := hO
          have HO4 := Hid.mk hO
          have HG4 : Hid (Below (w3.alloc o).heap.size (w3.alloc o) (w7.alloc (.cells #[.slice wa4 nw4 wc4, .slice fa4 nf4 fc4, .slice la4 nl4 lc4, .slice oa4 no4 oc4, .bool em4] 31))) := Hid.mk (HG4w.out.alloc HG4w.out.size _)
          have KA4 : Hid (∀ u, Below (w7.alloc O4).heap.size (w7.alloc O4) u → Below w7.heap.size w7 u ∧ u.cell? ⟨w7.heap.size, 0, none⟩ = some (.slice wa4 nw4 wc4) ∧ u.cell? ⟨w7.heap.size, 1, none⟩ = some (.slice fa4 nf4 fc4) ∧ u.cell? ⟨w7.heap.size, 2, none⟩ = some (.slice la4 nl4 lc4) ∧ u.cell? ⟨w7.heap.size, 3, none⟩ = some (.slice oa4 no4 oc4) ∧ u.cell? ⟨w7.heap.size, 4, none⟩ = some (.bool em4)) := Hid.mk (fun u hu => by
            have h := box_keptQ hu
            rw [HO4.out] at h
            exact ⟨below_boxQ hu, cells5 h⟩)
          have HS4 : Hid (Below (w6.alloc O3).heap.size (w6.alloc O3) w7) := Hid.mk (by rw [HO3.out]; exact hb)
          clear hb hu ha hf hnw hnf hnl hno hO CA4
          have KZ : Hid (∀ u, Below (w7.alloc O4).heap.size (w7.alloc O4) u → Below (w4.alloc O1).heap.size (w4.alloc O1) u ∧ Below (w5.alloc O2).heap.size (w5.alloc O2) u ∧ Below (w6.alloc O3).heap.size (w6.alloc O3) u ∧ Below (w.alloc o).heap.size (w.alloc o) u) := Hid.mk (fun u hu => by
            have h3 : Below (w6.alloc O3).heap.size (w6.alloc O3) u := HS4.out.trans ((below_boxQ hu).mono HS4.out.size)
            have h2 : Below (w5.alloc O2).heap.size (w5.alloc O2) u := HS3.out.trans ((below_boxQ h3).mono HS3.out.size)
            have h1 : Below (w4.alloc O1).heap.size (w4.alloc O1) u := HS2.out.trans ((below_boxQ h2).mono HS2.out.size)
            exact ⟨h1, h2, h3, (KG.out _ (HG1w.out.trans ((below_boxQ h1).mono HG1w.out.size))).1⟩)
          have HZ0 : Hid (Below (w7.alloc O4).heap.size (w7.alloc O4) (w7.alloc (.cells #[.slice wa4 nw4 wc4, .slice fa4 nf4 fc4, .slice la4 nl4 lc4, .slice oa4 no4 oc4, .bool em4] 31))) := Hid.mk (by rw [HO4.out]; exact Below.refl _ _)
          have HT3 : Hid (∀ K, f3 K = true ↔ f1 K = true ∨ ∃ i, 1 ≤ i ∧ i < K.length ∧ f1 (K.take i) = true ∧ f3 (K.drop i) = true) := Hid.mk (fun K => by
            rw [HF3.out, will_plus, plus_often]
            simp only [HF1.out, HF3.out, will_plus])
          have HT2 : Hid (∀ K, f2 K = (decide (K = []) || f3 K)) := Hid.mk (fun K => bool_iff (by rw [HF2.out, Bool.or_eq_true, HF3.out, decide_eq_true_eq, will_star, will_plus]))
          have HT4 : Hid (∀ K, f4 K = (decide (K = []) || f1 K)) := Hid.mk (fun K => bool_iff (by rw [HF4.out, Bool.or_eq_true, HF1.out, decide_eq_true_eq, will_may]))
          have KV : Hid (∀ u, Below (w7.alloc O4).heap.size (w7.alloc O4) u → TxtS (fun _ => True) u (.slice va n vc) L) := Hid.mk (fun u hu => HV.out.below (below_boxQ (KZ.out u hu).2.2.2))
          have hL8 : L.length ≤ 8 := by rw [← HN.out]; exact hn8
          by_cases hn0 : n = 0
          · have hL0 : L = [] := List.length_eq_zero_iff.1 (by rw [← HN.out]; exact hn0)
            have q4 : f4 L = true := by rw [HT4.out, decide_eq_true hL0]; rfl
            have q2 : f2 L = true := by rw [HT2.out, decide_eq_true hL0]; rfl
            have q3 : f3 L = f1 L := bool_iff (by
              rw [HT3.out]
              constructor
              · rintro (h | ⟨i, h1, h2, _⟩)
                · exact h
                · rw [hL0] at h2; simp at h2
              · exact .inl)
            obtain ⟨a, ha⟩ : ∃ a, a = f1 L := ⟨_, rfl⟩
            have D1 : Hid (∀ u, Below (w7.alloc O4).heap.size (w7.alloc O4) u → Calls Try.prog 16 #[.agg #[.slice wa1 nw1 wc1, .slice fa1 nf1 fc1, .slice la1 nl1 lc1, .slice oa1 no1 oc1, .bool em1], .slice va n vc] u fun e w' => e = .returned (.bool a) ∧ Below u.heap.size u w') := Hid.mk (fun u hu => by rw [ha]; exact CB1.out u _ L (KA1.out u (KZ.out u hu).1).1 (KV.out u hu) (by omega))
            have D2 : Hid (∀ u, Below (w7.alloc O4).heap.size (w7.alloc O4) u → Calls Try.prog 16 #[.agg #[.slice wa2 nw2 wc2, .slice fa2 nf2 fc2, .slice la2 nl2 lc2, .slice oa2 no2 oc2, .bool em2], .slice va n vc] u fun e w' => e = .returned (.bool true) ∧ Below u.heap.size u w') := Hid.mk (fun u hu => by rw [← q2]; exact CB2.out u _ L (KA2.out u (KZ.out u hu).2.1).1 (KV.out u hu) (by omega))
            have D3 : Hid (∀ u, Below (w7.alloc O4).heap.size (w7.alloc O4) u → Calls Try.prog 16 #[.agg #[.slice wa3 nw3 wc3, .slice fa3 nf3 fc3, .slice la3 nl3 lc3, .slice oa3 no3 oc3, .bool em3], .slice va n vc] u fun e w' => e = .returned (.bool a) ∧ Below u.heap.size u w') := Hid.mk (fun u hu => by rw [ha, ← q3]; exact CB3.out u _ L (KA3.out u (KZ.out u hu).2.2.1).1 (KV.out u hu) (by omega))
            have D4 : Hid (∀ u, Below (w7.alloc O4).heap.size (w7.alloc O4) u → Calls Try.prog 16 #[.agg #[.slice wa4 nw4 wc4, .slice fa4 nf4 fc4, .slice la4 nl4 lc4, .slice oa4 no4 oc4, .bool em4], .slice va n vc] u fun e w' => e = .returned (.bool true) ∧ Below u.heap.size u w') := Hid.mk (fun u hu => by rw [← q4]; exact CB4.out u _ L (KA4.out u hu).1 (KV.out u hu) (by omega))
            clear q2 q3 q4 ha hL0 hL8
            subst hn0
            obtain ⟨_, g0, g1, g2, g3, g4⟩ := KA1.out _ (KZ.out _ HZ0.out).1
            go_wp2_with fail
            refine (D1.out _ HZ0.out).mono ?_
            rintro e w8 ⟨rfl, hb8⟩
            have HZ8 := Hid.mk (HZ0.out.trans (hb8.mono HZ0.out.size))
            clear hb8 g0 g1 g2 g3 g4
            go_wp2_with fail
            go_loopw [15, 16] (fun s c wr => s = .bool a ∧ c = .int .i64 1 ∧ wr = w8) (fun _ _ _ => 0)
            case atStart => exact ⟨rfl, rfl, rfl⟩
            case round =>
              obtain ⟨rfl, rfl, hwr⟩ := hrel
              subst hwr
              obtain ⟨_, g0, g1, g2, g3, g4⟩ := KA4.out _ HZ8.out
              go_wp2_with fail
              refine (D4.out _ HZ8.out).mono ?_
              rintro e w9 ⟨rfl, hb9⟩
              have HZ9 := Hid.mk (HZ8.out.trans (hb9.mono HZ8.out.size))
              clear hb9 g0 g1 g2 g3 g4
              obtain ⟨_, g0, g1, g2, g3, g4⟩ := KA3.out _ (KZ.out _ HZ9.out).2.2.1
              go_wp2_with fail
              refine (D3.out _ HZ9.out).mono ?_
              rintro e w10 ⟨rfl, hb10⟩
              have HZ10 := Hid.mk (HZ9.out.trans (hb10.mono HZ9.out.size))
              clear hb10 g0 g1 g2 g3 g4
              obtain ⟨_, g0, g1, g2, g3, g4⟩ := KA2.out _ (KZ.out _ HZ10.out).2.1
              go_wp2_with fail
              refine (D2.out _ HZ10.out).mono ?_
              rintro e w11 ⟨rfl, hb11⟩
              have HZ11 := Hid.mk (HZ10.out.trans (hb11.mono HZ10.out.size))
              clear hb11 g0 g1 g2 g3 g4
              go_wp2_with fail
              refine (awake_any _).mono ?_
              rintro e w12 ⟨rfl, hb12⟩
              have HZ12 := Hid.mk (HZ11.out.trans (hb12.mono HZ11.out.size))
              clear hb12
              go_wp2
              go_ret
              exact ⟨rfl, below_boxQ (KZ.out _ HZ12.out).2.2.2⟩
          · have hL0 : ¬ L = [] := fun h => hn0 (by rw [HN.out, h]; rfl)
            obtain ⟨z1, z2⟩ := not_both (a := (n : Int)) (b := 0) (by omega)
            obtain ⟨a, ha⟩ : ∃ a, a = f1 L := ⟨_, rfl⟩
            obtain ⟨tl, htl⟩ : ∃ a, a = f3 L := ⟨_, rfl⟩
            have q4 : f4 L = a := by rw [HT4.out, decide_eq_false hL0, ha]; rfl
            have q2 : f2 L = tl := by rw [HT2.out, decide_eq_false hL0, htl]; rfl
            have D1 : Hid (∀ u, Below (w7.alloc O4).heap.size (w7.alloc O4) u → Calls Try.prog 16 #[.agg #[.slice wa1 nw1 wc1, .slice fa1 nf1 fc1, .slice la1 nl1 lc1, .slice oa1 no1 oc1, .bool em1], .slice va n vc] u fun e w' => e = .returned (.bool a) ∧ Below u.heap.size u w') := Hid.mk (fun u hu => by rw [ha]; exact CB1.out u _ L (KA1.out u (KZ.out u hu).1).1 (KV.out u hu) (by omega))
            have D2 : Hid (∀ u, Below (w7.alloc O4).heap.size (w7.alloc O4) u → Calls Try.prog 16 #[.agg #[.slice wa2 nw2 wc2, .slice fa2 nf2 fc2, .slice la2 nl2 lc2, .slice oa2 no2 oc2, .bool em2], .slice va n vc] u fun e w' => e = .returned (.bool tl) ∧ Below u.heap.size u w') := Hid.mk (fun u hu => by rw [← q2]; exact CB2.out u _ L (KA2.out u (KZ.out u hu).2.1).1 (KV.out u hu) (by omega))
            have D3 : Hid (∀ u, Below (w7.alloc O4).heap.size (w7.alloc O4) u → Calls Try.prog 16 #[.agg #[.slice wa3 nw3 wc3, .slice fa3 nf3 fc3, .slice la3 nl3 lc3, .slice oa3 no3 oc3, .bool em3], .slice va n vc] u fun e w' => e = .returned (.bool tl) ∧ Below u.heap.size u w') := Hid.mk (fun u hu => by rw [htl]; exact CB3.out u _ L (KA3.out u (KZ.out u hu).2.2.1).1 (KV.out u hu) (by omega))
            have D4 : Hid (∀ u, Below (w7.alloc O4).heap.size (w7.alloc O4) u → Calls Try.prog 16 #[.agg #[.slice wa4 nw4 wc4, .slice fa4 nf4 fc4, .slice la4 nl4 lc4, .slice oa4 no4 oc4, .bool em4], .slice va n vc] u fun e w' => e = .returned (.bool a) ∧ Below u.heap.size u w') := Hid.mk (fun u hu => by rw [← q4]; exact CB4.out u _ L (KA4.out u hu).1 (KV.out u hu) (by omega))
            have HA := Hid.mk ha
            have HTL := Hid.mk htl
            clear q2 q4 ha htl hL0 hL8 hn0
            obtain ⟨_, g0, g1, g2, g3, g4⟩ := KA1.out _ (KZ.out _ HZ0.out).1
            go_wp2_with fail
            refine (D1.out _ HZ0.out).mono ?_
            rintro e w8 ⟨rfl, hb8⟩
            have HZ8 := Hid.mk (HZ0.out.trans (hb8.mono HZ0.out.size))
            clear hb8 g0 g1 g2 g3 g4
            go_wp2_with fail
            go_loopw [15, 16] (fun s c wr => ∃ (i : Nat) (b : Bool), 1 ≤ i ∧ i ≤ n ∧ c = .int .i64 i ∧ s = .bool b ∧ (b = true ↔ f1 L = true ∨ ∃ j, 1 ≤ j ∧ j < i ∧ f1 (L.take j) = true ∧ f3 (L.drop j) = true) ∧ Below (w7.alloc O4).heap.size (w7.alloc O4) wr) (fun _ c _ => n - (intOf c).toNat)
            case atStart =>
              refine ⟨1, a, Nat.le_refl _, by omega, rfl, rfl, ?_, HZ8.out⟩
              rw [HA.out]
              constructor
              · exact .inl
              · rintro (h | ⟨j, h1, h2, _⟩)
                · exact h
                · omega
            case round =>
              obtain ⟨i, b, h1i, hin, rfl, rfl, hbi, hbq⟩ := hrel
              have HBI := Hid.mk hbi
              have HQ := Hid.mk hbq
              clear hbi hbq
              by_cases hlt : i < n
              · have hltI : (i : Int) < (n : Int) := by omega
                cases b with
                | true =>
                  have HB2 : Hid (true = true ↔ f1 L = true ∨ ∃ j, 1 ≤ j ∧ j < i + 1 ∧ f1 (L.take j) = true ∧ f3 (L.drop j) = true) := Hid.mk ⟨fun _ => by
                    rcases HBI.out.1 (by trivial) with h | ⟨j, h1, h2, h3⟩
                    · exact .inl h
                    · exact .inr ⟨j, h1, by omega, h3⟩, fun _ => rfl⟩
                  have HR : Hid (∃ b : Bool, b = true ∧ (b = true ↔ f1 L = true ∨ ∃ j, 1 ≤ j ∧ j < i + 1 ∧ f1 (L.take j) = true ∧ f3 (L.drop j) = true)) := Hid.mk ⟨true, rfl, HB2.out⟩
                  clear HB2 HBI
                  go_wp2_with fail
                  go_quiet (fail)
                  go_wp2
                  go_roundw
                  case rel =>
                    obtain ⟨b, rfl, hb⟩ := HR.out
                    exact ⟨i + 1, true, by omega, by omega, by go_num, rfl, hb, below_drewN HQ.out _⟩
                  case measure => simp [intOf]; omega
                | false =>
                  have HTI : Hid (∀ u, Below (w7.alloc O4).heap.size (w7.alloc O4) u → TxtS (fun _ => True) u (.slice va i vc) (L.take i)) := Hid.mk (fun u hu => sl_take (KV.out u hu) (by rw [← HN.out]; omega))
                  have HDI : Hid (∀ u, Below (w7.alloc O4).heap.size (w7.alloc O4) u → TxtS (fun _ => True) u (.slice (if vc = i then va else Option.map (fun x => x.add i) va) (n - i) (vc - i)) (L.drop i)) := Hid.mk (fun u hu => cut_txts (KV.out u hu) HN.out (by omega) hvc)
                  obtain ⟨b1, hb1⟩ : ∃ b, b = f1 (L.take i) := ⟨_, rfl⟩
                  obtain ⟨b2, hb2⟩ : ∃ b, b = f3 (L.drop i) := ⟨_, rfl⟩
                  have HDW : Hid (Below (w7.alloc O4).heap.size (w7.alloc O4) wr.drew) := Hid.mk HQ.out.drew
                  have E1 : Hid (Calls Try.prog 16 #[.agg #[.slice wa1 nw1 wc1, .slice fa1 nf1 fc1, .slice la1 nl1 lc1, .slice oa1 no1 oc1, .bool em1], .slice va i vc] wr.drew fun e w' => e = .returned (.bool b1) ∧ Below wr.drew.heap.size wr.drew w') := Hid.mk (by rw [hb1]; exact CB1.out wr.drew _ (L.take i) (KA1.out _ (KZ.out _ HDW.out).1).1 (HTI.out _ HDW.out) (by rw [List.length_take]; omega))
                  have E3 : Hid (∀ u, Below (w7.alloc O4).heap.size (w7.alloc O4) u → Calls Try.prog 16 #[.agg #[.slice wa3 nw3 wc3, .slice fa3 nf3 fc3, .slice la3 nl3 lc3, .slice oa3 no3 oc3, .bool em3], .slice (if vc = i then va else Option.map (fun x => x.add i) va) (n - i) (vc - i)] u fun e w' => e = .returned (.bool b2) ∧ Below u.heap.size u w') := Hid.mk (fun u hu => by rw [hb2]; exact CB3.out u _ (L.drop i) (KA3.out _ (KZ.out _ hu).2.2.1).1 (HDI.out _ hu) (by rw [List.length_drop, ← HN.out]; omega))
                  have HR : Hid ((b1 && b2) = true ↔ f1 L = true ∨ ∃ j, 1 ≤ j ∧ j < i + 1 ∧ f1 (L.take j) = true ∧ f3 (L.drop j) = true) := Hid.mk (by
                    rw [Bool.and_eq_true, hb1, hb2]
                    constructor
                    · rintro ⟨h1, h2⟩
                      exact .inr ⟨i, h1i, by omega, h1, h2⟩
                    · intro h
                      by_cases e : f1 (L.take i) = true ∧ f3 (L.drop i) = true
                      · exact e
                      · exfalso
                        have : f1 L = true ∨ ∃ j, 1 ≤ j ∧ j < i ∧ f1 (L.take j) = true ∧ f3 (L.drop j) = true := by
                          rcases h with h | ⟨j, g1, g2, g3⟩
                          · exact .inl h
                          · refine .inr ⟨j, g1, ?_, g3⟩
                            rcases Nat.lt_or_ge j i with h | h
                            · exact h
                            · have : j = i := by omega
                              subst this
                              exact absurd g3 e
                        have := HBI.out.2 this
                        cases this)
                  have hiv : i ≤ vc := by omega
                  have hivI : (i : Int) ≤ (vc : Int) := by omega
                  have hinI : (i : Int) ≤ (n : Int) := by omega
                  have hnvI : (n : Int) ≤ (vc : Int) := by omega
                  obtain ⟨_, g0, g1, g2, g3, g4⟩ := KA1.out _ (KZ.out _ HQ.out).1
                  clear hb1 hb2 HBI HTI HDI
                  cases b1 with
                  | false =>
                    have HR2 : Hid (false = true ↔ f1 L = true ∨ ∃ j, 1 ≤ j ∧ j < i + 1 ∧ f1 (L.take j) = true ∧ f3 (L.drop j) = true) := Hid.mk (by simpa using HR.out)
                    have HR3 : Hid (∃ b : Bool, b = false ∧ (b = true ↔ f1 L = true ∨ ∃ j, 1 ≤ j ∧ j < i + 1 ∧ f1 (L.take j) = true ∧ f3 (L.drop j) = true)) := Hid.mk ⟨false, rfl, HR2.out⟩
                    clear HR HR2
                    go_wp2_with fail
                    first | (go_region_law (go_simp; refine E1.out.mono ?_; rintro e w9 ⟨rfl, hb9⟩)) | fail
                    all_goals (
                      have HZ9 := Hid.mk (HDW.out.trans (hb9.mono HDW.out.size))
                      clear hb9
                      go_wp2
                      go_roundw
                      case rel =>
                        obtain ⟨b, rfl, hb⟩ := HR3.out
                        exact ⟨i + 1, false, by omega, by omega, by go_num, rfl, hb, HZ9.out⟩
                      case measure => simp [intOf]; omega)
                  | true =>
                    have HR3 : Hid (b2 = true ↔ f1 L = true ∨ ∃ j, 1 ≤ j ∧ j < i + 1 ∧ f1 (L.take j) = true ∧ f3 (L.drop j) = true) := Hid.mk (by simpa using HR.out)
                    clear HR
                    go_wp2_with fail
                    have KS : Hid (∀ u, Below (w7.alloc O4).heap.size (w7.alloc O4) u → (u.cell? ⟨w4.heap.size, 0, none⟩ = some (.slice wa1 nw1 wc1) ∧ u.cell? ⟨w4.heap.size, 1, none⟩ = some (.slice fa1 nf1 fc1) ∧ u.cell? ⟨w4.heap.size, 2, none⟩ = some (.slice la1 nl1 lc1) ∧ u.cell? ⟨w4.heap.size, 3, none⟩ = some (.slice oa1 no1 oc1) ∧ u.cell? ⟨w4.heap.size, 4, none⟩ = some (.bool em1)) ∧ (u.cell? ⟨w6.heap.size, 0, none⟩ = some (.slice wa3 nw3 wc3) ∧ u.cell? ⟨w6.heap.size, 1, none⟩ = some (.slice fa3 nf3 fc3) ∧ u.cell? ⟨w6.heap.size, 2, none⟩ = some (.slice la3 nl3 lc3) ∧ u.cell? ⟨w6.heap.size, 3, none⟩ = some (.slice oa3 no3 oc3) ∧ u.cell? ⟨w6.heap.size, 4, none⟩ = some (.bool em3))) := Hid.mk (fun u hu => ⟨(KA1.out _ (KZ.out _ hu).1).2, (KA3.out _ (KZ.out _ hu).2.2.1).2⟩)
                    go_region_held3 (fun u => (u.cell? ⟨w4.heap.size, 0, none⟩ = some (.slice wa1 nw1 wc1) ∧ u.cell? ⟨w4.heap.size, 1, none⟩ = some (.slice fa1 nf1 fc1) ∧ u.cell? ⟨w4.heap.size, 2, none⟩ = some (.slice la1 nl1 lc1) ∧ u.cell? ⟨w4.heap.size, 3, none⟩ = some (.slice oa1 no1 oc1) ∧ u.cell? ⟨w4.heap.size, 4, none⟩ = some (.bool em1)) ∧ (u.cell? ⟨w6.heap.size, 0, none⟩ = some (.slice wa3 nw3 wc3) ∧ u.cell? ⟨w6.heap.size, 1, none⟩ = some (.slice fa3 nf3 fc3) ∧ u.cell? ⟨w6.heap.size, 2, none⟩ = some (.slice la3 nl3 lc3) ∧ u.cell? ⟨w6.heap.size, 3, none⟩ = some (.slice oa3 no3 oc3) ∧ u.cell? ⟨w6.heap.size, 4, none⟩ = some (.bool em3)))
                      (first | with_reducible exact KS.out _ HDW.out | with_reducible exact KS.out _ hz10 | with_reducible exact KS.out _ hz9)
                      (first
                        | (go_at_call 16; with_reducible refine E1.out.mono ?_; rintro e w9 ⟨rfl, hb9⟩; have hz9 := HDW.out.trans (hb9.mono HDW.out.size))
                        | (go_at_call 16; with_reducible refine (E3.out _ hz9).mono ?_; rintro e w10 ⟨rfl, hb10⟩; have hz10 := hz9.trans (hb10.mono hz9.size)))
                    all_goals (
                      have HZ10 := Hid.mk hz10
                      clear hb9 hz9 hb10 hz10
                      go_wp2
                      all_goals (
                        go_roundw
                        case rel => exact ⟨i + 1, b2, by omega, by omega, by go_num, rfl, HR3.out, HZ10.out⟩
                        case measure => simp [intOf]; omega))
              · have hltI : ¬ (i : Int) < (n : Int) := by omega
                have hbt : b = tl := bool_iff (by
                  rw [HBI.out, HTL.out, HT3.out]
                  have hin2 : i = L.length := by rw [← HN.out]; omega
                  rw [hin2])
                subst hbt
                clear HBI
                obtain ⟨_, g0, g1, g2, g3, g4⟩ := KA4.out _ HQ.out
                have haa : (a == a) = true := by simp
                have hbb : (b == b) = true := by simp
                go_wp2_with fail
                refine (D4.out _ HQ.out).mono ?_
                rintro e w9 ⟨rfl, hb9⟩
                have HZ9 := Hid.mk (HQ.out.trans (hb9.mono HQ.out.size))
                clear hb9 g0 g1 g2 g3 g4
                obtain ⟨_, g0, g1, g2, g3, g4⟩ := KA1.out _ (KZ.out _ HZ9.out).1
                go_wp2_with fail
                refine (D1.out _ HZ9.out).mono ?_
                rintro e w10 ⟨rfl, hb10⟩
                have HZ10 := Hid.mk (HZ9.out.trans (hb10.mono HZ9.out.size))
                clear hb10 g0 g1 g2 g3 g4
                obtain ⟨_, g0, g1, g2, g3, g4⟩ := KA3.out _ (KZ.out _ HZ10.out).2.2.1
                go_wp2_with fail
                refine (D3.out _ HZ10.out).mono ?_
                rintro e w11 ⟨rfl, hb11⟩
                have HZ11 := Hid.mk (HZ10.out.trans (hb11.mono HZ10.out.size))
                clear hb11 g0 g1 g2 g3 g4
                obtain ⟨_, g0, g1, g2, g3, g4⟩ := KA2.out _ (KZ.out _ HZ11.out).2.1
                go_wp2_with fail
                refine (D2.out _ HZ11.out).mono ?_
                rintro e w12 ⟨rfl, hb12⟩
                have HZ12 := Hid.mk (HZ11.out.trans (hb12.mono HZ11.out.size))
                clear hb12 g0 g1 g2 g3 g4
                go_wp2_with fail
                refine (awake_any _).mono ?_
                rintro e w13 ⟨rfl, hb13⟩
                have HZ13 := Hid.mk (HZ12.out.trans (hb13.mono HZ12.out.size))
                clear hb13
                go_wp2
                go_ret
                exact ⟨rfl, below_boxQ (KZ.out _ HZ13.out).2.2.2⟩
end Go.Proofs.Ythdnpddfdlhlaaa
