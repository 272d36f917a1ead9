/- PathTurns: paths that are not flat, or that may not be. (Written by a program.) -/
import Derived.Test.YthdnpddfdlhlaaaBLaw
import Derived.Test.YthdnpddfdlhlaaaBCount
import Derived.Test.YthdnpddfdlhlaaaQOpen
namespace Go.Proofs.Ythdnpddfdlhlaaa
open Go.RowKit Go.Shelf

set_option maxRecDepth 100000 in
set_option maxHeartbeats 16000000 in
theorem pathTurns_exA (t s : Vt) (v : Value) (L : List Wd) (w : World) (h : VOk (fun _ => True) w t) (h' : VOk (fun _ => True) w s) (hv : TxtS (fun _ => True) w v L) (hcap : L.length ≤ 9223372036854775807 ∧ CapS v L.length) (hx : ¬ (flatB t.pt = true ∧ flatB s.pt = true ∧ mayP t.pt = true ∧ mayP s.pt = true)) :
    Calls Try.prog 8 #[encN t, encN s, v] w fun e w' => e = .returned (.bool true) ∧ Below w.heap.size w w' := by
  obtain ⟨hvl, va, vc, rfl, hvc⟩ := hcap
  have HV := Hid.mk hv
  obtain ⟨ao, cap, hvvp⟩ := h.parts.1.slice
  have hkl := h.parts.2.2.1
  obtain ⟨P, hP⟩ : ∃ P, P = t.pt := ⟨_, rfl⟩
  obtain ⟨b, hb⟩ : ∃ b, b = mayP P := ⟨_, rfl⟩
  obtain ⟨fp, hfp⟩ : ∃ b, b = flatB P := ⟨_, rfl⟩
  have CFp : Hid (∀ u, Below w.heap.size w u → Calls Try.prog 9 #[encN t] u fun e w' => e = .returned (.bool fp) ∧ Below u.heap.size u w') := Hid.mk (fun u hu => by rw [hfp, hP]; exact flatV_any (h.below hu))
  have CMp : Hid (∀ u, Below w.heap.size w u → Calls Try.prog 23 #[encN t] u fun e w' => e = .returned (.bool b) ∧ Below u.heap.size u w') := Hid.mk (fun u hu => by rw [hb, hP]; exact rMayPath_any (h.below hu))
  have HHp : Hid (b = true → high P ≤ 12) := Hid.mk (fun h1 => by rw [hb] at h1; exact may_high h1)
  have HEp : Hid (b = true → leaves P ≤ 24) := Hid.mk (fun h1 => by rw [hb] at h1; exact may_leaves h1)
  have CDp : Hid (b = true → ∀ u, Below w.heap.size w u → Calls Try.prog 25 #[encN t] u fun e w' => e = .returned (.int .i64 (high P : Int)) ∧ Below u.heap.size u w') := Hid.mk (fun h1 u hu => by
    rw [hP]
    refine rDeep_any t u ?_ (h.below hu)
    have := HHp.out h1
    rw [hP] at this
    omega)
  have CPp : Hid (b = true → ∀ u, Below w.heap.size w u → Calls Try.prog 24 #[encN t] u fun e w' => e = .returned (.int .i64 (leaves P : Int)) ∧ Below u.heap.size u w') := Hid.mk (fun h1 u hu => by
    rw [hP]
    refine rPlaces_any t u ?_ (h.below hu)
    have := HEp.out h1
    rw [hP] at this
    omega)
  have COp : Hid (b = true → ∀ u, Below w.heap.size w u → Calls Try.prog 11 #[encN t] u (OfE P u)) := Hid.mk (fun h1 u hu => by rw [hP]; exact of_may (h.below hu) (by rw [← hP, ← hb, h1]))
  obtain ⟨bo, bap, hvvq⟩ := h'.parts.1.slice
  have hkm := h'.parts.2.2.1
  obtain ⟨Q, hQ⟩ : ∃ P, P = s.pt := ⟨_, rfl⟩
  obtain ⟨d, hd⟩ : ∃ b, b = mayP Q := ⟨_, rfl⟩
  obtain ⟨fq, hfq⟩ : ∃ b, b = flatB Q := ⟨_, rfl⟩
  have CFq : Hid (∀ u, Below w.heap.size w u → Calls Try.prog 9 #[encN s] u fun e w' => e = .returned (.bool fq) ∧ Below u.heap.size u w') := Hid.mk (fun u hu => by rw [hfq, hQ]; exact flatV_any (h'.below hu))
  have CMq : Hid (∀ u, Below w.heap.size w u → Calls Try.prog 23 #[encN s] u fun e w' => e = .returned (.bool d) ∧ Below u.heap.size u w') := Hid.mk (fun u hu => by rw [hd, hQ]; exact rMayPath_any (h'.below hu))
  have HHq : Hid (d = true → high Q ≤ 12) := Hid.mk (fun h1 => by rw [hd] at h1; exact may_high h1)
  have HEq : Hid (d = true → leaves Q ≤ 24) := Hid.mk (fun h1 => by rw [hd] at h1; exact may_leaves h1)
  have CDq : Hid (d = true → ∀ u, Below w.heap.size w u → Calls Try.prog 25 #[encN s] u fun e w' => e = .returned (.int .i64 (high Q : Int)) ∧ Below u.heap.size u w') := Hid.mk (fun h1 u hu => by
    rw [hQ]
    refine rDeep_any s u ?_ (h'.below hu)
    have := HHq.out h1
    rw [hQ] at this
    omega)
  have CPq : Hid (d = true → ∀ u, Below w.heap.size w u → Calls Try.prog 24 #[encN s] u fun e w' => e = .returned (.int .i64 (leaves Q : Int)) ∧ Below u.heap.size u w') := Hid.mk (fun h1 u hu => by
    rw [hQ]
    refine rPlaces_any s u ?_ (h'.below hu)
    have := HEq.out h1
    rw [hQ] at this
    omega)
  have COq : Hid (d = true → ∀ u, Below w.heap.size w u → Calls Try.prog 11 #[encN s] u (OfE Q u)) := Hid.mk (fun h1 u hu => by rw [hQ]; exact of_may (h'.below hu) (by rw [← hQ, ← hd, h1]))
  have HXX : Hid (¬ (fp = true ∧ fq = true ∧ b = true ∧ d = true)) := Hid.mk (by rw [hfp, hfq, hb, hd, hP, hQ]; exact hx)
  clear hx
  obtain ⟨k, wd, kv, l⟩ := t
  obtain ⟨r, xd, rv, l'⟩ := s
  dsimp only at hvvp hvvq hkl hkm
  subst hvvp hvvq
  obtain ⟨nk, hnk⟩ : ∃ n, n = l.length := ⟨_, rfl⟩
  obtain ⟨nr, hnr⟩ : ∃ n, n = l'.length := ⟨_, rfl⟩
  rw [← hnk] at CFp CMp COp CDp CPp hkl ⊢
  rw [← hnr] at CFq CMq COq CDq CPq hkm ⊢
  obtain ⟨n, hn⟩ : ∃ n, n = L.length := ⟨_, rfl⟩
  rw [← hn] at HV hvl hvc ⊢
  have HN := Hid.mk hn
  clear h h' hv hP hQ hb hd hn hnk hnr hfp hfq
  show Calls Try.prog _ #[.agg #[.int .i64 k, .string ⟨wd.toArray⟩, .slice ao nk cap], .agg #[.int .i64 r, .string ⟨xd.toArray⟩, .slice bo nr bap], _] w _
  obtain ⟨o, ho⟩ : ∃ o, o = Obj.cells #[.int .i64 k, .string ⟨wd.toArray⟩, .slice ao nk cap] 24 := ⟨_, rfl⟩
  obtain ⟨o', ho'⟩ : ∃ o, o = Obj.cells #[.int .i64 r, .string ⟨xd.toArray⟩, .slice bo nr bap] 24 := ⟨_, rfl⟩
  have HOB := Hid.mk ho
  have HOB' := Hid.mk ho'
  obtain ⟨W0, hW0⟩ : ∃ W, W = (w.alloc o).alloc o' := ⟨_, rfl⟩
  have HW0 := Hid.mk hW0
  have HC : Hid (∀ wr, Below W0.heap.size W0 wr → (wr.cell? ⟨w.heap.size, 0, none⟩ = some (.int .i64 k) ∧ wr.cell? ⟨w.heap.size, 1, none⟩ = some (.string ⟨wd.toArray⟩) ∧ wr.cell? ⟨w.heap.size, 2, none⟩ = some (.slice ao nk cap)) ∧ (wr.cell? ⟨w.heap.size + 1, 0, none⟩ = some (.int .i64 r) ∧ wr.cell? ⟨w.heap.size + 1, 1, none⟩ = some (.string ⟨xd.toArray⟩) ∧ wr.cell? ⟨w.heap.size + 1, 2, none⟩ = some (.slice bo nr bap)) ∧ w.heap.size < wr.heap.size ∧ w.heap.size + 1 < wr.heap.size ∧ Below w.heap.size w wr) := Hid.mk (fun wr hb => by
    rw [HW0.out] at hb
    obtain ⟨h1, h2⟩ := box2 hb
    rw [HOB.out] at h1
    rw [HOB'.out] at h2
    exact ⟨(three_cells h1).1, (three_cells h2).1, lt_of_block h1, lt_of_block h2, below_box2 hb⟩)
  have HB0 : Hid (Below W0.heap.size W0 ((w.alloc (.cells #[.int .i64 k, .string ⟨wd.toArray⟩, .slice ao nk cap] 24)).alloc (.cells #[.int .i64 r, .string ⟨xd.toArray⟩, .slice bo nr bap] 24))) := Hid.mk (by rw [HW0.out, HOB.out, HOB'.out]; exact Below.refl _ _)
  clear ho ho' hW0
  have HD0 : Hid (Below W0.heap.size W0 ((w.alloc (.cells #[.int .i64 k, .string ⟨wd.toArray⟩, .slice ao nk cap] 24)).alloc (.cells #[.int .i64 r, .string ⟨xd.toArray⟩, .slice bo nr bap] 24)).drew) := Hid.mk HB0.out.drew
  have KS : Hid (∀ u, Below W0.heap.size W0 u → (u.cell? ⟨w.heap.size, 0, none⟩ = some (.int .i64 k) ∧ u.cell? ⟨w.heap.size, 1, none⟩ = some (.string ⟨wd.toArray⟩) ∧ u.cell? ⟨w.heap.size, 2, none⟩ = some (.slice ao nk cap)) ∧ (u.cell? ⟨w.heap.size + 1, 0, none⟩ = some (.int .i64 r) ∧ u.cell? ⟨w.heap.size + 1, 1, none⟩ = some (.string ⟨xd.toArray⟩) ∧ u.cell? ⟨w.heap.size + 1, 2, none⟩ = some (.slice bo nr bap))) := Hid.mk (fun u hu => ⟨(HC.out u hu).1, (HC.out u hu).2.1⟩)
  have KB : Hid (∀ u, Below W0.heap.size W0 u → Below w.heap.size w u) := Hid.mk (fun u hu => (HC.out u hu).2.2.2.2)
  cases fp with
  | false =>
    go_enter Try.func8, Try.ntmps8
    go_wp2_with fail
    first | (go_region_law (first | (go_simp; with_reducible refine (CFp.out _ (KB.out _ HD0.out)).mono ?_; rintro e y1 ⟨rfl, j1⟩; have z1 := HD0.out.trans (j1.mono HD0.out.size); obtain ⟨⟨a10, a11, a12⟩, ⟨b10, b11, b12⟩⟩ := KS.out _ z1))) | fail
    all_goals (
      have ZN := Hid.mk z1
      go_wp2_with fail
      refine (awake_any _).mono ?_
      rintro e wz ⟨rfl, hbz⟩
      have HBZ := Hid.mk (ZN.out.trans (hbz.mono ZN.out.size))
      clear hbz
      go_wp2
      go_ret
      exact ⟨rfl, KB.out _ HBZ.out⟩)
  | true =>
    cases fq with
    | false =>
      go_enter Try.func8, Try.ntmps8
      go_wp2_with fail
      first | (go_region_law (first | (go_simp; with_reducible refine (CFp.out _ (KB.out _ HD0.out)).mono ?_; rintro e y1 ⟨rfl, j1⟩; have z1 := HD0.out.trans (j1.mono HD0.out.size); obtain ⟨⟨a10, a11, a12⟩, ⟨b10, b11, b12⟩⟩ := KS.out _ z1) | (go_simp; with_reducible refine (CFq.out _ (KB.out _ z1)).mono ?_; rintro e y2 ⟨rfl, j2⟩; have z2 := z1.trans (j2.mono z1.size); obtain ⟨⟨a20, a21, a22⟩, ⟨b20, b21, b22⟩⟩ := KS.out _ z2))) | fail
      all_goals (
        have ZN := Hid.mk z2
        go_wp2_with fail
        refine (awake_any _).mono ?_
        rintro e wz ⟨rfl, hbz⟩
        have HBZ := Hid.mk (ZN.out.trans (hbz.mono ZN.out.size))
        clear hbz
        go_wp2
        go_ret
        exact ⟨rfl, KB.out _ HBZ.out⟩)
    | true =>
      cases b with
      | false =>
        go_enter Try.func8, Try.ntmps8
        go_wp2_with fail
        first | (go_region_law (first | (go_simp; with_reducible refine (CFp.out _ (KB.out _ HD0.out)).mono ?_; rintro e y1 ⟨rfl, j1⟩; have z1 := HD0.out.trans (j1.mono HD0.out.size); obtain ⟨⟨a10, a11, a12⟩, ⟨b10, b11, b12⟩⟩ := KS.out _ z1) | (go_simp; with_reducible refine (CFq.out _ (KB.out _ z1)).mono ?_; rintro e y2 ⟨rfl, j2⟩; have z2 := z1.trans (j2.mono z1.size); obtain ⟨⟨a20, a21, a22⟩, ⟨b20, b21, b22⟩⟩ := KS.out _ z2) | (go_simp; with_reducible refine (CMp.out _ (KB.out _ z2)).mono ?_; rintro e y3 ⟨rfl, j3⟩; have z3 := z2.trans (j3.mono z2.size); obtain ⟨⟨a30, a31, a32⟩, ⟨b30, b31, b32⟩⟩ := KS.out _ z3))) | fail
        all_goals (
          have ZN := Hid.mk z3
          go_wp2_with fail
          refine (awake_any _).mono ?_
          rintro e wz ⟨rfl, hbz⟩
          have HBZ := Hid.mk (ZN.out.trans (hbz.mono ZN.out.size))
          clear hbz
          go_wp2
          go_ret
          exact ⟨rfl, KB.out _ HBZ.out⟩)
      | true =>
        cases d with
        | false =>
          go_enter Try.func8, Try.ntmps8
          go_wp2_with fail
          first | (go_region_law (first | (go_simp; with_reducible refine (CFp.out _ (KB.out _ HD0.out)).mono ?_; rintro e y1 ⟨rfl, j1⟩; have z1 := HD0.out.trans (j1.mono HD0.out.size); obtain ⟨⟨a10, a11, a12⟩, ⟨b10, b11, b12⟩⟩ := KS.out _ z1) | (go_simp; with_reducible refine (CFq.out _ (KB.out _ z1)).mono ?_; rintro e y2 ⟨rfl, j2⟩; have z2 := z1.trans (j2.mono z1.size); obtain ⟨⟨a20, a21, a22⟩, ⟨b20, b21, b22⟩⟩ := KS.out _ z2) | (go_simp; with_reducible refine (CMp.out _ (KB.out _ z2)).mono ?_; rintro e y3 ⟨rfl, j3⟩; have z3 := z2.trans (j3.mono z2.size); obtain ⟨⟨a30, a31, a32⟩, ⟨b30, b31, b32⟩⟩ := KS.out _ z3) | (go_simp; with_reducible refine (CMq.out _ (KB.out _ z3)).mono ?_; rintro e y4 ⟨rfl, j4⟩; have z4 := z3.trans (j4.mono z3.size); obtain ⟨⟨a40, a41, a42⟩, ⟨b40, b41, b42⟩⟩ := KS.out _ z4))) | fail
          all_goals (
            have ZN := Hid.mk z4
            go_wp2_with fail
            refine (awake_any _).mono ?_
            rintro e wz ⟨rfl, hbz⟩
            have HBZ := Hid.mk (ZN.out.trans (hbz.mono ZN.out.size))
            clear hbz
            go_wp2
            go_ret
            exact ⟨rfl, KB.out _ HBZ.out⟩)
        | true =>
          exact absurd ⟨rfl, rfl, rfl, rfl⟩ HXX.out
end Go.Proofs.Ythdnpddfdlhlaaa
