/- PathJoins. (Written by a program.) -/
import Derived.Test.YthdnpddfdlhlaaaBLaw
import Derived.Test.YthdnpddfdlhlaaaQOpen
namespace Go.Proofs.Ythdnpddfdlhlaaa
open Go.RowKit Go.Shelf

theorem may_two {k : Int} {p q : Pt} (hk : k = 2 ∨ k = 3) (hp : mayP p = true) (hq : mayP q = true) (h1 : high p ≤ 11) (h2 : high q ≤ 11) (h3 : leaves p + leaves q ≤ 24) : mayP ⟨k, [], [p, q]⟩ = true := by
  simp only [mayP, Bool.and_eq_true, decide_eq_true_eq] at hp hq ⊢
  have a := shaped_high 11 12 p hp.1 h1
  have b := shaped_high 11 12 q hq.1 h2
  refine ⟨?_, ?_⟩
  · rw [shapedP]
    simp only [List.all_cons, List.all_nil, a, b]
    rcases hk with rfl | rfl <;> rfl
  · rw [leaves_mk, if_neg (by omega)]
    simpa using h3
set_option maxRecDepth 100000 in
set_option maxHeartbeats 16000000 in
theorem pathJoins_walk (t s : Vt) (v : Value) (L : List Wd) (w : World) (h : VOk (fun _ => True) w t) (h' : VOk (fun _ => True) w s) (hv : TxtS (fun _ => True) w v L) (hcap : L.length ≤ 9223372036854775807 ∧ CapS v L.length) :
    Calls Try.prog 6 #[encN t, encN s, v] w fun e w' => e = .returned (.bool true) ∧ Below w.heap.size w w' := by
  obtain ⟨hvl, va, vc, rfl, hvc⟩ := hcap
  have HV := Hid.mk hv
  obtain ⟨ao, cap, hvvp⟩ := h.parts.1.slice
  have hkl := h.parts.2.2.1
  obtain ⟨P, hP⟩ : ∃ P, P = t.pt := ⟨_, rfl⟩
  obtain ⟨b, hb⟩ : ∃ b, b = mayP P := ⟨_, rfl⟩
  have CFp := Hid.mk (fun u (hu : Below w.heap.size w u) => flat_any (h.below hu))
  have CMp : Hid (∀ u, Below w.heap.size w u → Calls Try.prog 23 #[encN t] u fun e w' => e = .returned (.bool b) ∧ Below u.heap.size u w') := Hid.mk (fun u hu => by rw [hb, hP]; exact rMayPath_any (h.below hu))
  have HHp : Hid (b = true → high P ≤ 12) := Hid.mk (fun h1 => by rw [hb] at h1; exact may_high h1)
  have HEp : Hid (b = true → leaves P ≤ 24) := Hid.mk (fun h1 => by rw [hb] at h1; exact may_leaves h1)
  have CDp : Hid (b = true → ∀ u, Below w.heap.size w u → Calls Try.prog 25 #[encN t] u fun e w' => e = .returned (.int .i64 (high P : Int)) ∧ Below u.heap.size u w') := Hid.mk (fun h1 u hu => by
    rw [hP]
    refine rDeep_any t u ?_ (h.below hu)
    have := HHp.out h1
    rw [hP] at this
    omega)
  have CPp : Hid (b = true → ∀ u, Below w.heap.size w u → Calls Try.prog 24 #[encN t] u fun e w' => e = .returned (.int .i64 (leaves P : Int)) ∧ Below u.heap.size u w') := Hid.mk (fun h1 u hu => by
    rw [hP]
    refine rPlaces_any t u ?_ (h.below hu)
    have := HEp.out h1
    rw [hP] at this
    omega)
  have COp : Hid (b = true → ∀ u, Below w.heap.size w u → Calls Try.prog 11 #[encN t] u (OfE P u)) := Hid.mk (fun h1 u hu => by rw [hP]; exact of_may (h.below hu) (by rw [← hP, ← hb, h1]))
  obtain ⟨bo, bap, hvvq⟩ := h'.parts.1.slice
  have hkm := h'.parts.2.2.1
  obtain ⟨Q, hQ⟩ : ∃ P, P = s.pt := ⟨_, rfl⟩
  obtain ⟨d, hd⟩ : ∃ b, b = mayP Q := ⟨_, rfl⟩
  have CFq := Hid.mk (fun u (hu : Below w.heap.size w u) => flat_any (h'.below hu))
  have CMq : Hid (∀ u, Below w.heap.size w u → Calls Try.prog 23 #[encN s] u fun e w' => e = .returned (.bool d) ∧ Below u.heap.size u w') := Hid.mk (fun u hu => by rw [hd, hQ]; exact rMayPath_any (h'.below hu))
  have HHq : Hid (d = true → high Q ≤ 12) := Hid.mk (fun h1 => by rw [hd] at h1; exact may_high h1)
  have HEq : Hid (d = true → leaves Q ≤ 24) := Hid.mk (fun h1 => by rw [hd] at h1; exact may_leaves h1)
  have CDq : Hid (d = true → ∀ u, Below w.heap.size w u → Calls Try.prog 25 #[encN s] u fun e w' => e = .returned (.int .i64 (high Q : Int)) ∧ Below u.heap.size u w') := Hid.mk (fun h1 u hu => by
    rw [hQ]
    refine rDeep_any s u ?_ (h'.below hu)
    have := HHq.out h1
    rw [hQ] at this
    omega)
  have CPq : Hid (d = true → ∀ u, Below w.heap.size w u → Calls Try.prog 24 #[encN s] u fun e w' => e = .returned (.int .i64 (leaves Q : Int)) ∧ Below u.heap.size u w') := Hid.mk (fun h1 u hu => by
    rw [hQ]
    refine rPlaces_any s u ?_ (h'.below hu)
    have := HEq.out h1
    rw [hQ] at this
    omega)
  have COq : Hid (d = true → ∀ u, Below w.heap.size w u → Calls Try.prog 11 #[encN s] u (OfE Q u)) := Hid.mk (fun h1 u hu => by rw [hQ]; exact of_may (h'.below hu) (by rw [← hQ, ← hd, h1]))
  have CK : Hid (∀ k : Int, k = 2 ∨ k = 3 → b = true → d = true → high P ≤ 11 → high Q ≤ 11 → leaves P ≤ 12 → leaves Q ≤ 12 → ∀ u g, Below w.heap.size w u → u.heap[g]? = some (.cells #[.int .i64 t.kind, .string ⟨t.word.toArray⟩, t.val, .int .i64 s.kind, .string ⟨s.word.toArray⟩, s.val] 24 (0, 0)) → Calls Try.prog 11 #[.agg #[.int .i64 k, .string ⟨#[]⟩, .slice (some ⟨g, 0, none⟩) 2 2]] u (OfE ⟨k, [], [P, Q]⟩ u)) := Hid.mk (fun k hk h1 h2 h3 h4 h5 h6 u g hu hg => by
    have hv : VOk (fun _ => True) u ⟨k, [], .slice (some ⟨g, 0, none⟩) 2 2, [t, s]⟩ := vok_mk.2 ⟨sl_lit csN_len hg (by rfl) (by rfl), by simp, by simp, fun x hx => by
      simp at hx
      rcases hx with rfl | rfl
      · exact h.below hu
      · exact h'.below hu⟩
    have hp : Vt.pt ⟨k, [], .slice (some ⟨g, 0, none⟩) 2 2, [t, s]⟩ = ⟨k, [], [P, Q]⟩ := by rw [Vt.pt_mk, hP, hQ]; rfl
    have := of_may hv (by rw [hp]; exact may_two hk (by rw [← hb, h1]) (by rw [← hd, h2]) h3 h4 (by omega))
    rw [hp] at this
    exact this)
  obtain ⟨k, wd, kv, l⟩ := t
  obtain ⟨r, xd, rv, l'⟩ := s
  dsimp only at hvvp hvvq hkl hkm CK
  subst hvvp hvvq
  obtain ⟨nk, hnk⟩ : ∃ n, n = l.length := ⟨_, rfl⟩
  obtain ⟨nr, hnr⟩ : ∃ n, n = l'.length := ⟨_, rfl⟩
  rw [← hnk] at CFp CMp COp CDp CPp CK hkl ⊢
  rw [← hnr] at CFq CMq COq CDq CPq CK hkm ⊢
  obtain ⟨n, hn⟩ : ∃ n, n = L.length := ⟨_, rfl⟩
  rw [← hn] at HV hvl hvc ⊢
  have HN := Hid.mk hn
  clear h h' hv hP hQ hb hd hn hnk hnr
  show Calls Try.prog _ #[.agg #[.int .i64 k, .string ⟨wd.toArray⟩, .slice ao nk cap], .agg #[.int .i64 r, .string ⟨xd.toArray⟩, .slice bo nr bap], _] w _
  obtain ⟨o, ho⟩ : ∃ o, o = Obj.cells #[.int .i64 k, .string ⟨wd.toArray⟩, .slice ao nk cap] 24 := ⟨_, rfl⟩
  obtain ⟨o', ho'⟩ : ∃ o, o = Obj.cells #[.int .i64 r, .string ⟨xd.toArray⟩, .slice bo nr bap] 24 := ⟨_, rfl⟩
  have HOB := Hid.mk ho
  have HOB' := Hid.mk ho'
  obtain ⟨W0, hW0⟩ : ∃ W, W = (w.alloc o).alloc o' := ⟨_, rfl⟩
  have HW0 := Hid.mk hW0
  have HC : Hid (∀ wr, Below W0.heap.size W0 wr → (wr.cell? ⟨w.heap.size, 0, none⟩ = some (.int .i64 k) ∧ wr.cell? ⟨w.heap.size, 1, none⟩ = some (.string ⟨wd.toArray⟩) ∧ wr.cell? ⟨w.heap.size, 2, none⟩ = some (.slice ao nk cap)) ∧ (wr.cell? ⟨w.heap.size + 1, 0, none⟩ = some (.int .i64 r) ∧ wr.cell? ⟨w.heap.size + 1, 1, none⟩ = some (.string ⟨xd.toArray⟩) ∧ wr.cell? ⟨w.heap.size + 1, 2, none⟩ = some (.slice bo nr bap)) ∧ w.heap.size < wr.heap.size ∧ w.heap.size + 1 < wr.heap.size ∧ Below w.heap.size w wr) := Hid.mk (fun wr hb => by
    rw [HW0.out] at hb
    obtain ⟨h1, h2⟩ := box2 hb
    rw [HOB.out] at h1
    rw [HOB'.out] at h2
    exact ⟨(three_cells h1).1, (three_cells h2).1, lt_of_block h1, lt_of_block h2, below_box2 hb⟩)
  have HB0 : Hid (Below W0.heap.size W0 ((w.alloc (.cells #[.int .i64 k, .string ⟨wd.toArray⟩, .slice ao nk cap] 24)).alloc (.cells #[.int .i64 r, .string ⟨xd.toArray⟩, .slice bo nr bap] 24))) := Hid.mk (by rw [HW0.out, HOB.out, HOB'.out]; exact Below.refl _ _)
  clear ho ho' hW0
  go_enter Try.func6, Try.ntmps6
  go_wp2_with fail
  refine (CFp.out _ (HC.out _ HB0.out).2.2.2.2).mono ?_
  rintro e w1 ⟨⟨flp, rfl⟩, hbx⟩
  have HB1 := Hid.mk (HB0.out.trans (hbx.mono HB0.out.size))
  clear hbx
  cases flp with
  | false =>
    go_wp2_with fail
    refine (awake_any _).mono ?_
    rintro e wz ⟨rfl, hbz⟩
    have HBZ := Hid.mk (HB1.out.trans (hbz.mono HB1.out.size))
    clear hbz
    go_wp2
    go_ret
    exact ⟨rfl, (HC.out _ HBZ.out).2.2.2.2⟩
  | true =>
    obtain ⟨⟨c0, c1, c2⟩, ⟨c3, c4, c5⟩, _, _, _⟩ := HC.out _ HB1.out
    go_wp2_with fail
    refine (CFq.out _ (HC.out _ HB1.out).2.2.2.2).mono ?_
    rintro e w2 ⟨⟨flq, rfl⟩, hbx⟩
    have HB2 := Hid.mk (HB1.out.trans (hbx.mono HB1.out.size))
    clear hbx c0 c1 c2 c3 c4 c5
    cases flq with
    | false =>
      go_wp2_with fail
      refine (awake_any _).mono ?_
      rintro e wz ⟨rfl, hbz⟩
      have HBZ := Hid.mk (HB2.out.trans (hbz.mono HB2.out.size))
      clear hbz
      go_wp2
      go_ret
      exact ⟨rfl, (HC.out _ HBZ.out).2.2.2.2⟩
    | true =>
      cases b with
      | false =>
        obtain ⟨⟨c0, c1, c2⟩, ⟨c3, c4, c5⟩, _, _, _⟩ := HC.out _ HB2.out
        go_wp2_with fail
        refine (CMp.out _ (HC.out _ HB2.out).2.2.2.2).mono ?_
        rintro e w3 ⟨rfl, hbx⟩
        have HB3 := Hid.mk (HB2.out.trans (hbx.mono HB2.out.size))
        clear hbx c0 c1 c2 c3 c4 c5
        go_wp2_with fail
        refine (awake_any _).mono ?_
        rintro e wz ⟨rfl, hbz⟩
        have HBZ := Hid.mk (HB3.out.trans (hbz.mono HB3.out.size))
        clear hbz
        go_wp2
        go_ret
        exact ⟨rfl, (HC.out _ HBZ.out).2.2.2.2⟩
      | true =>
        have CDp2 := Hid.mk (CDp.out rfl)
        have CPp2 := Hid.mk (CPp.out rfl)
        have COp2 := Hid.mk (COp.out rfl)
        have hhp := HHp.out rfl
        have hep := HEp.out rfl
        clear CDp CPp COp
        obtain ⟨⟨c0, c1, c2⟩, ⟨c3, c4, c5⟩, _, _, _⟩ := HC.out _ HB2.out
        go_wp2_with fail
        refine (CMp.out _ (HC.out _ HB2.out).2.2.2.2).mono ?_
        rintro e w3 ⟨rfl, hbx⟩
        have HB3 := Hid.mk (HB2.out.trans (hbx.mono HB2.out.size))
        clear hbx c0 c1 c2 c3 c4 c5
        cases d with
        | false =>
          obtain ⟨⟨c0, c1, c2⟩, ⟨c3, c4, c5⟩, _, _, _⟩ := HC.out _ HB3.out
          go_wp2_with fail
          refine (CMq.out _ (HC.out _ HB3.out).2.2.2.2).mono ?_
          rintro e w4 ⟨rfl, hbx⟩
          have HB4 := Hid.mk (HB3.out.trans (hbx.mono HB3.out.size))
          clear hbx c0 c1 c2 c3 c4 c5
          go_wp2_with fail
          refine (awake_any _).mono ?_
          rintro e wz ⟨rfl, hbz⟩
          have HBZ := Hid.mk (HB4.out.trans (hbz.mono HB4.out.size))
          clear hbz
          go_wp2
          go_ret
          exact ⟨rfl, (HC.out _ HBZ.out).2.2.2.2⟩
        | true =>
          have CDq2 := Hid.mk (CDq.out rfl)
          have CPq2 := Hid.mk (CPq.out rfl)
          have COq2 := Hid.mk (COq.out rfl)
          have hhq := HHq.out rfl
          have heq := HEq.out rfl
          clear CDq CPq COq
          obtain ⟨⟨c0, c1, c2⟩, ⟨c3, c4, c5⟩, _, _, _⟩ := HC.out _ HB3.out
          go_wp2_with fail
          refine (CMq.out _ (HC.out _ HB3.out).2.2.2.2).mono ?_
          rintro e w4 ⟨rfl, hbx⟩
          have HB4 := Hid.mk (HB3.out.trans (hbx.mono HB3.out.size))
          clear hbx c0 c1 c2 c3 c4 c5
          obtain ⟨lp, hlp⟩ : ∃ x, x = leaves P := ⟨_, rfl⟩
          obtain ⟨lq, hlq⟩ : ∃ x, x = leaves Q := ⟨_, rfl⟩
          obtain ⟨ip, hip⟩ : ∃ x, x = high P := ⟨_, rfl⟩
          obtain ⟨iq, hiq⟩ : ∃ x, x = high Q := ⟨_, rfl⟩
          rw [← hlp] at CPp2 hep
          rw [← hlq] at CPq2 heq
          rw [← hip] at CDp2 hhp
          rw [← hiq] at CDq2 hhq
          have HLP := Hid.mk hlp
          have HLQ := Hid.mk hlq
          have HIP := Hid.mk hip
          have HIQ := Hid.mk hiq
          clear hlp hlq hip hiq
          obtain ⟨⟨c0, c1, c2⟩, ⟨c3, c4, c5⟩, _, _, _⟩ := HC.out _ HB4.out
          go_wp2_with fail
          refine (CPp2.out _ (HC.out _ HB4.out).2.2.2.2).mono ?_
          rintro e w5 ⟨rfl, hbx⟩
          have HB5 := Hid.mk (HB4.out.trans (hbx.mono HB4.out.size))
          clear hbx c0 c1 c2 c3 c4 c5
          by_cases t5 : (12 : Int) < (lp : Int)
          · have t5b : decide ((12 : Int) < (lp : Int)) = true := decide_eq_true t5
            go_wp2_with fail
            refine (awake_any _).mono ?_
            rintro e wz ⟨rfl, hbz⟩
            have HBZ := Hid.mk (HB5.out.trans (hbz.mono HB5.out.size))
            clear hbz
            go_wp2
            go_ret
            exact ⟨rfl, (HC.out _ HBZ.out).2.2.2.2⟩
          · have t5b : decide ((12 : Int) < (lp : Int)) = false := decide_eq_false t5
            obtain ⟨⟨c0, c1, c2⟩, ⟨c3, c4, c5⟩, _, _, _⟩ := HC.out _ HB5.out
            go_wp2_with fail
            refine (CPq2.out _ (HC.out _ HB5.out).2.2.2.2).mono ?_
            rintro e w6 ⟨rfl, hbx⟩
            have HB6 := Hid.mk (HB5.out.trans (hbx.mono HB5.out.size))
            clear hbx c0 c1 c2 c3 c4 c5
            by_cases t6 : (12 : Int) < (lq : Int)
            · have t6b : decide ((12 : Int) < (lq : Int)) = true := decide_eq_true t6
              go_wp2_with fail
              refine (awake_any _).mono ?_
              rintro e wz ⟨rfl, hbz⟩
              have HBZ := Hid.mk (HB6.out.trans (hbz.mono HB6.out.size))
              clear hbz
              go_wp2
              go_ret
              exact ⟨rfl, (HC.out _ HBZ.out).2.2.2.2⟩
            · have t6b : decide ((12 : Int) < (lq : Int)) = false := decide_eq_false t6
              obtain ⟨⟨c0, c1, c2⟩, ⟨c3, c4, c5⟩, _, _, _⟩ := HC.out _ HB6.out
              go_wp2_with fail
              refine (CDp2.out _ (HC.out _ HB6.out).2.2.2.2).mono ?_
              rintro e w7 ⟨rfl, hbx⟩
              have HB7 := Hid.mk (HB6.out.trans (hbx.mono HB6.out.size))
              clear hbx c0 c1 c2 c3 c4 c5
              by_cases t7 : (11 : Int) < (ip : Int)
              · have t7b : decide ((11 : Int) < (ip : Int)) = true := decide_eq_true t7
                go_wp2_with fail
                refine (awake_any _).mono ?_
                rintro e wz ⟨rfl, hbz⟩
                have HBZ := Hid.mk (HB7.out.trans (hbz.mono HB7.out.size))
                clear hbz
                go_wp2
                go_ret
                exact ⟨rfl, (HC.out _ HBZ.out).2.2.2.2⟩
              · have t7b : decide ((11 : Int) < (ip : Int)) = false := decide_eq_false t7
                obtain ⟨⟨c0, c1, c2⟩, ⟨c3, c4, c5⟩, _, _, _⟩ := HC.out _ HB7.out
                go_wp2_with fail
                refine (CDq2.out _ (HC.out _ HB7.out).2.2.2.2).mono ?_
                rintro e w8 ⟨rfl, hbx⟩
                have HB8 := Hid.mk (HB7.out.trans (hbx.mono HB7.out.size))
                clear hbx c0 c1 c2 c3 c4 c5
                by_cases t8 : (11 : Int) < (iq : Int)
                · have t8b : decide ((11 : Int) < (iq : Int)) = true := decide_eq_true t8
                  go_wp2_with fail
                  refine (awake_any _).mono ?_
                  rintro e wz ⟨rfl, hbz⟩
                  have HBZ := Hid.mk (HB8.out.trans (hbz.mono HB8.out.size))
                  clear hbz
                  go_wp2
                  go_ret
                  exact ⟨rfl, (HC.out _ HBZ.out).2.2.2.2⟩
                · have t8b : decide ((11 : Int) < (iq : Int)) = false := decide_eq_false t8
                  by_cases tn : (8 : Int) < (n : Int)
                  · have tnb : decide ((8 : Int) < (n : Int)) = true := decide_eq_true tn
                    go_wp2_with fail
                    refine (awake_any _).mono ?_
                    rintro e wz ⟨rfl, hbz⟩
                    have HBZ := Hid.mk (HB8.out.trans (hbz.mono HB8.out.size))
                    clear hbz
                    go_wp2
                    go_ret
                    exact ⟨rfl, (HC.out _ HBZ.out).2.2.2.2⟩
                  · have tnb : decide ((8 : Int) < (n : Int)) = false := decide_eq_false tn
                    have hn8 : n ≤ 8 := by omega
                    have CK2 := Hid.mk (CK.out 2 (by omega) (by trivial) (by trivial) (by have := HIP.out; omega) (by have := HIQ.out; omega) (by have := HLP.out; omega) (by have := HLQ.out; omega))
                    have CK3 := Hid.mk (CK.out 3 (by omega) (by trivial) (by trivial) (by have := HIP.out; omega) (by have := HIQ.out; omega) (by have := HLP.out; omega) (by have := HLQ.out; omega))
                    clear CK
                    obtain ⟨⟨c0, c1, c2⟩, ⟨c3, c4, c5⟩, lt0, lt1, _⟩ := HC.out _ HB8.out
                    go_wp2_with fail
                    refine (COp2.out _ (HC.out _ HB8.out).2.2.2.2).mono ?_
                    rintro e x1 ⟨m1, rfl, hu, ha, hbx⟩
                    have HGX1 := Hid.mk (HB8.out.trans (hbx.mono HB8.out.size))
                    obtain ⟨wa1, wc1, fa1, fc1, la1, lc1, oa1, oc1, e1, e2, e3, e4⟩ := hu.slices
                    obtain ⟨f1, hf⟩ : ∃ f : List Wd → Bool, f = accB m1.au := ⟨_, rfl⟩
                    have HF1 := Hid.mk ha
                    rw [← hf] at HF1
                    have CA1 : Hid (∀ u x K, Below x1.heap.size x1 u → TxtS (fun _ => True) u x K → K.length ≤ 1000 → Calls Try.prog 16 #[encU m1, x] u fun e w' => e = .returned (.bool (f1 K)) ∧ Below u.heap.size u w') := Hid.mk (fun u x K hu2 hx hl => by rw [hf]; exact acc_any (hu.below hu2) hx (by omega))
                    obtain ⟨v1a, v1b, v1c, v1d, v1e, v1f, v1g, v1h, em1⟩ := m1
                    dsimp only at e1 e2 e3 e4 CA1
                    subst e1 e2 e3 e4
                    obtain ⟨nw1, hnw⟩ : ∃ n, n = v1b.length := ⟨_, rfl⟩
                    obtain ⟨nf1, hnf⟩ : ∃ n, n = v1d.length := ⟨_, rfl⟩
                    obtain ⟨nl1, hnl⟩ : ∃ n, n = v1f.length := ⟨_, rfl⟩
                    obtain ⟨no1, hno⟩ : ∃ n, n = v1h.length := ⟨_, rfl⟩
                    have CB1 : Hid (∀ u x K, Below x1.heap.size x1 u → TxtS (fun _ => True) u x K → K.length ≤ 1000 → Calls Try.prog 16 #[.agg #[.slice wa1 nw1 wc1, .slice fa1 nf1 fc1, .slice la1 nl1 lc1, .slice oa1 no1 oc1, .bool em1], x] u fun e w' => e = .returned (.bool (f1 K)) ∧ Below u.heap.size u w') := Hid.mk (by rw [hnw, hnf, hnl, hno]; exact CA1.out)
                    rw [← hnw, ← hnf, ← hnl, ← hno]
                    obtain ⟨O1, hO⟩ : ∃ O, O = Obj.cells #[.slice wa1 nw1 wc1, .slice fa1 nf1 fc1, .slice la1 nl1 lc1, .slice oa1 no1 oc1, .bool em1] 31 := ⟨_, rfl⟩
                    have HO1 := Hid.mk hO
                    have HGA1 : Hid (Below W0.heap.size W0 (x1.alloc (.cells #[.slice wa1 nw1 wc1, .slice fa1 nf1 fc1, .slice la1 nl1 lc1, .slice oa1 no1 oc1, .bool em1] 31))) := Hid.mk (HGX1.out.alloc HGX1.out.size _)
                    have KA1 : Hid (∀ u, Below (x1.alloc O1).heap.size (x1.alloc O1) u → Below x1.heap.size x1 u ∧ u.cell? ⟨x1.heap.size, 0, none⟩ = some (.slice wa1 nw1 wc1) ∧ u.cell? ⟨x1.heap.size, 1, none⟩ = some (.slice fa1 nf1 fc1) ∧ u.cell? ⟨x1.heap.size, 2, none⟩ = some (.slice la1 nl1 lc1) ∧ u.cell? ⟨x1.heap.size, 3, none⟩ = some (.slice oa1 no1 oc1) ∧ u.cell? ⟨x1.heap.size, 4, none⟩ = some (.bool em1)) := Hid.mk (fun u hu => by
                      have h := box_keptQ hu
                      rw [HO1.out] at h
                      exact ⟨below_boxQ hu, cells5 h⟩)
                    clear hbx hu ha hf hnw hnf hnl hno hO CA1 c0 c1 c2 c3 c4 c5 lt0 lt1
                    obtain ⟨⟨c0, c1, c2⟩, ⟨c3, c4, c5⟩, lt0, lt1, _⟩ := HC.out _ HGX1.out
                    go_wp2_with fail
                    refine (COq2.out _ (HC.out _ HGA1.out).2.2.2.2).mono ?_
                    rintro e x2 ⟨m2, rfl, hu, ha, hbx⟩
                    have HGX2 := Hid.mk (HGA1.out.trans (hbx.mono HGA1.out.size))
                    obtain ⟨wa2, wc2, fa2, fc2, la2, lc2, oa2, oc2, e1, e2, e3, e4⟩ := hu.slices
                    obtain ⟨f2, hf⟩ : ∃ f : List Wd → Bool, f = accB m2.au := ⟨_, rfl⟩
                    have HF2 := Hid.mk ha
                    rw [← hf] at HF2
                    have CA2 : Hid (∀ u x K, Below x2.heap.size x2 u → TxtS (fun _ => True) u x K → K.length ≤ 1000 → Calls Try.prog 16 #[encU m2, x] u fun e w' => e = .returned (.bool (f2 K)) ∧ Below u.heap.size u w') := Hid.mk (fun u x K hu2 hx hl => by rw [hf]; exact acc_any (hu.below hu2) hx (by omega))
                    obtain ⟨v2a, v2b, v2c, v2d, v2e, v2f, v2g, v2h, em2⟩ := m2
                    dsimp only at e1 e2 e3 e4 CA2
                    subst e1 e2 e3 e4
                    obtain ⟨nw2, hnw⟩ : ∃ n, n = v2b.length := ⟨_, rfl⟩
                    obtain ⟨nf2, hnf⟩ : ∃ n, n = v2d.length := ⟨_, rfl⟩
                    obtain ⟨nl2, hnl⟩ : ∃ n, n = v2f.length := ⟨_, rfl⟩
                    obtain ⟨no2, hno⟩ : ∃ n, n = v2h.length := ⟨_, rfl⟩
                    have CB2 : Hid (∀ u x K, Below x2.heap.size x2 u → TxtS (fun _ => True) u x K → K.length ≤ 1000 → Calls Try.prog 16 #[.agg #[.slice wa2 nw2 wc2, .slice fa2 nf2 fc2, .slice la2 nl2 lc2, .slice oa2 no2 oc2, .bool em2], x] u fun e w' => e = .returned (.bool (f2 K)) ∧ Below u.heap.size u w') := Hid.mk (by rw [hnw, hnf, hnl, hno]; exact CA2.out)
                    rw [← hnw, ← hnf, ← hnl, ← hno]
                    obtain ⟨O2, hO⟩ : ∃ O, O = Obj.cells #[.slice wa2 nw2 wc2, .slice fa2 nf2 fc2, .slice la2 nl2 lc2, .slice oa2 no2 oc2, .bool em2] 31 := ⟨_, rfl⟩
                    have HO2 := Hid.mk hO
                    have HGA2 : Hid (Below W0.heap.size W0 (x2.alloc (.cells #[.slice wa2 nw2 wc2, .slice fa2 nf2 fc2, .slice la2 nl2 lc2, .slice oa2 no2 oc2, .bool em2] 31))) := Hid.mk (HGX2.out.alloc HGX2.out.size _)
                    have KA2 : Hid (∀ u, Below (x2.alloc O2).heap.size (x2.alloc O2) u → Below x2.heap.size x2 u ∧ u.cell? ⟨x2.heap.size, 0, none⟩ = some (.slice wa2 nw2 wc2) ∧ u.cell? ⟨x2.heap.size, 1, none⟩ = some (.slice fa2 nf2 fc2) ∧ u.cell? ⟨x2.heap.size, 2, none⟩ = some (.slice la2 nl2 lc2) ∧ u.cell? ⟨x2.heap.size, 3, none⟩ = some (.slice oa2 no2 oc2) ∧ u.cell? ⟨x2.heap.size, 4, none⟩ = some (.bool em2)) := Hid.mk (fun u hu => by
                      have h := box_keptQ hu
                      rw [HO2.out] at h
                      exact ⟨below_boxQ hu, cells5 h⟩)
                    have HS2 : Hid (Below (x1.alloc O1).heap.size (x1.alloc O1) x2) := Hid.mk (by rw [HO1.out]; exact hbx)
                    clear hbx hu ha hf hnw hnf hnl hno hO CA2 c0 c1 c2 c3 c4 c5 lt0 lt1
                    obtain ⟨⟨c0, c1, c2⟩, ⟨c3, c4, c5⟩, lt0, lt1, _⟩ := HC.out _ HGX2.out
                    go_wp2_with fail
                    have HGK3 : Hid (Below W0.heap.size W0 ((x2.alloc (.cells #[.slice wa2 nw2 wc2, .slice fa2 nf2 fc2, .slice la2 nl2 lc2, .slice oa2 no2 oc2, .bool em2] 31)).alloc (.cells #[.int .i64 k, .string ⟨wd.toArray⟩, .slice ao nk cap, .int .i64 r, .string ⟨xd.toArray⟩, .slice bo nr bap] 24))) := Hid.mk (HGA2.out.alloc HGA2.out.size _)
                    refine (CK2.out _ (x2.heap.size + 1) (HC.out _ HGK3.out).2.2.2.2 (get_at [(.cells #[.slice wa2 nw2 wc2, .slice fa2 nf2 fc2, .slice la2 nl2 lc2, .slice oa2 no2 oc2, .bool em2] 31), _] x2 1 (by simp))).mono ?_
                    rintro e x3 ⟨m3, rfl, hu, ha, hbx⟩
                    have HGX3 := Hid.mk (HGK3.out.trans (hbx.mono HGK3.out.size))
                    obtain ⟨wa3, wc3, fa3, fc3, la3, lc3, oa3, oc3, e1, e2, e3, e4⟩ := hu.slices
                    obtain ⟨f3, hf⟩ : ∃ f : List Wd → Bool, f = accB m3.au := ⟨_, rfl⟩
                    have HF3 := Hid.mk ha
                    rw [← hf] at HF3
                    have CA3 : Hid (∀ u x K, Below x3.heap.size x3 u → TxtS (fun _ => True) u x K → K.length ≤ 1000 → Calls Try.prog 16 #[encU m3, x] u fun e w' => e = .returned (.bool (f3 K)) ∧ Below u.heap.size u w') := Hid.mk (fun u x K hu2 hx hl => by rw [hf]; exact acc_any (hu.below hu2) hx (by omega))
                    obtain ⟨v3a, v3b, v3c, v3d, v3e, v3f, v3g, v3h, em3⟩ := m3
                    dsimp only at e1 e2 e3 e4 CA3
                    subst e1 e2 e3 e4
                    obtain ⟨nw3, hnw⟩ : ∃ n, n = v3b.length := ⟨_, rfl⟩
                    obtain ⟨nf3, hnf⟩ : ∃ n, n = v3d.length := ⟨_, rfl⟩
                    obtain ⟨nl3, hnl⟩ : ∃ n, n = v3f.length := ⟨_, rfl⟩
                    obtain ⟨no3, hno⟩ : ∃ n, n = v3h.length := ⟨_, rfl⟩
                    have CB3 : Hid (∀ u x K, Below x3.heap.size x3 u → TxtS (fun _ => True) u x K → K.length ≤ 1000 → Calls Try.prog 16 #[.agg #[.slice wa3 nw3 wc3, .slice fa3 nf3 fc3, .slice la3 nl3 lc3, .slice oa3 no3 oc3, .bool em3], x] u fun e w' => e = .returned (.bool (f3 K)) ∧ Below u.heap.size u w') := Hid.mk (by rw [hnw, hnf, hnl, hno]; exact CA3.out)
                    rw [← hnw, ← hnf, ← hnl, ← hno]
                    obtain ⟨O3, hO⟩ : ∃ O, O = Obj.cells #[.slice wa3 nw3 wc3, .slice fa3 nf3 fc3, .slice la3 nl3 lc3, .slice oa3 no3 oc3, .bool em3] 31 := ⟨_, rfl⟩
                    have HO3 := Hid.mk hO
                    have HGA3 : Hid (Below W0.heap.size W0 (x3.alloc (.cells #[.slice wa3 nw3 wc3, .slice fa3 nf3 fc3, .slice la3 nl3 lc3, .slice oa3 no3 oc3, .bool em3] 31))) := Hid.mk (HGX3.out.alloc HGX3.out.size _)
                    have KA3 : Hid (∀ u, Below (x3.alloc O3).heap.size (x3.alloc O3) u → Below x3.heap.size x3 u ∧ u.cell? ⟨x3.heap.size, 0, none⟩ = some (.slice wa3 nw3 wc3) ∧ u.cell? ⟨x3.heap.size, 1, none⟩ = some (.slice fa3 nf3 fc3) ∧ u.cell? ⟨x3.heap.size, 2, none⟩ = some (.slice la3 nl3 lc3) ∧ u.cell? ⟨x3.heap.size, 3, none⟩ = some (.slice oa3 no3 oc3) ∧ u.cell? ⟨x3.heap.size, 4, none⟩ = some (.bool em3)) := Hid.mk (fun u hu => by
                      have h := box_keptQ hu
                      rw [HO3.out] at h
                      exact ⟨below_boxQ hu, cells5 h⟩)
                    have HS3 : Hid (Below (x2.alloc O2).heap.size (x2.alloc O2) x3) := Hid.mk (by rw [HO2.out]; exact below_boxQ hbx)
                    clear hbx hu ha hf hnw hnf hnl hno hO CA3 c0 c1 c2 c3 c4 c5 lt0 lt1
                    obtain ⟨⟨c0, c1, c2⟩, ⟨c3, c4, c5⟩, lt0, lt1, _⟩ := HC.out _ HGX3.out
                    go_wp2_with fail
                    have HGK4 : Hid (Below W0.heap.size W0 ((x3.alloc (.cells #[.slice wa3 nw3 wc3, .slice fa3 nf3 fc3, .slice la3 nl3 lc3, .slice oa3 no3 oc3, .bool em3] 31)).alloc (.cells #[.int .i64 k, .string ⟨wd.toArray⟩, .slice ao nk cap, .int .i64 r, .string ⟨xd.toArray⟩, .slice bo nr bap] 24))) := Hid.mk (HGA3.out.alloc HGA3.out.size _)
                    refine (CK3.out _ (x3.heap.size + 1) (HC.out _ HGK4.out).2.2.2.2 (get_at [(.cells #[.slice wa3 nw3 wc3, .slice fa3 nf3 fc3, .slice la3 nl3 lc3, .slice oa3 no3 oc3, .bool em3] 31), _] x3 1 (by simp))).mono ?_
                    rintro e x4 ⟨m4, rfl, hu, ha, hbx⟩
                    have HGX4 := Hid.mk (HGK4.out.trans (hbx.mono HGK4.out.size))
                    obtain ⟨wa4, wc4, fa4, fc4, la4, lc4, oa4, oc4, e1, e2, e3, e4⟩ := hu.slices
                    obtain ⟨f4, hf⟩ : ∃ f : List Wd → Bool, f = accB m4.au := ⟨_, rfl⟩
                    have HF4 := Hid.mk ha
                    rw [← hf] at HF4
                    have CA4 : Hid (∀ u x K, Below x4.heap.size x4 u → TxtS (fun _ => True) u x K → K.length ≤ 1000 → Calls Try.prog 16 #[encU m4, x] u fun e w' => e = .returned (.bool (f4 K)) ∧ Below u.heap.size u w') := Hid.mk (fun u x K hu2 hx hl => by rw [hf]; exact acc_any (hu.below hu2) hx (by omega))
                    obtain ⟨v4a, v4b, v4c, v4d, v4e, v4f, v4g, v4h, em4⟩ := m4
                    dsimp only at e1 e2 e3 e4 CA4
                    subst e1 e2 e3 e4
                    obtain ⟨nw4, hnw⟩ : ∃ n, n = v4b.length := ⟨_, rfl⟩
                    obtain ⟨nf4, hnf⟩ : ∃ n, n = v4d.length := ⟨_, rfl⟩
                    obtain ⟨nl4, hnl⟩ : ∃ n, n = v4f.length := ⟨_, rfl⟩
                    obtain ⟨no4, hno⟩ : ∃ n, n = v4h.length := ⟨_, rfl⟩
                    have CB4 : Hid (∀ u x K, Below x4.heap.size x4 u → TxtS (fun _ => True) u x K → K.length ≤ 1000 → Calls Try.prog 16 #[.agg #[.slice wa4 nw4 wc4, .slice fa4 nf4 fc4, .slice la4 nl4 lc4, .slice oa4 no4 oc4, .bool em4], x] u fun e w' => e = .returned (.bool (f4 K)) ∧ Below u.heap.size u w') := Hid.mk (by rw [hnw, hnf, hnl, hno]; exact CA4.out)
                    rw [← hnw, ← hnf, ← hnl, ← hno]
                    obtain ⟨O4, hO⟩ : ∃ O, O = Obj.cells #[.slice wa4 nw4 wc4, .slice fa4 nf4 fc4, .slice la4 nl4 lc4, .slice oa4 no4 oc4, .bool em4] 31 := ⟨_, rfl⟩
                    have HO4 := Hid.mk hO
                    have HGA4 : Hid (Below W0.heap.size W0 (x4.alloc (.cells #[.slice wa4 nw4 wc4, .slice fa4 nf4 fc4, .slice la4 nl4 lc4, .slice oa4 no4 oc4, .bool em4] 31))) := Hid.mk (HGX4.out.alloc HGX4.out.size _)
                    have KA4 : Hid (∀ u, Below (x4.alloc O4).heap.size (x4.alloc O4) u → Below x4.heap.size x4 u ∧ u.cell? ⟨x4.heap.size, 0, none⟩ = some (.slice wa4 nw4 wc4) ∧ u.cell? ⟨x4.heap.size, 1, none⟩ = some (.slice fa4 nf4 fc4) ∧ u.cell? ⟨x4.heap.size, 2, none⟩ = some (.slice la4 nl4 lc4) ∧ u.cell? ⟨x4.heap.size, 3, none⟩ = some (.slice oa4 no4 oc4) ∧ u.cell? ⟨x4.heap.size, 4, none⟩ = some (.bool em4)) := Hid.mk (fun u hu => by
                      have h := box_keptQ hu
                      rw [HO4.out] at h
                      exact ⟨below_boxQ hu, cells5 h⟩)
                    have HS4 : Hid (Below (x3.alloc O3).heap.size (x3.alloc O3) x4) := Hid.mk (by rw [HO3.out]; exact below_boxQ hbx)
                    clear hbx hu ha hf hnw hnf hnl hno hO CA4 c0 c1 c2 c3 c4 c5 lt0 lt1
                    have KZ : Hid (∀ u, Below (x4.alloc O4).heap.size (x4.alloc O4) u → Below (x1.alloc O1).heap.size (x1.alloc O1) u ∧ Below (x2.alloc O2).heap.size (x2.alloc O2) u ∧ Below (x3.alloc O3).heap.size (x3.alloc O3) u ∧ Below w.heap.size w u) := Hid.mk (fun u hu => by
                      have h3 : Below (x3.alloc O3).heap.size (x3.alloc O3) u := HS4.out.trans ((below_boxQ hu).mono HS4.out.size)
                      have h2 : Below (x2.alloc O2).heap.size (x2.alloc O2) u := HS3.out.trans ((below_boxQ h3).mono HS3.out.size)
                      have h1 : Below (x1.alloc O1).heap.size (x1.alloc O1) u := HS2.out.trans ((below_boxQ h2).mono HS2.out.size)
                      exact ⟨h1, h2, h3, (HC.out _ (HGX1.out.trans ((below_boxQ h1).mono HGX1.out.size))).2.2.2.2⟩)
                    have HZ0 : Hid (Below (x4.alloc O4).heap.size (x4.alloc O4) (x4.alloc (.cells #[.slice wa4 nw4 wc4, .slice fa4 nf4 fc4, .slice la4 nl4 lc4, .slice oa4 no4 oc4, .bool em4] 31))) := Hid.mk (by rw [HO4.out]; exact Below.refl _ _)
                    have HT3 : Hid (∀ K, f3 K = true ↔ ∃ i, i ≤ K.length ∧ f1 (K.take i) = true ∧ f2 (K.drop i) = true) := Hid.mk (fun K => by
                      rw [HF3.out, will_seq]
                      simp only [HF1.out, HF2.out])
                    have HT4 : Hid (∀ K, f4 K = (f1 K || f2 K)) := Hid.mk (fun K => bool_iff (by rw [HF4.out, Bool.or_eq_true, HF1.out, HF2.out, will_alt]))
                    have KV : Hid (∀ u, Below (x4.alloc O4).heap.size (x4.alloc O4) u → TxtS (fun _ => True) u (.slice va n vc) L) := Hid.mk (fun u hu => HV.out.below (KZ.out u hu).2.2.2)
                    have hL8 : L.length ≤ 8 := by rw [← HN.out]; exact hn8
                    obtain ⟨a, ha⟩ : ∃ a, a = f1 L := ⟨_, rfl⟩
                    obtain ⟨c, hc⟩ : ∃ a, a = f2 L := ⟨_, rfl⟩
                    obtain ⟨tl, htl⟩ : ∃ a, a = f3 L := ⟨_, rfl⟩
                    have q4 : f4 L = (a || c) := by rw [HT4.out, ha, hc]
                    have D1 : Hid (∀ u, Below (x4.alloc O4).heap.size (x4.alloc O4) u → Calls Try.prog 16 #[.agg #[.slice wa1 nw1 wc1, .slice fa1 nf1 fc1, .slice la1 nl1 lc1, .slice oa1 no1 oc1, .bool em1], .slice va n vc] u fun e w' => e = .returned (.bool a) ∧ Below u.heap.size u w') := Hid.mk (fun u hu => by rw [ha]; exact CB1.out u _ L (KA1.out u (KZ.out u hu).1).1 (KV.out u hu) (by omega))
                    have D2 : Hid (∀ u, Below (x4.alloc O4).heap.size (x4.alloc O4) u → Calls Try.prog 16 #[.agg #[.slice wa2 nw2 wc2, .slice fa2 nf2 fc2, .slice la2 nl2 lc2, .slice oa2 no2 oc2, .bool em2], .slice va n vc] u fun e w' => e = .returned (.bool c) ∧ Below u.heap.size u w') := Hid.mk (fun u hu => by rw [hc]; exact CB2.out u _ L (KA2.out u (KZ.out u hu).2.1).1 (KV.out u hu) (by omega))
                    have D3 : Hid (∀ u, Below (x4.alloc O4).heap.size (x4.alloc O4) u → Calls Try.prog 16 #[.agg #[.slice wa3 nw3 wc3, .slice fa3 nf3 fc3, .slice la3 nl3 lc3, .slice oa3 no3 oc3, .bool em3], .slice va n vc] u fun e w' => e = .returned (.bool tl) ∧ Below u.heap.size u w') := Hid.mk (fun u hu => by rw [htl]; exact CB3.out u _ L (KA3.out u (KZ.out u hu).2.2.1).1 (KV.out u hu) (by omega))
                    have D4 : Hid (∀ u, Below (x4.alloc O4).heap.size (x4.alloc O4) u → Calls Try.prog 16 #[.agg #[.slice wa4 nw4 wc4, .slice fa4 nf4 fc4, .slice la4 nl4 lc4, .slice oa4 no4 oc4, .bool em4], .slice va n vc] u fun e w' => e = .returned (.bool (a || c)) ∧ Below u.heap.size u w') := Hid.mk (fun u hu => by rw [← q4]; exact CB4.out u _ L (KA4.out u hu).1 (KV.out u hu) (by omega))
                    have HTL := Hid.mk htl
                    clear q4 ha hc htl hL8
                    go_wp2_with fail
                    go_loopw [15, 16] (fun s c wr => ∃ (i : Nat) (b : Bool), i ≤ n + 1 ∧ c = .int .i64 i ∧ s = .bool b ∧ (b = true ↔ ∃ j, j < i ∧ f1 (L.take j) = true ∧ f2 (L.drop j) = true) ∧ Below (x4.alloc O4).heap.size (x4.alloc O4) wr) (fun _ c _ => n + 1 - (intOf c).toNat)
                    case atStart => exact ⟨0, false, by omega, rfl, rfl, by simp, HZ0.out⟩
                    case round =>
                      obtain ⟨i, b, hin, rfl, rfl, hbi, hbq⟩ := hrel
                      have HBI := Hid.mk hbi
                      have HQ := Hid.mk hbq
                      clear hbi hbq
                      by_cases hlt : i ≤ n
                      · have hltI : (i : Int) ≤ (n : Int) := by omega
                        cases b with
                        | true =>
                          have HR : Hid (∃ b : Bool, b = true ∧ (b = true ↔ ∃ j, j < i + 1 ∧ f1 (L.take j) = true ∧ f2 (L.drop j) = true)) := Hid.mk ⟨true, rfl, fun _ => by
                            obtain ⟨j, h1, h2⟩ := HBI.out.1 (by trivial)
                            exact ⟨j, by omega, h2⟩, fun _ => rfl⟩
                          clear HBI
                          go_wp2_with fail
                          go_quiet (fail)
                          go_wp2
                          go_roundw
                          case rel =>
                            obtain ⟨b, rfl, hb⟩ := HR.out
                            exact ⟨i + 1, true, by omega, by go_num, rfl, hb, below_drewN HQ.out _⟩
                          case measure => simp [intOf]; omega
                        | false =>
                          have HTI : Hid (∀ u, Below (x4.alloc O4).heap.size (x4.alloc O4) u → TxtS (fun _ => True) u (.slice va i vc) (L.take i)) := Hid.mk (fun u hu => sl_take (KV.out u hu) (by rw [← HN.out]; omega))
                          have HDI : Hid (∀ u, Below (x4.alloc O4).heap.size (x4.alloc O4) u → TxtS (fun _ => True) u (.slice (if vc = i then va else Option.map (fun x => x.add i) va) (n - i) (vc - i)) (L.drop i)) := Hid.mk (fun u hu => cut_txts (KV.out u hu) HN.out (by omega) hvc)
                          obtain ⟨b1, hb1⟩ : ∃ b, b = f1 (L.take i) := ⟨_, rfl⟩
                          obtain ⟨b2, hb2⟩ : ∃ b, b = f2 (L.drop i) := ⟨_, rfl⟩
                          have HDW : Hid (Below (x4.alloc O4).heap.size (x4.alloc O4) wr.drew) := Hid.mk HQ.out.drew
                          have E1 : Hid (Calls Try.prog 16 #[.agg #[.slice wa1 nw1 wc1, .slice fa1 nf1 fc1, .slice la1 nl1 lc1, .slice oa1 no1 oc1, .bool em1], .slice va i vc] wr.drew fun e w' => e = .returned (.bool b1) ∧ Below wr.drew.heap.size wr.drew w') := Hid.mk (by rw [hb1]; exact CB1.out wr.drew _ (L.take i) (KA1.out _ (KZ.out _ HDW.out).1).1 (HTI.out _ HDW.out) (by rw [List.length_take]; omega))
                          have E3 : Hid (∀ u, Below (x4.alloc O4).heap.size (x4.alloc O4) u → Calls Try.prog 16 #[.agg #[.slice wa2 nw2 wc2, .slice fa2 nf2 fc2, .slice la2 nl2 lc2, .slice oa2 no2 oc2, .bool em2], .slice (if vc = i then va else Option.map (fun x => x.add i) va) (n - i) (vc - i)] u fun e w' => e = .returned (.bool b2) ∧ Below u.heap.size u w') := Hid.mk (fun u hu => by rw [hb2]; exact CB2.out u _ (L.drop i) (KA2.out _ (KZ.out _ hu).2.1).1 (HDI.out _ hu) (by rw [List.length_drop, ← HN.out]; omega))
                          have HR : Hid ((b1 && b2) = true ↔ ∃ j, j < i + 1 ∧ f1 (L.take j) = true ∧ f2 (L.drop j) = true) := Hid.mk (by
                            rw [Bool.and_eq_true, hb1, hb2]
                            constructor
                            · rintro ⟨h1, h2⟩
                              exact ⟨i, by omega, h1, h2⟩
                            · rintro ⟨j, g2, g3⟩
                              rcases Nat.lt_or_ge j i with h | h
                              · have := HBI.out.2 ⟨j, h, g3⟩
                                cases this
                              · have : j = i := by omega
                                subst this
                                exact g3)
                          have hiv : i ≤ vc := by omega
                          have hivI : (i : Int) ≤ (vc : Int) := by omega
                          have hnvI : (n : Int) ≤ (vc : Int) := by omega
                          obtain ⟨_, g0, g1, g2, g3, g4⟩ := KA1.out _ (KZ.out _ HQ.out).1
                          clear hb1 hb2 HBI HTI HDI
                          cases b1 with
                          | false =>
                            have HR3 : Hid (∃ b : Bool, b = false ∧ (b = true ↔ ∃ j, j < i + 1 ∧ f1 (L.take j) = true ∧ f2 (L.drop j) = true)) := Hid.mk ⟨false, rfl, by have h := HR.out; rw [Bool.false_and] at h; exact h⟩
                            clear HR
                            go_wp2_with fail
                            first | (go_region_law (go_simp; refine E1.out.mono ?_; rintro e w9 ⟨rfl, hb9⟩)) | fail
                            all_goals (
                              have HZ9 := Hid.mk (HDW.out.trans (hb9.mono HDW.out.size))
                              clear hb9
                              go_wp2
                              go_roundw
                              case rel =>
                                obtain ⟨b, rfl, hb⟩ := HR3.out
                                exact ⟨i + 1, false, by omega, by go_num, rfl, hb, HZ9.out⟩
                              case measure => simp [intOf]; omega)
                          | true =>
                            have HR3 : Hid (b2 = true ↔ ∃ j, j < i + 1 ∧ f1 (L.take j) = true ∧ f2 (L.drop j) = true) := Hid.mk (by have h := HR.out; rw [Bool.true_and] at h; exact h)
                            clear HR
                            have KS : Hid (∀ u, Below (x4.alloc O4).heap.size (x4.alloc O4) u → (u.cell? ⟨x1.heap.size, 0, none⟩ = some (.slice wa1 nw1 wc1) ∧ u.cell? ⟨x1.heap.size, 1, none⟩ = some (.slice fa1 nf1 fc1) ∧ u.cell? ⟨x1.heap.size, 2, none⟩ = some (.slice la1 nl1 lc1) ∧ u.cell? ⟨x1.heap.size, 3, none⟩ = some (.slice oa1 no1 oc1) ∧ u.cell? ⟨x1.heap.size, 4, none⟩ = some (.bool em1)) ∧ (u.cell? ⟨x2.heap.size, 0, none⟩ = some (.slice wa2 nw2 wc2) ∧ u.cell? ⟨x2.heap.size, 1, none⟩ = some (.slice fa2 nf2 fc2) ∧ u.cell? ⟨x2.heap.size, 2, none⟩ = some (.slice la2 nl2 lc2) ∧ u.cell? ⟨x2.heap.size, 3, none⟩ = some (.slice oa2 no2 oc2) ∧ u.cell? ⟨x2.heap.size, 4, none⟩ = some (.bool em2))) := Hid.mk (fun u hu => ⟨(KA1.out _ (KZ.out _ hu).1).2, (KA2.out _ (KZ.out _ hu).2.1).2⟩)
                            by_cases hvi : vc = i
                            · rw [if_pos hvi, show n - i = 0 by omega, show vc - i = 0 by omega] at E3
                              subst hvi
                              go_wp2_with fail
                              go_region_held3 (fun u => (u.cell? ⟨x1.heap.size, 0, none⟩ = some (.slice wa1 nw1 wc1) ∧ u.cell? ⟨x1.heap.size, 1, none⟩ = some (.slice fa1 nf1 fc1) ∧ u.cell? ⟨x1.heap.size, 2, none⟩ = some (.slice la1 nl1 lc1) ∧ u.cell? ⟨x1.heap.size, 3, none⟩ = some (.slice oa1 no1 oc1) ∧ u.cell? ⟨x1.heap.size, 4, none⟩ = some (.bool em1)) ∧ (u.cell? ⟨x2.heap.size, 0, none⟩ = some (.slice wa2 nw2 wc2) ∧ u.cell? ⟨x2.heap.size, 1, none⟩ = some (.slice fa2 nf2 fc2) ∧ u.cell? ⟨x2.heap.size, 2, none⟩ = some (.slice la2 nl2 lc2) ∧ u.cell? ⟨x2.heap.size, 3, none⟩ = some (.slice oa2 no2 oc2) ∧ u.cell? ⟨x2.heap.size, 4, none⟩ = some (.bool em2)))
                                (first | with_reducible exact KS.out _ HDW.out | with_reducible exact KS.out _ hz10 | with_reducible exact KS.out _ hz9)
                                (first
                                  | (go_at_call 16; with_reducible refine E1.out.mono ?_; rintro e w9 ⟨rfl, hb9⟩; have hz9 := HDW.out.trans (hb9.mono HDW.out.size))
                                  | (go_at_call 16; with_reducible refine (E3.out _ hz9).mono ?_; rintro e w10 ⟨rfl, hb10⟩; have hz10 := hz9.trans (hb10.mono hz9.size)))
                              all_goals (
                                have HZ10 := Hid.mk hz10
                                clear hb9 hz9 hb10 hz10
                                go_wp2
                                all_goals (
                                  go_roundw
                                  case rel => exact ⟨vc + 1, b2, by omega, by go_num, rfl, HR3.out, HZ10.out⟩
                                  case measure => simp [intOf]; omega))
                            · rw [if_neg hvi] at E3
                              go_wp2_with fail
                              go_region_held3 (fun u => (u.cell? ⟨x1.heap.size, 0, none⟩ = some (.slice wa1 nw1 wc1) ∧ u.cell? ⟨x1.heap.size, 1, none⟩ = some (.slice fa1 nf1 fc1) ∧ u.cell? ⟨x1.heap.size, 2, none⟩ = some (.slice la1 nl1 lc1) ∧ u.cell? ⟨x1.heap.size, 3, none⟩ = some (.slice oa1 no1 oc1) ∧ u.cell? ⟨x1.heap.size, 4, none⟩ = some (.bool em1)) ∧ (u.cell? ⟨x2.heap.size, 0, none⟩ = some (.slice wa2 nw2 wc2) ∧ u.cell? ⟨x2.heap.size, 1, none⟩ = some (.slice fa2 nf2 fc2) ∧ u.cell? ⟨x2.heap.size, 2, none⟩ = some (.slice la2 nl2 lc2) ∧ u.cell? ⟨x2.heap.size, 3, none⟩ = some (.slice oa2 no2 oc2) ∧ u.cell? ⟨x2.heap.size, 4, none⟩ = some (.bool em2)))
                                (first | with_reducible exact KS.out _ HDW.out | with_reducible exact KS.out _ hz10 | with_reducible exact KS.out _ hz9)
                                (first
                                  | (go_at_call 16; with_reducible refine E1.out.mono ?_; rintro e w9 ⟨rfl, hb9⟩; have hz9 := HDW.out.trans (hb9.mono HDW.out.size))
                                  | (go_at_call 16; with_reducible refine (E3.out _ hz9).mono ?_; rintro e w10 ⟨rfl, hb10⟩; have hz10 := hz9.trans (hb10.mono hz9.size)))
                              all_goals (
                                have HZ10 := Hid.mk hz10
                                clear hb9 hz9 hb10 hz10
                                go_wp2
                                all_goals (
                                  go_roundw
                                  case rel => exact ⟨i + 1, b2, by omega, by go_num, rfl, HR3.out, HZ10.out⟩
                                  case measure => simp [intOf]; omega))
                      · have hltI : ¬ (i : Int) ≤ (n : Int) := by omega
                        have hbt : b = tl := bool_iff (by
                          rw [HBI.out, HTL.out, HT3.out, ← HN.out]
                          constructor
                          · rintro ⟨j, h1, h2⟩
                            exact ⟨j, by omega, h2⟩
                          · rintro ⟨j, h1, h2⟩
                            exact ⟨j, by omega, h2⟩)
                        subst hbt
                        clear HBI
                        have hbb : (b == b) = true := by simp
                        have HDW : Hid (Below (x4.alloc O4).heap.size (x4.alloc O4) wr.drew) := Hid.mk HQ.out.drew
                        have KS : Hid (∀ u, Below (x4.alloc O4).heap.size (x4.alloc O4) u → (u.cell? ⟨x3.heap.size, 0, none⟩ = some (.slice wa3 nw3 wc3) ∧ u.cell? ⟨x3.heap.size, 1, none⟩ = some (.slice fa3 nf3 fc3) ∧ u.cell? ⟨x3.heap.size, 2, none⟩ = some (.slice la3 nl3 lc3) ∧ u.cell? ⟨x3.heap.size, 3, none⟩ = some (.slice oa3 no3 oc3) ∧ u.cell? ⟨x3.heap.size, 4, none⟩ = some (.bool em3)) ∧ (u.cell? ⟨x4.heap.size, 0, none⟩ = some (.slice wa4 nw4 wc4) ∧ u.cell? ⟨x4.heap.size, 1, none⟩ = some (.slice fa4 nf4 fc4) ∧ u.cell? ⟨x4.heap.size, 2, none⟩ = some (.slice la4 nl4 lc4) ∧ u.cell? ⟨x4.heap.size, 3, none⟩ = some (.slice oa4 no4 oc4) ∧ u.cell? ⟨x4.heap.size, 4, none⟩ = some (.bool em4)) ∧ (u.cell? ⟨x1.heap.size, 0, none⟩ = some (.slice wa1 nw1 wc1) ∧ u.cell? ⟨x1.heap.size, 1, none⟩ = some (.slice fa1 nf1 fc1) ∧ u.cell? ⟨x1.heap.size, 2, none⟩ = some (.slice la1 nl1 lc1) ∧ u.cell? ⟨x1.heap.size, 3, none⟩ = some (.slice oa1 no1 oc1) ∧ u.cell? ⟨x1.heap.size, 4, none⟩ = some (.bool em1)) ∧ (u.cell? ⟨x2.heap.size, 0, none⟩ = some (.slice wa2 nw2 wc2) ∧ u.cell? ⟨x2.heap.size, 1, none⟩ = some (.slice fa2 nf2 fc2) ∧ u.cell? ⟨x2.heap.size, 2, none⟩ = some (.slice la2 nl2 lc2) ∧ u.cell? ⟨x2.heap.size, 3, none⟩ = some (.slice oa2 no2 oc2) ∧ u.cell? ⟨x2.heap.size, 4, none⟩ = some (.bool em2))) := Hid.mk (fun u hu => ⟨(KA3.out _ (KZ.out _ hu).2.2.1).2, (KA4.out _ hu).2, (KA1.out _ (KZ.out _ hu).1).2, (KA2.out _ (KZ.out _ hu).2.1).2⟩)
                        cases a with
                        | false =>
                          rw [Bool.false_or] at D4
                          have hcc : (c == c) = true := by simp
                          go_wp2_with fail
                          go_region_held3 (fun u => (u.cell? ⟨x3.heap.size, 0, none⟩ = some (.slice wa3 nw3 wc3) ∧ u.cell? ⟨x3.heap.size, 1, none⟩ = some (.slice fa3 nf3 fc3) ∧ u.cell? ⟨x3.heap.size, 2, none⟩ = some (.slice la3 nl3 lc3) ∧ u.cell? ⟨x3.heap.size, 3, none⟩ = some (.slice oa3 no3 oc3) ∧ u.cell? ⟨x3.heap.size, 4, none⟩ = some (.bool em3)) ∧ (u.cell? ⟨x4.heap.size, 0, none⟩ = some (.slice wa4 nw4 wc4) ∧ u.cell? ⟨x4.heap.size, 1, none⟩ = some (.slice fa4 nf4 fc4) ∧ u.cell? ⟨x4.heap.size, 2, none⟩ = some (.slice la4 nl4 lc4) ∧ u.cell? ⟨x4.heap.size, 3, none⟩ = some (.slice oa4 no4 oc4) ∧ u.cell? ⟨x4.heap.size, 4, none⟩ = some (.bool em4)) ∧ (u.cell? ⟨x1.heap.size, 0, none⟩ = some (.slice wa1 nw1 wc1) ∧ u.cell? ⟨x1.heap.size, 1, none⟩ = some (.slice fa1 nf1 fc1) ∧ u.cell? ⟨x1.heap.size, 2, none⟩ = some (.slice la1 nl1 lc1) ∧ u.cell? ⟨x1.heap.size, 3, none⟩ = some (.slice oa1 no1 oc1) ∧ u.cell? ⟨x1.heap.size, 4, none⟩ = some (.bool em1)) ∧ (u.cell? ⟨x2.heap.size, 0, none⟩ = some (.slice wa2 nw2 wc2) ∧ u.cell? ⟨x2.heap.size, 1, none⟩ = some (.slice fa2 nf2 fc2) ∧ u.cell? ⟨x2.heap.size, 2, none⟩ = some (.slice la2 nl2 lc2) ∧ u.cell? ⟨x2.heap.size, 3, none⟩ = some (.slice oa2 no2 oc2) ∧ u.cell? ⟨x2.heap.size, 4, none⟩ = some (.bool em2)))
                            (first | with_reducible exact KS.out _ HDW.out | with_reducible exact KS.out _ z5 | with_reducible exact KS.out _ z4 | with_reducible exact KS.out _ z3 | with_reducible exact KS.out _ z2 | with_reducible exact KS.out _ z1)
                            (first
                              | (go_at_call 16; with_reducible refine (D3.out _ HDW.out).mono ?_; rintro e y1 ⟨rfl, g1⟩; have z1 := HDW.out.trans (g1.mono HDW.out.size))
                              | (go_at_call 16; with_reducible refine (D4.out _ z1).mono ?_; rintro e y2 ⟨rfl, g2⟩; have z2 := z1.trans (g2.mono z1.size))
                              | (go_at_call 16; with_reducible refine (D1.out _ z2).mono ?_; rintro e y3 ⟨rfl, g3⟩; have z3 := z2.trans (g3.mono z2.size))
                              | (go_at_call 16; with_reducible refine (D2.out _ z3).mono ?_; rintro e y4 ⟨rfl, g4⟩; have z4 := z3.trans (g4.mono z3.size))
                              | (go_at_call 10; refine (awake_any _).mono ?_; rintro e y5 ⟨rfl, g5⟩; have z5 := z4.trans (g5.mono z4.size)))
                          all_goals (
                            have Z5 := Hid.mk z5
                            clear g1 g2 g3 g4 g5 z1 z2 z3 z4 z5
                            go_wp2
                            go_ret
                            exact ⟨rfl, (KZ.out _ Z5.out).2.2.2⟩)
                        | true =>
                          rw [Bool.true_or] at D4
                          obtain ⟨⟨g0, g1, g2, g3, g4⟩, _⟩ := KS.out _ HQ.out
                          go_wp2_with fail
                          first | (go_region_law (first
                              | (go_simp; with_reducible refine (D3.out _ HDW.out).mono ?_; rintro e y1 ⟨rfl, j1⟩; have z1 := HDW.out.trans (j1.mono HDW.out.size); obtain ⟨_, ⟨p0, p1, p2, p3, p4⟩, ⟨p5, p6, p7, p8, p9⟩, _⟩ := KS.out _ z1)
                              | (go_simp; with_reducible refine (D4.out _ z1).mono ?_; rintro e y2 ⟨rfl, j2⟩; have z2 := z1.trans (j2.mono z1.size); obtain ⟨_, _, ⟨r0, r1, r2, r3, r4⟩, _⟩ := KS.out _ z2)
                              | (go_simp; with_reducible refine (D1.out _ z2).mono ?_; rintro e y3 ⟨rfl, j3⟩; have z3 := z2.trans (j3.mono z2.size))
                              | (go_simp; refine (awake_any _).mono ?_; rintro e y5 ⟨rfl, j5⟩; have z5 := z3.trans (j5.mono z3.size)))) | fail
                          all_goals (
                            have Z5 := Hid.mk z5
                            clear j1 j2 j3 j5 z1 z2 z3 z5
                            go_wp2
                            go_ret
                            exact ⟨rfl, (KZ.out _ Z5.out).2.2.2⟩)
end Go.Proofs.Ythdnpddfdlhlaaa
