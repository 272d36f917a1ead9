/- PathTurns: the main case, and the whole. (Written by a program.) -/
import Derived.Test.YthdnpddfdlhlaaaBTurnsM
import Derived.Test.YthdnpddfdlhlaaaBTurnsA
namespace Go.Proofs.Ythdnpddfdlhlaaa
open Go.RowKit Go.Shelf

set_option maxRecDepth 100000 in
set_option maxHeartbeats 16000000 in
theorem pathTurns_ex5 (t s : Vt) (v : Value) (L : List Wd) (w : World) (h : VOk (fun _ => True) w t) (h' : VOk (fun _ => True) w s) (hv : TxtS (fun _ => True) w v L) (hcap : L.length ≤ 9223372036854775807 ∧ CapS v L.length) (h1 : flatB t.pt = true) (h2 : flatB s.pt = true) (h3 : mayP t.pt = true) (h4 : mayP s.pt = true) (hx : 16 < leaves t.pt + leaves s.pt) :
    Calls Try.prog 8 #[encN t, encN s, v] w fun e w' => e = .returned (.bool true) ∧ Below w.heap.size w w' := by
  obtain ⟨hvl, va, vc, rfl, hvc⟩ := hcap
  have HV := Hid.mk hv
  obtain ⟨ao, cap, hvvp⟩ := h.parts.1.slice
  have hkl := h.parts.2.2.1
  obtain ⟨P, hP⟩ : ∃ P, P = t.pt := ⟨_, rfl⟩
  obtain ⟨b, hb⟩ : ∃ b, b = mayP P := ⟨_, rfl⟩
  obtain ⟨fp, hfp⟩ : ∃ b, b = flatB P := ⟨_, rfl⟩
  have CFp : Hid (∀ u, Below w.heap.size w u → Calls Try.prog 9 #[encN t] u fun e w' => e = .returned (.bool fp) ∧ Below u.heap.size u w') := Hid.mk (fun u hu => by rw [hfp, hP]; exact flatV_any (h.below hu))
  have CMp : Hid (∀ u, Below w.heap.size w u → Calls Try.prog 23 #[encN t] u fun e w' => e = .returned (.bool b) ∧ Below u.heap.size u w') := Hid.mk (fun u hu => by rw [hb, hP]; exact rMayPath_any (h.below hu))
  have HHp : Hid (b = true → high P ≤ 12) := Hid.mk (fun h1 => by rw [hb] at h1; exact may_high h1)
  have HEp : Hid (b = true → leaves P ≤ 24) := Hid.mk (fun h1 => by rw [hb] at h1; exact may_leaves h1)
  have CDp : Hid (b = true → ∀ u, Below w.heap.size w u → Calls Try.prog 25 #[encN t] u fun e w' => e = .returned (.int .i64 (high P : Int)) ∧ Below u.heap.size u w') := Hid.mk (fun h1 u hu => by
    rw [hP]
    refine rDeep_any t u ?_ (h.below hu)
    have := HHp.out h1
    rw [hP] at this
    omega)
  have CPp : Hid (b = true → ∀ u, Below w.heap.size w u → Calls Try.prog 24 #[encN t] u fun e w' => e = .returned (.int .i64 (leaves P : Int)) ∧ Below u.heap.size u w') := Hid.mk (fun h1 u hu => by
    rw [hP]
    refine rPlaces_any t u ?_ (h.below hu)
    have := HEp.out h1
    rw [hP] at this
    omega)
  have COp : Hid (b = true → ∀ u, Below w.heap.size w u → Calls Try.prog 11 #[encN t] u (OfE P u)) := Hid.mk (fun h1 u hu => by rw [hP]; exact of_may (h.below hu) (by rw [← hP, ← hb, h1]))
  obtain ⟨bo, bap, hvvq⟩ := h'.parts.1.slice
  have hkm := h'.parts.2.2.1
  obtain ⟨Q, hQ⟩ : ∃ P, P = s.pt := ⟨_, rfl⟩
  obtain ⟨d, hd⟩ : ∃ b, b = mayP Q := ⟨_, rfl⟩
  obtain ⟨fq, hfq⟩ : ∃ b, b = flatB Q := ⟨_, rfl⟩
  have CFq : Hid (∀ u, Below w.heap.size w u → Calls Try.prog 9 #[encN s] u fun e w' => e = .returned (.bool fq) ∧ Below u.heap.size u w') := Hid.mk (fun u hu => by rw [hfq, hQ]; exact flatV_any (h'.below hu))
  have CMq : Hid (∀ u, Below w.heap.size w u → Calls Try.prog 23 #[encN s] u fun e w' => e = .returned (.bool d) ∧ Below u.heap.size u w') := Hid.mk (fun u hu => by rw [hd, hQ]; exact rMayPath_any (h'.below hu))
  have HHq : Hid (d = true → high Q ≤ 12) := Hid.mk (fun h1 => by rw [hd] at h1; exact may_high h1)
  have HEq : Hid (d = true → leaves Q ≤ 24) := Hid.mk (fun h1 => by rw [hd] at h1; exact may_leaves h1)
  have CDq : Hid (d = true → ∀ u, Below w.heap.size w u → Calls Try.prog 25 #[encN s] u fun e w' => e = .returned (.int .i64 (high Q : Int)) ∧ Below u.heap.size u w') := Hid.mk (fun h1 u hu => by
    rw [hQ]
    refine rDeep_any s u ?_ (h'.below hu)
    have := HHq.out h1
    rw [hQ] at this
    omega)
  have CPq : Hid (d = true → ∀ u, Below w.heap.size w u → Calls Try.prog 24 #[encN s] u fun e w' => e = .returned (.int .i64 (leaves Q : Int)) ∧ Below u.heap.size u w') := Hid.mk (fun h1 u hu => by
    rw [hQ]
    refine rPlaces_any s u ?_ (h'.below hu)
    have := HEq.out h1
    rw [hQ] at this
    omega)
  have COq : Hid (d = true → ∀ u, Below w.heap.size w u → Calls Try.prog 11 #[encN s] u (OfE Q u)) := Hid.mk (fun h1 u hu => by rw [hQ]; exact of_may (h'.below hu) (by rw [← hQ, ← hd, h1]))
  have ep : fp = true := by rw [hfp, hP]; exact h1
  have eq : fq = true := by rw [hfq, hQ]; exact h2
  have eb : b = true := by rw [hb, hP]; exact h3
  have ed : d = true := by rw [hd, hQ]; exact h4
  have HXX : Hid (16 < leaves P + leaves Q) := Hid.mk (by rw [hP, hQ]; exact hx)
  clear hx h1 h2 h3 h4
  obtain ⟨k, wd, kv, l⟩ := t
  obtain ⟨r, xd, rv, l'⟩ := s
  dsimp only at hvvp hvvq hkl hkm
  subst hvvp hvvq
  obtain ⟨nk, hnk⟩ : ∃ n, n = l.length := ⟨_, rfl⟩
  obtain ⟨nr, hnr⟩ : ∃ n, n = l'.length := ⟨_, rfl⟩
  rw [← hnk] at CFp CMp COp CDp CPp hkl ⊢
  rw [← hnr] at CFq CMq COq CDq CPq hkm ⊢
  obtain ⟨n, hn⟩ : ∃ n, n = L.length := ⟨_, rfl⟩
  rw [← hn] at HV hvl hvc ⊢
  have HN := Hid.mk hn
  clear h h' hv hP hQ hb hd hn hnk hnr hfp hfq
  subst ep eq eb ed
  show Calls Try.prog _ #[.agg #[.int .i64 k, .string ⟨wd.toArray⟩, .slice ao nk cap], .agg #[.int .i64 r, .string ⟨xd.toArray⟩, .slice bo nr bap], _] w _
  obtain ⟨o, ho⟩ : ∃ o, o = Obj.cells #[.int .i64 k, .string ⟨wd.toArray⟩, .slice ao nk cap] 24 := ⟨_, rfl⟩
  obtain ⟨o', ho'⟩ : ∃ o, o = Obj.cells #[.int .i64 r, .string ⟨xd.toArray⟩, .slice bo nr bap] 24 := ⟨_, rfl⟩
  have HOB := Hid.mk ho
  have HOB' := Hid.mk ho'
  obtain ⟨W0, hW0⟩ : ∃ W, W = (w.alloc o).alloc o' := ⟨_, rfl⟩
  have HW0 := Hid.mk hW0
  have HC : Hid (∀ wr, Below W0.heap.size W0 wr → (wr.cell? ⟨w.heap.size, 0, none⟩ = some (.int .i64 k) ∧ wr.cell? ⟨w.heap.size, 1, none⟩ = some (.string ⟨wd.toArray⟩) ∧ wr.cell? ⟨w.heap.size, 2, none⟩ = some (.slice ao nk cap)) ∧ (wr.cell? ⟨w.heap.size + 1, 0, none⟩ = some (.int .i64 r) ∧ wr.cell? ⟨w.heap.size + 1, 1, none⟩ = some (.string ⟨xd.toArray⟩) ∧ wr.cell? ⟨w.heap.size + 1, 2, none⟩ = some (.slice bo nr bap)) ∧ w.heap.size < wr.heap.size ∧ w.heap.size + 1 < wr.heap.size ∧ Below w.heap.size w wr) := Hid.mk (fun wr hb => by
    rw [HW0.out] at hb
    obtain ⟨h1, h2⟩ := box2 hb
    rw [HOB.out] at h1
    rw [HOB'.out] at h2
    exact ⟨(three_cells h1).1, (three_cells h2).1, lt_of_block h1, lt_of_block h2, below_box2 hb⟩)
  have HB0 : Hid (Below W0.heap.size W0 ((w.alloc (.cells #[.int .i64 k, .string ⟨wd.toArray⟩, .slice ao nk cap] 24)).alloc (.cells #[.int .i64 r, .string ⟨xd.toArray⟩, .slice bo nr bap] 24))) := Hid.mk (by rw [HW0.out, HOB.out, HOB'.out]; exact Below.refl _ _)
  clear ho ho' hW0
  have HD0 : Hid (Below W0.heap.size W0 ((w.alloc (.cells #[.int .i64 k, .string ⟨wd.toArray⟩, .slice ao nk cap] 24)).alloc (.cells #[.int .i64 r, .string ⟨xd.toArray⟩, .slice bo nr bap] 24)).drew) := Hid.mk HB0.out.drew
  have KS : Hid (∀ u, Below W0.heap.size W0 u → (u.cell? ⟨w.heap.size, 0, none⟩ = some (.int .i64 k) ∧ u.cell? ⟨w.heap.size, 1, none⟩ = some (.string ⟨wd.toArray⟩) ∧ u.cell? ⟨w.heap.size, 2, none⟩ = some (.slice ao nk cap)) ∧ (u.cell? ⟨w.heap.size + 1, 0, none⟩ = some (.int .i64 r) ∧ u.cell? ⟨w.heap.size + 1, 1, none⟩ = some (.string ⟨xd.toArray⟩) ∧ u.cell? ⟨w.heap.size + 1, 2, none⟩ = some (.slice bo nr bap))) := Hid.mk (fun u hu => ⟨(HC.out u hu).1, (HC.out u hu).2.1⟩)
  have KB : Hid (∀ u, Below W0.heap.size W0 u → Below w.heap.size w u) := Hid.mk (fun u hu => (HC.out u hu).2.2.2.2)
  have CDp2 := Hid.mk (CDp.out rfl)
  have CPp2 := Hid.mk (CPp.out rfl)
  have COp2 := Hid.mk (COp.out rfl)
  have hhp := HHp.out rfl
  have hep := HEp.out rfl
  clear CDp CPp COp
  have CDq2 := Hid.mk (CDq.out rfl)
  have CPq2 := Hid.mk (CPq.out rfl)
  have COq2 := Hid.mk (COq.out rfl)
  have hhq := HHq.out rfl
  have heq := HEq.out rfl
  clear CDq CPq COq
  obtain ⟨lp, hlp⟩ : ∃ x, x = leaves P := ⟨_, rfl⟩
  obtain ⟨lq, hlq⟩ : ∃ x, x = leaves Q := ⟨_, rfl⟩
  obtain ⟨ip, hip⟩ : ∃ x, x = high P := ⟨_, rfl⟩
  obtain ⟨iq, hiq⟩ : ∃ x, x = high Q := ⟨_, rfl⟩
  rw [← hlp] at CPp2 hep
  rw [← hlq] at CPq2 heq
  rw [← hip] at CDp2 hhp
  rw [← hiq] at CDq2 hhq
  have HLP := Hid.mk hlp
  have HLQ := Hid.mk hlq
  have HIP := Hid.mk hip
  have HIQ := Hid.mk hiq
  clear hlp hlq hip hiq
  have hwr : IntKind.i64.wrap ((lp : Int) + (lq : Int)) = (lp : Int) + (lq : Int) := by rw [IntKind.wrap_i64]; omega
  have t5 : (16 : Int) < (lp : Int) + (lq : Int) := by have := HXX.out; have := HLP.out; have := HLQ.out; have := HIP.out; have := HIQ.out; have := HN.out; omega
  have t5b : decide ((16 : Int) < (lp : Int) + (lq : Int)) = true := decide_eq_true t5
  clear HXX
  go_enter Try.func8, Try.ntmps8
  go_wp2_with fail
  first | (go_region_law (first | (go_simp; with_reducible refine (CFp.out _ (KB.out _ HD0.out)).mono ?_; rintro e y1 ⟨rfl, j1⟩; have z1 := HD0.out.trans (j1.mono HD0.out.size); obtain ⟨⟨a10, a11, a12⟩, ⟨b10, b11, b12⟩⟩ := KS.out _ z1) | (go_simp; with_reducible refine (CFq.out _ (KB.out _ z1)).mono ?_; rintro e y2 ⟨rfl, j2⟩; have z2 := z1.trans (j2.mono z1.size); obtain ⟨⟨a20, a21, a22⟩, ⟨b20, b21, b22⟩⟩ := KS.out _ z2) | (go_simp; with_reducible refine (CMp.out _ (KB.out _ z2)).mono ?_; rintro e y3 ⟨rfl, j3⟩; have z3 := z2.trans (j3.mono z2.size); obtain ⟨⟨a30, a31, a32⟩, ⟨b30, b31, b32⟩⟩ := KS.out _ z3) | (go_simp; with_reducible refine (CMq.out _ (KB.out _ z3)).mono ?_; rintro e y4 ⟨rfl, j4⟩; have z4 := z3.trans (j4.mono z3.size); obtain ⟨⟨a40, a41, a42⟩, ⟨b40, b41, b42⟩⟩ := KS.out _ z4) | (go_simp; with_reducible refine (CPp2.out _ (KB.out _ z4)).mono ?_; rintro e y5 ⟨rfl, j5⟩; have z5 := z4.trans (j5.mono z4.size); obtain ⟨⟨a50, a51, a52⟩, ⟨b50, b51, b52⟩⟩ := KS.out _ z5) | (go_simp; with_reducible refine (CPq2.out _ (KB.out _ z5)).mono ?_; rintro e y6 ⟨rfl, j6⟩; have z6 := z5.trans (j6.mono z5.size); obtain ⟨⟨a60, a61, a62⟩, ⟨b60, b61, b62⟩⟩ := KS.out _ z6))) | fail
  all_goals (
    have ZN := Hid.mk z6
    go_wp2_with fail
    refine (awake_any _).mono ?_
    rintro e wz ⟨rfl, hbz⟩
    have HBZ := Hid.mk (ZN.out.trans (hbz.mono ZN.out.size))
    clear hbz
    go_wp2
    go_ret
    exact ⟨rfl, KB.out _ HBZ.out⟩)

set_option maxRecDepth 100000 in
set_option maxHeartbeats 16000000 in
theorem pathTurns_ex6 (t s : Vt) (v : Value) (L : List Wd) (w : World) (h : VOk (fun _ => True) w t) (h' : VOk (fun _ => True) w s) (hv : TxtS (fun _ => True) w v L) (hcap : L.length ≤ 9223372036854775807 ∧ CapS v L.length) (h1 : flatB t.pt = true) (h2 : flatB s.pt = true) (h3 : mayP t.pt = true) (h4 : mayP s.pt = true) (hx : leaves t.pt + leaves s.pt ≤ 16 ∧ 10 < high t.pt) :
    Calls Try.prog 8 #[encN t, encN s, v] w fun e w' => e = .returned (.bool true) ∧ Below w.heap.size w w' := by
  obtain ⟨hvl, va, vc, rfl, hvc⟩ := hcap
  have HV := Hid.mk hv
  obtain ⟨ao, cap, hvvp⟩ := h.parts.1.slice
  have hkl := h.parts.2.2.1
  obtain ⟨P, hP⟩ : ∃ P, P = t.pt := ⟨_, rfl⟩
  obtain ⟨b, hb⟩ : ∃ b, b = mayP P := ⟨_, rfl⟩
  obtain ⟨fp, hfp⟩ : ∃ b, b = flatB P := ⟨_, rfl⟩
  have CFp : Hid (∀ u, Below w.heap.size w u → Calls Try.prog 9 #[encN t] u fun e w' => e = .returned (.bool fp) ∧ Below u.heap.size u w') := Hid.mk (fun u hu => by rw [hfp, hP]; exact flatV_any (h.below hu))
  have CMp : Hid (∀ u, Below w.heap.size w u → Calls Try.prog 23 #[encN t] u fun e w' => e = .returned (.bool b) ∧ Below u.heap.size u w') := Hid.mk (fun u hu => by rw [hb, hP]; exact rMayPath_any (h.below hu))
  have HHp : Hid (b = true → high P ≤ 12) := Hid.mk (fun h1 => by rw [hb] at h1; exact may_high h1)
  have HEp : Hid (b = true → leaves P ≤ 24) := Hid.mk (fun h1 => by rw [hb] at h1; exact may_leaves h1)
  have CDp : Hid (b = true → ∀ u, Below w.heap.size w u → Calls Try.prog 25 #[encN t] u fun e w' => e = .returned (.int .i64 (high P : Int)) ∧ Below u.heap.size u w') := Hid.mk (fun h1 u hu => by
    rw [hP]
    refine rDeep_any t u ?_ (h.below hu)
    have := HHp.out h1
    rw [hP] at this
    omega)
  have CPp : Hid (b = true → ∀ u, Below w.heap.size w u → Calls Try.prog 24 #[encN t] u fun e w' => e = .returned (.int .i64 (leaves P : Int)) ∧ Below u.heap.size u w') := Hid.mk (fun h1 u hu => by
    rw [hP]
    refine rPlaces_any t u ?_ (h.below hu)
    have := HEp.out h1
    rw [hP] at this
    omega)
  have COp : Hid (b = true → ∀ u, Below w.heap.size w u → Calls Try.prog 11 #[encN t] u (OfE P u)) := Hid.mk (fun h1 u hu => by rw [hP]; exact of_may (h.below hu) (by rw [← hP, ← hb, h1]))
  obtain ⟨bo, bap, hvvq⟩ := h'.parts.1.slice
  have hkm := h'.parts.2.2.1
  obtain ⟨Q, hQ⟩ : ∃ P, P = s.pt := ⟨_, rfl⟩
  obtain ⟨d, hd⟩ : ∃ b, b = mayP Q := ⟨_, rfl⟩
  obtain ⟨fq, hfq⟩ : ∃ b, b = flatB Q := ⟨_, rfl⟩
  have CFq : Hid (∀ u, Below w.heap.size w u → Calls Try.prog 9 #[encN s] u fun e w' => e = .returned (.bool fq) ∧ Below u.heap.size u w') := Hid.mk (fun u hu => by rw [hfq, hQ]; exact flatV_any (h'.below hu))
  have CMq : Hid (∀ u, Below w.heap.size w u → Calls Try.prog 23 #[encN s] u fun e w' => e = .returned (.bool d) ∧ Below u.heap.size u w') := Hid.mk (fun u hu => by rw [hd, hQ]; exact rMayPath_any (h'.below hu))
  have HHq : Hid (d = true → high Q ≤ 12) := Hid.mk (fun h1 => by rw [hd] at h1; exact may_high h1)
  have HEq : Hid (d = true → leaves Q ≤ 24) := Hid.mk (fun h1 => by rw [hd] at h1; exact may_leaves h1)
  have CDq : Hid (d = true → ∀ u, Below w.heap.size w u → Calls Try.prog 25 #[encN s] u fun e w' => e = .returned (.int .i64 (high Q : Int)) ∧ Below u.heap.size u w') := Hid.mk (fun h1 u hu => by
    rw [hQ]
    refine rDeep_any s u ?_ (h'.below hu)
    have := HHq.out h1
    rw [hQ] at this
    omega)
  have CPq : Hid (d = true → ∀ u, Below w.heap.size w u → Calls Try.prog 24 #[encN s] u fun e w' => e = .returned (.int .i64 (leaves Q : Int)) ∧ Below u.heap.size u w') := Hid.mk (fun h1 u hu => by
    rw [hQ]
    refine rPlaces_any s u ?_ (h'.below hu)
    have := HEq.out h1
    rw [hQ] at this
    omega)
  have COq : Hid (d = true → ∀ u, Below w.heap.size w u → Calls Try.prog 11 #[encN s] u (OfE Q u)) := Hid.mk (fun h1 u hu => by rw [hQ]; exact of_may (h'.below hu) (by rw [← hQ, ← hd, h1]))
  have ep : fp = true := by rw [hfp, hP]; exact h1
  have eq : fq = true := by rw [hfq, hQ]; exact h2
  have eb : b = true := by rw [hb, hP]; exact h3
  have ed : d = true := by rw [hd, hQ]; exact h4
  have HXX : Hid (leaves P + leaves Q ≤ 16 ∧ 10 < high P) := Hid.mk (by rw [hP, hQ]; exact hx)
  clear hx h1 h2 h3 h4
  obtain ⟨k, wd, kv, l⟩ := t
  obtain ⟨r, xd, rv, l'⟩ := s
  dsimp only at hvvp hvvq hkl hkm
  subst hvvp hvvq
  obtain ⟨nk, hnk⟩ : ∃ n, n = l.length := ⟨_, rfl⟩
  obtain ⟨nr, hnr⟩ : ∃ n, n = l'.length := ⟨_, rfl⟩
  rw [← hnk] at CFp CMp COp CDp CPp hkl ⊢
  rw [← hnr] at CFq CMq COq CDq CPq hkm ⊢
  obtain ⟨n, hn⟩ : ∃ n, n = L.length := ⟨_, rfl⟩
  rw [← hn] at HV hvl hvc ⊢
  have HN := Hid.mk hn
  clear h h' hv hP hQ hb hd hn hnk hnr hfp hfq
  subst ep eq eb ed
  show Calls Try.prog _ #[.agg #[.int .i64 k, .string ⟨wd.toArray⟩, .slice ao nk cap], .agg #[.int .i64 r, .string ⟨xd.toArray⟩, .slice bo nr bap], _] w _
  obtain ⟨o, ho⟩ : ∃ o, o = Obj.cells #[.int .i64 k, .string ⟨wd.toArray⟩, .slice ao nk cap] 24 := ⟨_, rfl⟩
  obtain ⟨o', ho'⟩ : ∃ o, o = Obj.cells #[.int .i64 r, .string ⟨xd.toArray⟩, .slice bo nr bap] 24 := ⟨_, rfl⟩
  have HOB := Hid.mk ho
  have HOB' := Hid.mk ho'
  obtain ⟨W0, hW0⟩ : ∃ W, W = (w.alloc o).alloc o' := ⟨_, rfl⟩
  have HW0 := Hid.mk hW0
  have HC : Hid (∀ wr, Below W0.heap.size W0 wr → (wr.cell? ⟨w.heap.size, 0, none⟩ = some (.int .i64 k) ∧ wr.cell? ⟨w.heap.size, 1, none⟩ = some (.string ⟨wd.toArray⟩) ∧ wr.cell? ⟨w.heap.size, 2, none⟩ = some (.slice ao nk cap)) ∧ (wr.cell? ⟨w.heap.size + 1, 0, none⟩ = some (.int .i64 r) ∧ wr.cell? ⟨w.heap.size + 1, 1, none⟩ = some (.string ⟨xd.toArray⟩) ∧ wr.cell? ⟨w.heap.size + 1, 2, none⟩ = some (.slice bo nr bap)) ∧ w.heap.size < wr.heap.size ∧ w.heap.size + 1 < wr.heap.size ∧ Below w.heap.size w wr) := Hid.mk (fun wr hb => by
    rw [HW0.out] at hb
    obtain ⟨h1, h2⟩ := box2 hb
    rw [HOB.out] at h1
    rw [HOB'.out] at h2
    exact ⟨(three_cells h1).1, (three_cells h2).1, lt_of_block h1, lt_of_block h2, below_box2 hb⟩)
  have HB0 : Hid (Below W0.heap.size W0 ((w.alloc (.cells #[.int .i64 k, .string ⟨wd.toArray⟩, .slice ao nk cap] 24)).alloc (.cells #[.int .i64 r, .string ⟨xd.toArray⟩, .slice bo nr bap] 24))) := Hid.mk (by rw [HW0.out, HOB.out, HOB'.out]; exact Below.refl _ _)
  clear ho ho' hW0
  have HD0 : Hid (Below W0.heap.size W0 ((w.alloc (.cells #[.int .i64 k, .string ⟨wd.toArray⟩, .slice ao nk cap] 24)).alloc (.cells #[.int .i64 r, .string ⟨xd.toArray⟩, .slice bo nr bap] 24)).drew) := Hid.mk HB0.out.drew
  have KS : Hid (∀ u, Below W0.heap.size W0 u → (u.cell? ⟨w.heap.size, 0, none⟩ = some (.int .i64 k) ∧ u.cell? ⟨w.heap.size, 1, none⟩ = some (.string ⟨wd.toArray⟩) ∧ u.cell? ⟨w.heap.size, 2, none⟩ = some (.slice ao nk cap)) ∧ (u.cell? ⟨w.heap.size + 1, 0, none⟩ = some (.int .i64 r) ∧ u.cell? ⟨w.heap.size + 1, 1, none⟩ = some (.string ⟨xd.toArray⟩) ∧ u.cell? ⟨w.heap.size + 1, 2, none⟩ = some (.slice bo nr bap))) := Hid.mk (fun u hu => ⟨(HC.out u hu).1, (HC.out u hu).2.1⟩)
  have KB : Hid (∀ u, Below W0.heap.size W0 u → Below w.heap.size w u) := Hid.mk (fun u hu => (HC.out u hu).2.2.2.2)
  have CDp2 := Hid.mk (CDp.out rfl)
  have CPp2 := Hid.mk (CPp.out rfl)
  have COp2 := Hid.mk (COp.out rfl)
  have hhp := HHp.out rfl
  have hep := HEp.out rfl
  clear CDp CPp COp
  have CDq2 := Hid.mk (CDq.out rfl)
  have CPq2 := Hid.mk (CPq.out rfl)
  have COq2 := Hid.mk (COq.out rfl)
  have hhq := HHq.out rfl
  have heq := HEq.out rfl
  clear CDq CPq COq
  obtain ⟨lp, hlp⟩ : ∃ x, x = leaves P := ⟨_, rfl⟩
  obtain ⟨lq, hlq⟩ : ∃ x, x = leaves Q := ⟨_, rfl⟩
  obtain ⟨ip, hip⟩ : ∃ x, x = high P := ⟨_, rfl⟩
  obtain ⟨iq, hiq⟩ : ∃ x, x = high Q := ⟨_, rfl⟩
  rw [← hlp] at CPp2 hep
  rw [← hlq] at CPq2 heq
  rw [← hip] at CDp2 hhp
  rw [← hiq] at CDq2 hhq
  have HLP := Hid.mk hlp
  have HLQ := Hid.mk hlq
  have HIP := Hid.mk hip
  have HIQ := Hid.mk hiq
  clear hlp hlq hip hiq
  have hwr : IntKind.i64.wrap ((lp : Int) + (lq : Int)) = (lp : Int) + (lq : Int) := by rw [IntKind.wrap_i64]; omega
  have t5 : ¬ ((16 : Int) < (lp : Int) + (lq : Int)) := by have := HXX.out; have := HLP.out; have := HLQ.out; have := HIP.out; have := HIQ.out; have := HN.out; omega
  have t5b : decide ((16 : Int) < (lp : Int) + (lq : Int)) = false := decide_eq_false t5
  have t6 : (10 : Int) < (ip : Int) := by have := HXX.out; have := HLP.out; have := HLQ.out; have := HIP.out; have := HIQ.out; have := HN.out; omega
  have t6b : decide ((10 : Int) < (ip : Int)) = true := decide_eq_true t6
  clear HXX
  go_enter Try.func8, Try.ntmps8
  go_wp2_with fail
  first | (go_region_law (first | (go_simp; with_reducible refine (CFp.out _ (KB.out _ HD0.out)).mono ?_; rintro e y1 ⟨rfl, j1⟩; have z1 := HD0.out.trans (j1.mono HD0.out.size); obtain ⟨⟨a10, a11, a12⟩, ⟨b10, b11, b12⟩⟩ := KS.out _ z1) | (go_simp; with_reducible refine (CFq.out _ (KB.out _ z1)).mono ?_; rintro e y2 ⟨rfl, j2⟩; have z2 := z1.trans (j2.mono z1.size); obtain ⟨⟨a20, a21, a22⟩, ⟨b20, b21, b22⟩⟩ := KS.out _ z2) | (go_simp; with_reducible refine (CMp.out _ (KB.out _ z2)).mono ?_; rintro e y3 ⟨rfl, j3⟩; have z3 := z2.trans (j3.mono z2.size); obtain ⟨⟨a30, a31, a32⟩, ⟨b30, b31, b32⟩⟩ := KS.out _ z3) | (go_simp; with_reducible refine (CMq.out _ (KB.out _ z3)).mono ?_; rintro e y4 ⟨rfl, j4⟩; have z4 := z3.trans (j4.mono z3.size); obtain ⟨⟨a40, a41, a42⟩, ⟨b40, b41, b42⟩⟩ := KS.out _ z4) | (go_simp; with_reducible refine (CPp2.out _ (KB.out _ z4)).mono ?_; rintro e y5 ⟨rfl, j5⟩; have z5 := z4.trans (j5.mono z4.size); obtain ⟨⟨a50, a51, a52⟩, ⟨b50, b51, b52⟩⟩ := KS.out _ z5) | (go_simp; with_reducible refine (CPq2.out _ (KB.out _ z5)).mono ?_; rintro e y6 ⟨rfl, j6⟩; have z6 := z5.trans (j6.mono z5.size); obtain ⟨⟨a60, a61, a62⟩, ⟨b60, b61, b62⟩⟩ := KS.out _ z6) | (go_simp; with_reducible refine (CDp2.out _ (KB.out _ z6)).mono ?_; rintro e y7 ⟨rfl, j7⟩; have z7 := z6.trans (j7.mono z6.size); obtain ⟨⟨a70, a71, a72⟩, ⟨b70, b71, b72⟩⟩ := KS.out _ z7))) | fail
  all_goals (
    have ZN := Hid.mk z7
    go_wp2_with fail
    refine (awake_any _).mono ?_
    rintro e wz ⟨rfl, hbz⟩
    have HBZ := Hid.mk (ZN.out.trans (hbz.mono ZN.out.size))
    clear hbz
    go_wp2
    go_ret
    exact ⟨rfl, KB.out _ HBZ.out⟩)

set_option maxRecDepth 100000 in
set_option maxHeartbeats 16000000 in
theorem pathTurns_ex7 (t s : Vt) (v : Value) (L : List Wd) (w : World) (h : VOk (fun _ => True) w t) (h' : VOk (fun _ => True) w s) (hv : TxtS (fun _ => True) w v L) (hcap : L.length ≤ 9223372036854775807 ∧ CapS v L.length) (h1 : flatB t.pt = true) (h2 : flatB s.pt = true) (h3 : mayP t.pt = true) (h4 : mayP s.pt = true) (hx : leaves t.pt + leaves s.pt ≤ 16 ∧ high t.pt ≤ 10 ∧ 10 < high s.pt) :
    Calls Try.prog 8 #[encN t, encN s, v] w fun e w' => e = .returned (.bool true) ∧ Below w.heap.size w w' := by
  obtain ⟨hvl, va, vc, rfl, hvc⟩ := hcap
  have HV := Hid.mk hv
  obtain ⟨ao, cap, hvvp⟩ := h.parts.1.slice
  have hkl := h.parts.2.2.1
  obtain ⟨P, hP⟩ : ∃ P, P = t.pt := ⟨_, rfl⟩
  obtain ⟨b, hb⟩ : ∃ b, b = mayP P := ⟨_, rfl⟩
  obtain ⟨fp, hfp⟩ : ∃ b, b = flatB P := ⟨_, rfl⟩
  have CFp : Hid (∀ u, Below w.heap.size w u → Calls Try.prog 9 #[encN t] u fun e w' => e = .returned (.bool fp) ∧ Below u.heap.size u w') := Hid.mk (fun u hu => by rw [hfp, hP]; exact flatV_any (h.below hu))
  have CMp : Hid (∀ u, Below w.heap.size w u → Calls Try.prog 23 #[encN t] u fun e w' => e = .returned (.bool b) ∧ Below u.heap.size u w') := Hid.mk (fun u hu => by rw [hb, hP]; exact rMayPath_any (h.below hu))
  have HHp : Hid (b = true → high P ≤ 12) := Hid.mk (fun h1 => by rw [hb] at h1; exact may_high h1)
  have HEp : Hid (b = true → leaves P ≤ 24) := Hid.mk (fun h1 => by rw [hb] at h1; exact may_leaves h1)
  have CDp : Hid (b = true → ∀ u, Below w.heap.size w u → Calls Try.prog 25 #[encN t] u fun e w' => e = .returned (.int .i64 (high P : Int)) ∧ Below u.heap.size u w') := Hid.mk (fun h1 u hu => by
    rw [hP]
    refine rDeep_any t u ?_ (h.below hu)
    have := HHp.out h1
    rw [hP] at this
    omega)
  have CPp : Hid (b = true → ∀ u, Below w.heap.size w u → Calls Try.prog 24 #[encN t] u fun e w' => e = .returned (.int .i64 (leaves P : Int)) ∧ Below u.heap.size u w') := Hid.mk (fun h1 u hu => by
    rw [hP]
    refine rPlaces_any t u ?_ (h.below hu)
    have := HEp.out h1
    rw [hP] at this
    omega)
  have COp : Hid (b = true → ∀ u, Below w.heap.size w u → Calls Try.prog 11 #[encN t] u (OfE P u)) := Hid.mk (fun h1 u hu => by rw [hP]; exact of_may (h.below hu) (by rw [← hP, ← hb, h1]))
  obtain ⟨bo, bap, hvvq⟩ := h'.parts.1.slice
  have hkm := h'.parts.2.2.1
  obtain ⟨Q, hQ⟩ : ∃ P, P = s.pt := ⟨_, rfl⟩
  obtain ⟨d, hd⟩ : ∃ b, b = mayP Q := ⟨_, rfl⟩
  obtain ⟨fq, hfq⟩ : ∃ b, b = flatB Q := ⟨_, rfl⟩
  have CFq : Hid (∀ u, Below w.heap.size w u → Calls Try.prog 9 #[encN s] u fun e w' => e = .returned (.bool fq) ∧ Below u.heap.size u w') := Hid.mk (fun u hu => by rw [hfq, hQ]; exact flatV_any (h'.below hu))
  have CMq : Hid (∀ u, Below w.heap.size w u → Calls Try.prog 23 #[encN s] u fun e w' => e = .returned (.bool d) ∧ Below u.heap.size u w') := Hid.mk (fun u hu => by rw [hd, hQ]; exact rMayPath_any (h'.below hu))
  have HHq : Hid (d = true → high Q ≤ 12) := Hid.mk (fun h1 => by rw [hd] at h1; exact may_high h1)
  have HEq : Hid (d = true → leaves Q ≤ 24) := Hid.mk (fun h1 => by rw [hd] at h1; exact may_leaves h1)
  have CDq : Hid (d = true → ∀ u, Below w.heap.size w u → Calls Try.prog 25 #[encN s] u fun e w' => e = .returned (.int .i64 (high Q : Int)) ∧ Below u.heap.size u w') := Hid.mk (fun h1 u hu => by
    rw [hQ]
    refine rDeep_any s u ?_ (h'.below hu)
    have := HHq.out h1
    rw [hQ] at this
    omega)
  have CPq : Hid (d = true → ∀ u, Below w.heap.size w u → Calls Try.prog 24 #[encN s] u fun e w' => e = .returned (.int .i64 (leaves Q : Int)) ∧ Below u.heap.size u w') := Hid.mk (fun h1 u hu => by
    rw [hQ]
    refine rPlaces_any s u ?_ (h'.below hu)
    have := HEq.out h1
    rw [hQ] at this
    omega)
  have COq : Hid (d = true → ∀ u, Below w.heap.size w u → Calls Try.prog 11 #[encN s] u (OfE Q u)) := Hid.mk (fun h1 u hu => by rw [hQ]; exact of_may (h'.below hu) (by rw [← hQ, ← hd, h1]))
  have ep : fp = true := by rw [hfp, hP]; exact h1
  have eq : fq = true := by rw [hfq, hQ]; exact h2
  have eb : b = true := by rw [hb, hP]; exact h3
  have ed : d = true := by rw [hd, hQ]; exact h4
  have HXX : Hid (leaves P + leaves Q ≤ 16 ∧ high P ≤ 10 ∧ 10 < high Q) := Hid.mk (by rw [hP, hQ]; exact hx)
  clear hx h1 h2 h3 h4
  obtain ⟨k, wd, kv, l⟩ := t
  obtain ⟨r, xd, rv, l'⟩ := s
  dsimp only at hvvp hvvq hkl hkm
  subst hvvp hvvq
  obtain ⟨nk, hnk⟩ : ∃ n, n = l.length := ⟨_, rfl⟩
  obtain ⟨nr, hnr⟩ : ∃ n, n = l'.length := ⟨_, rfl⟩
  rw [← hnk] at CFp CMp COp CDp CPp hkl ⊢
  rw [← hnr] at CFq CMq COq CDq CPq hkm ⊢
  obtain ⟨n, hn⟩ : ∃ n, n = L.length := ⟨_, rfl⟩
  rw [← hn] at HV hvl hvc ⊢
  have HN := Hid.mk hn
  clear h h' hv hP hQ hb hd hn hnk hnr hfp hfq
  subst ep eq eb ed
  show Calls Try.prog _ #[.agg #[.int .i64 k, .string ⟨wd.toArray⟩, .slice ao nk cap], .agg #[.int .i64 r, .string ⟨xd.toArray⟩, .slice bo nr bap], _] w _
  obtain ⟨o, ho⟩ : ∃ o, o = Obj.cells #[.int .i64 k, .string ⟨wd.toArray⟩, .slice ao nk cap] 24 := ⟨_, rfl⟩
  obtain ⟨o', ho'⟩ : ∃ o, o = Obj.cells #[.int .i64 r, .string ⟨xd.toArray⟩, .slice bo nr bap] 24 := ⟨_, rfl⟩
  have HOB := Hid.mk ho
  have HOB' := Hid.mk ho'
  obtain ⟨W0, hW0⟩ : ∃ W, W = (w.alloc o).alloc o' := ⟨_, rfl⟩
  have HW0 := Hid.mk hW0
  have HC : Hid (∀ wr, Below W0.heap.size W0 wr → (wr.cell? ⟨w.heap.size, 0, none⟩ = some (.int .i64 k) ∧ wr.cell? ⟨w.heap.size, 1, none⟩ = some (.string ⟨wd.toArray⟩) ∧ wr.cell? ⟨w.heap.size, 2, none⟩ = some (.slice ao nk cap)) ∧ (wr.cell? ⟨w.heap.size + 1, 0, none⟩ = some (.int .i64 r) ∧ wr.cell? ⟨w.heap.size + 1, 1, none⟩ = some (.string ⟨xd.toArray⟩) ∧ wr.cell? ⟨w.heap.size + 1, 2, none⟩ = some (.slice bo nr bap)) ∧ w.heap.size < wr.heap.size ∧ w.heap.size + 1 < wr.heap.size ∧ Below w.heap.size w wr) := Hid.mk (fun wr hb => by
    rw [HW0.out] at hb
    obtain ⟨h1, h2⟩ := box2 hb
    rw [HOB.out] at h1
    rw [HOB'.out] at h2
    exact ⟨(three_cells h1).1, (three_cells h2).1, lt_of_block h1, lt_of_block h2, below_box2 hb⟩)
  have HB0 : Hid (Below W0.heap.size W0 ((w.alloc (.cells #[.int .i64 k, .string ⟨wd.toArray⟩, .slice ao nk cap] 24)).alloc (.cells #[.int .i64 r, .string ⟨xd.toArray⟩, .slice bo nr bap] 24))) := Hid.mk (by rw [HW0.out, HOB.out, HOB'.out]; exact Below.refl _ _)
  clear ho ho' hW0
  have HD0 : Hid (Below W0.heap.size W0 ((w.alloc (.cells #[.int .i64 k, .string ⟨wd.toArray⟩, .slice ao nk cap] 24)).alloc (.cells #[.int .i64 r, .string ⟨xd.toArray⟩, .slice bo nr bap] 24)).drew) := Hid.mk HB0.out.drew
  have KS : Hid (∀ u, Below W0.heap.size W0 u → (u.cell? ⟨w.heap.size, 0, none⟩ = some (.int .i64 k) ∧ u.cell? ⟨w.heap.size, 1, none⟩ = some (.string ⟨wd.toArray⟩) ∧ u.cell? ⟨w.heap.size, 2, none⟩ = some (.slice ao nk cap)) ∧ (u.cell? ⟨w.heap.size + 1, 0, none⟩ = some (.int .i64 r) ∧ u.cell? ⟨w.heap.size + 1, 1, none⟩ = some (.string ⟨xd.toArray⟩) ∧ u.cell? ⟨w.heap.size + 1, 2, none⟩ = some (.slice bo nr bap))) := Hid.mk (fun u hu => ⟨(HC.out u hu).1, (HC.out u hu).2.1⟩)
  have KB : Hid (∀ u, Below W0.heap.size W0 u → Below w.heap.size w u) := Hid.mk (fun u hu => (HC.out u hu).2.2.2.2)
  have CDp2 := Hid.mk (CDp.out rfl)
  have CPp2 := Hid.mk (CPp.out rfl)
  have COp2 := Hid.mk (COp.out rfl)
  have hhp := HHp.out rfl
  have hep := HEp.out rfl
  clear CDp CPp COp
  have CDq2 := Hid.mk (CDq.out rfl)
  have CPq2 := Hid.mk (CPq.out rfl)
  have COq2 := Hid.mk (COq.out rfl)
  have hhq := HHq.out rfl
  have heq := HEq.out rfl
  clear CDq CPq COq
  obtain ⟨lp, hlp⟩ : ∃ x, x = leaves P := ⟨_, rfl⟩
  obtain ⟨lq, hlq⟩ : ∃ x, x = leaves Q := ⟨_, rfl⟩
  obtain ⟨ip, hip⟩ : ∃ x, x = high P := ⟨_, rfl⟩
  obtain ⟨iq, hiq⟩ : ∃ x, x = high Q := ⟨_, rfl⟩
  rw [← hlp] at CPp2 hep
  rw [← hlq] at CPq2 heq
  rw [← hip] at CDp2 hhp
  rw [← hiq] at CDq2 hhq
  have HLP := Hid.mk hlp
  have HLQ := Hid.mk hlq
  have HIP := Hid.mk hip
  have HIQ := Hid.mk hiq
  clear hlp hlq hip hiq
  have hwr : IntKind.i64.wrap ((lp : Int) + (lq : Int)) = (lp : Int) + (lq : Int) := by rw [IntKind.wrap_i64]; omega
  have t5 : ¬ ((16 : Int) < (lp : Int) + (lq : Int)) := by have := HXX.out; have := HLP.out; have := HLQ.out; have := HIP.out; have := HIQ.out; have := HN.out; omega
  have t5b : decide ((16 : Int) < (lp : Int) + (lq : Int)) = false := decide_eq_false t5
  have t6 : ¬ ((10 : Int) < (ip : Int)) := by have := HXX.out; have := HLP.out; have := HLQ.out; have := HIP.out; have := HIQ.out; have := HN.out; omega
  have t6b : decide ((10 : Int) < (ip : Int)) = false := decide_eq_false t6
  have t7 : (10 : Int) < (iq : Int) := by have := HXX.out; have := HLP.out; have := HLQ.out; have := HIP.out; have := HIQ.out; have := HN.out; omega
  have t7b : decide ((10 : Int) < (iq : Int)) = true := decide_eq_true t7
  clear HXX
  go_enter Try.func8, Try.ntmps8
  go_wp2_with fail
  first | (go_region_law (first | (go_simp; with_reducible refine (CFp.out _ (KB.out _ HD0.out)).mono ?_; rintro e y1 ⟨rfl, j1⟩; have z1 := HD0.out.trans (j1.mono HD0.out.size); obtain ⟨⟨a10, a11, a12⟩, ⟨b10, b11, b12⟩⟩ := KS.out _ z1) | (go_simp; with_reducible refine (CFq.out _ (KB.out _ z1)).mono ?_; rintro e y2 ⟨rfl, j2⟩; have z2 := z1.trans (j2.mono z1.size); obtain ⟨⟨a20, a21, a22⟩, ⟨b20, b21, b22⟩⟩ := KS.out _ z2) | (go_simp; with_reducible refine (CMp.out _ (KB.out _ z2)).mono ?_; rintro e y3 ⟨rfl, j3⟩; have z3 := z2.trans (j3.mono z2.size); obtain ⟨⟨a30, a31, a32⟩, ⟨b30, b31, b32⟩⟩ := KS.out _ z3) | (go_simp; with_reducible refine (CMq.out _ (KB.out _ z3)).mono ?_; rintro e y4 ⟨rfl, j4⟩; have z4 := z3.trans (j4.mono z3.size); obtain ⟨⟨a40, a41, a42⟩, ⟨b40, b41, b42⟩⟩ := KS.out _ z4) | (go_simp; with_reducible refine (CPp2.out _ (KB.out _ z4)).mono ?_; rintro e y5 ⟨rfl, j5⟩; have z5 := z4.trans (j5.mono z4.size); obtain ⟨⟨a50, a51, a52⟩, ⟨b50, b51, b52⟩⟩ := KS.out _ z5) | (go_simp; with_reducible refine (CPq2.out _ (KB.out _ z5)).mono ?_; rintro e y6 ⟨rfl, j6⟩; have z6 := z5.trans (j6.mono z5.size); obtain ⟨⟨a60, a61, a62⟩, ⟨b60, b61, b62⟩⟩ := KS.out _ z6) | (go_simp; with_reducible refine (CDp2.out _ (KB.out _ z6)).mono ?_; rintro e y7 ⟨rfl, j7⟩; have z7 := z6.trans (j7.mono z6.size); obtain ⟨⟨a70, a71, a72⟩, ⟨b70, b71, b72⟩⟩ := KS.out _ z7) | (go_simp; with_reducible refine (CDq2.out _ (KB.out _ z7)).mono ?_; rintro e y8 ⟨rfl, j8⟩; have z8 := z7.trans (j8.mono z7.size); obtain ⟨⟨a80, a81, a82⟩, ⟨b80, b81, b82⟩⟩ := KS.out _ z8))) | fail
  all_goals (
    have ZN := Hid.mk z8
    go_wp2_with fail
    refine (awake_any _).mono ?_
    rintro e wz ⟨rfl, hbz⟩
    have HBZ := Hid.mk (ZN.out.trans (hbz.mono ZN.out.size))
    clear hbz
    go_wp2
    go_ret
    exact ⟨rfl, KB.out _ HBZ.out⟩)

set_option maxRecDepth 100000 in
set_option maxHeartbeats 16000000 in
theorem pathTurns_ex8 (t s : Vt) (v : Value) (L : List Wd) (w : World) (h : VOk (fun _ => True) w t) (h' : VOk (fun _ => True) w s) (hv : TxtS (fun _ => True) w v L) (hcap : L.length ≤ 9223372036854775807 ∧ CapS v L.length) (h1 : flatB t.pt = true) (h2 : flatB s.pt = true) (h3 : mayP t.pt = true) (h4 : mayP s.pt = true) (hx : leaves t.pt + leaves s.pt ≤ 16 ∧ high t.pt ≤ 10 ∧ high s.pt ≤ 10 ∧ 6 < L.length) :
    Calls Try.prog 8 #[encN t, encN s, v] w fun e w' => e = .returned (.bool true) ∧ Below w.heap.size w w' := by
  obtain ⟨hvl, va, vc, rfl, hvc⟩ := hcap
  have HV := Hid.mk hv
  obtain ⟨ao, cap, hvvp⟩ := h.parts.1.slice
  have hkl := h.parts.2.2.1
  obtain ⟨P, hP⟩ : ∃ P, P = t.pt := ⟨_, rfl⟩
  obtain ⟨b, hb⟩ : ∃ b, b = mayP P := ⟨_, rfl⟩
  obtain ⟨fp, hfp⟩ : ∃ b, b = flatB P := ⟨_, rfl⟩
  have CFp : Hid (∀ u, Below w.heap.size w u → Calls Try.prog 9 #[encN t] u fun e w' => e = .returned (.bool fp) ∧ Below u.heap.size u w') := Hid.mk (fun u hu => by rw [hfp, hP]; exact flatV_any (h.below hu))
  have CMp : Hid (∀ u, Below w.heap.size w u → Calls Try.prog 23 #[encN t] u fun e w' => e = .returned (.bool b) ∧ Below u.heap.size u w') := Hid.mk (fun u hu => by rw [hb, hP]; exact rMayPath_any (h.below hu))
  have HHp : Hid (b = true → high P ≤ 12) := Hid.mk (fun h1 => by rw [hb] at h1; exact may_high h1)
  have HEp : Hid (b = true → leaves P ≤ 24) := Hid.mk (fun h1 => by rw [hb] at h1; exact may_leaves h1)
  have CDp : Hid (b = true → ∀ u, Below w.heap.size w u → Calls Try.prog 25 #[encN t] u fun e w' => e = .returned (.int .i64 (high P : Int)) ∧ Below u.heap.size u w') := Hid.mk (fun h1 u hu => by
    rw [hP]
    refine rDeep_any t u ?_ (h.below hu)
    have := HHp.out h1
    rw [hP] at this
    omega)
  have CPp : Hid (b = true → ∀ u, Below w.heap.size w u → Calls Try.prog 24 #[encN t] u fun e w' => e = .returned (.int .i64 (leaves P : Int)) ∧ Below u.heap.size u w') := Hid.mk (fun h1 u hu => by
    rw [hP]
    refine rPlaces_any t u ?_ (h.below hu)
    have := HEp.out h1
    rw [hP] at this
    omega)
  have COp : Hid (b = true → ∀ u, Below w.heap.size w u → Calls Try.prog 11 #[encN t] u (OfE P u)) := Hid.mk (fun h1 u hu => by rw [hP]; exact of_may (h.below hu) (by rw [← hP, ← hb, h1]))
  obtain ⟨bo, bap, hvvq⟩ := h'.parts.1.slice
  have hkm := h'.parts.2.2.1
  obtain ⟨Q, hQ⟩ : ∃ P, P = s.pt := ⟨_, rfl⟩
  obtain ⟨d, hd⟩ : ∃ b, b = mayP Q := ⟨_, rfl⟩
  obtain ⟨fq, hfq⟩ : ∃ b, b = flatB Q := ⟨_, rfl⟩
  have CFq : Hid (∀ u, Below w.heap.size w u → Calls Try.prog 9 #[encN s] u fun e w' => e = .returned (.bool fq) ∧ Below u.heap.size u w') := Hid.mk (fun u hu => by rw [hfq, hQ]; exact flatV_any (h'.below hu))
  have CMq : Hid (∀ u, Below w.heap.size w u → Calls Try.prog 23 #[encN s] u fun e w' => e = .returned (.bool d) ∧ Below u.heap.size u w') := Hid.mk (fun u hu => by rw [hd, hQ]; exact rMayPath_any (h'.below hu))
  have HHq : Hid (d = true → high Q ≤ 12) := Hid.mk (fun h1 => by rw [hd] at h1; exact may_high h1)
  have HEq : Hid (d = true → leaves Q ≤ 24) := Hid.mk (fun h1 => by rw [hd] at h1; exact may_leaves h1)
  have CDq : Hid (d = true → ∀ u, Below w.heap.size w u → Calls Try.prog 25 #[encN s] u fun e w' => e = .returned (.int .i64 (high Q : Int)) ∧ Below u.heap.size u w') := Hid.mk (fun h1 u hu => by
    rw [hQ]
    refine rDeep_any s u ?_ (h'.below hu)
    have := HHq.out h1
    rw [hQ] at this
    omega)
  have CPq : Hid (d = true → ∀ u, Below w.heap.size w u → Calls Try.prog 24 #[encN s] u fun e w' => e = .returned (.int .i64 (leaves Q : Int)) ∧ Below u.heap.size u w') := Hid.mk (fun h1 u hu => by
    rw [hQ]
    refine rPlaces_any s u ?_ (h'.below hu)
    have := HEq.out h1
    rw [hQ] at this
    omega)
  have COq : Hid (d = true → ∀ u, Below w.heap.size w u → Calls Try.prog 11 #[encN s] u (OfE Q u)) := Hid.mk (fun h1 u hu => by rw [hQ]; exact of_may (h'.below hu) (by rw [← hQ, ← hd, h1]))
  have ep : fp = true := by rw [hfp, hP]; exact h1
  have eq : fq = true := by rw [hfq, hQ]; exact h2
  have eb : b = true := by rw [hb, hP]; exact h3
  have ed : d = true := by rw [hd, hQ]; exact h4
  have HXX : Hid (leaves P + leaves Q ≤ 16 ∧ high P ≤ 10 ∧ high Q ≤ 10 ∧ 6 < L.length) := Hid.mk (by rw [hP, hQ]; exact hx)
  clear hx h1 h2 h3 h4
  obtain ⟨k, wd, kv, l⟩ := t
  obtain ⟨r, xd, rv, l'⟩ := s
  dsimp only at hvvp hvvq hkl hkm
  subst hvvp hvvq
  obtain ⟨nk, hnk⟩ : ∃ n, n = l.length := ⟨_, rfl⟩
  obtain ⟨nr, hnr⟩ : ∃ n, n = l'.length := ⟨_, rfl⟩
  rw [← hnk] at CFp CMp COp CDp CPp hkl ⊢
  rw [← hnr] at CFq CMq COq CDq CPq hkm ⊢
  obtain ⟨n, hn⟩ : ∃ n, n = L.length := ⟨_, rfl⟩
  rw [← hn] at HV hvl hvc ⊢
  have HN := Hid.mk hn
  clear h h' hv hP hQ hb hd hn hnk hnr hfp hfq
  subst ep eq eb ed
  show Calls Try.prog _ #[.agg #[.int .i64 k, .string ⟨wd.toArray⟩, .slice ao nk cap], .agg #[.int .i64 r, .string ⟨xd.toArray⟩, .slice bo nr bap], _] w _
  obtain ⟨o, ho⟩ : ∃ o, o = Obj.cells #[.int .i64 k, .string ⟨wd.toArray⟩, .slice ao nk cap] 24 := ⟨_, rfl⟩
  obtain ⟨o', ho'⟩ : ∃ o, o = Obj.cells #[.int .i64 r, .string ⟨xd.toArray⟩, .slice bo nr bap] 24 := ⟨_, rfl⟩
  have HOB := Hid.mk ho
  have HOB' := Hid.mk ho'
  obtain ⟨W0, hW0⟩ : ∃ W, W = (w.alloc o).alloc o' := ⟨_, rfl⟩
  have HW0 := Hid.mk hW0
  have HC : Hid (∀ wr, Below W0.heap.size W0 wr → (wr.cell? ⟨w.heap.size, 0, none⟩ = some (.int .i64 k) ∧ wr.cell? ⟨w.heap.size, 1, none⟩ = some (.string ⟨wd.toArray⟩) ∧ wr.cell? ⟨w.heap.size, 2, none⟩ = some (.slice ao nk cap)) ∧ (wr.cell? ⟨w.heap.size + 1, 0, none⟩ = some (.int .i64 r) ∧ wr.cell? ⟨w.heap.size + 1, 1, none⟩ = some (.string ⟨xd.toArray⟩) ∧ wr.cell? ⟨w.heap.size + 1, 2, none⟩ = some (.slice bo nr bap)) ∧ w.heap.size < wr.heap.size ∧ w.heap.size + 1 < wr.heap.size ∧ Below w.heap.size w wr) := Hid.mk (fun wr hb => by
    rw [HW0.out] at hb
    obtain ⟨h1, h2⟩ := box2 hb
    rw [HOB.out] at h1
    rw [HOB'.out] at h2
    exact ⟨(three_cells h1).1, (three_cells h2).1, lt_of_block h1, lt_of_block h2, below_box2 hb⟩)
  have HB0 : Hid (Below W0.heap.size W0 ((w.alloc (.cells #[.int .i64 k, .string ⟨wd.toArray⟩, .slice ao nk cap] 24)).alloc (.cells #[.int .i64 r, .string ⟨xd.toArray⟩, .slice bo nr bap] 24))) := Hid.mk (by rw [HW0.out, HOB.out, HOB'.out]; exact Below.refl _ _)
  clear ho ho' hW0
  have HD0 : Hid (Below W0.heap.size W0 ((w.alloc (.cells #[.int .i64 k, .string ⟨wd.toArray⟩, .slice ao nk cap] 24)).alloc (.cells #[.int .i64 r, .string ⟨xd.toArray⟩, .slice bo nr bap] 24)).drew) := Hid.mk HB0.out.drew
  have KS : Hid (∀ u, Below W0.heap.size W0 u → (u.cell? ⟨w.heap.size, 0, none⟩ = some (.int .i64 k) ∧ u.cell? ⟨w.heap.size, 1, none⟩ = some (.string ⟨wd.toArray⟩) ∧ u.cell? ⟨w.heap.size, 2, none⟩ = some (.slice ao nk cap)) ∧ (u.cell? ⟨w.heap.size + 1, 0, none⟩ = some (.int .i64 r) ∧ u.cell? ⟨w.heap.size + 1, 1, none⟩ = some (.string ⟨xd.toArray⟩) ∧ u.cell? ⟨w.heap.size + 1, 2, none⟩ = some (.slice bo nr bap))) := Hid.mk (fun u hu => ⟨(HC.out u hu).1, (HC.out u hu).2.1⟩)
  have KB : Hid (∀ u, Below W0.heap.size W0 u → Below w.heap.size w u) := Hid.mk (fun u hu => (HC.out u hu).2.2.2.2)
  have CDp2 := Hid.mk (CDp.out rfl)
  have CPp2 := Hid.mk (CPp.out rfl)
  have COp2 := Hid.mk (COp.out rfl)
  have hhp := HHp.out rfl
  have hep := HEp.out rfl
  clear CDp CPp COp
  have CDq2 := Hid.mk (CDq.out rfl)
  have CPq2 := Hid.mk (CPq.out rfl)
  have COq2 := Hid.mk (COq.out rfl)
  have hhq := HHq.out rfl
  have heq := HEq.out rfl
  clear CDq CPq COq
  obtain ⟨lp, hlp⟩ : ∃ x, x = leaves P := ⟨_, rfl⟩
  obtain ⟨lq, hlq⟩ : ∃ x, x = leaves Q := ⟨_, rfl⟩
  obtain ⟨ip, hip⟩ : ∃ x, x = high P := ⟨_, rfl⟩
  obtain ⟨iq, hiq⟩ : ∃ x, x = high Q := ⟨_, rfl⟩
  rw [← hlp] at CPp2 hep
  rw [← hlq] at CPq2 heq
  rw [← hip] at CDp2 hhp
  rw [← hiq] at CDq2 hhq
  have HLP := Hid.mk hlp
  have HLQ := Hid.mk hlq
  have HIP := Hid.mk hip
  have HIQ := Hid.mk hiq
  clear hlp hlq hip hiq
  have hwr : IntKind.i64.wrap ((lp : Int) + (lq : Int)) = (lp : Int) + (lq : Int) := by rw [IntKind.wrap_i64]; omega
  have t5 : ¬ ((16 : Int) < (lp : Int) + (lq : Int)) := by have := HXX.out; have := HLP.out; have := HLQ.out; have := HIP.out; have := HIQ.out; have := HN.out; omega
  have t5b : decide ((16 : Int) < (lp : Int) + (lq : Int)) = false := decide_eq_false t5
  have t6 : ¬ ((10 : Int) < (ip : Int)) := by have := HXX.out; have := HLP.out; have := HLQ.out; have := HIP.out; have := HIQ.out; have := HN.out; omega
  have t6b : decide ((10 : Int) < (ip : Int)) = false := decide_eq_false t6
  have t7 : ¬ ((10 : Int) < (iq : Int)) := by have := HXX.out; have := HLP.out; have := HLQ.out; have := HIP.out; have := HIQ.out; have := HN.out; omega
  have t7b : decide ((10 : Int) < (iq : Int)) = false := decide_eq_false t7
  have t8 : (6 : Int) < (n : Int) := by have := HXX.out; have := HLP.out; have := HLQ.out; have := HIP.out; have := HIQ.out; have := HN.out; omega
  have t8b : decide ((6 : Int) < (n : Int)) = true := decide_eq_true t8
  clear HXX
  go_enter Try.func8, Try.ntmps8
  go_wp2_with fail
  go_region_held3 (fun u => (u.cell? ⟨w.heap.size, 0, none⟩ = some (.int .i64 k) ∧ u.cell? ⟨w.heap.size, 1, none⟩ = some (.string ⟨wd.toArray⟩) ∧ u.cell? ⟨w.heap.size, 2, none⟩ = some (.slice ao nk cap)) ∧ (u.cell? ⟨w.heap.size + 1, 0, none⟩ = some (.int .i64 r) ∧ u.cell? ⟨w.heap.size + 1, 1, none⟩ = some (.string ⟨xd.toArray⟩) ∧ u.cell? ⟨w.heap.size + 1, 2, none⟩ = some (.slice bo nr bap)))
    (first | with_reducible exact KS.out _ HD0.out | with_reducible exact KS.out _ z8 | with_reducible exact KS.out _ z7 | with_reducible exact KS.out _ z6 | with_reducible exact KS.out _ z5 | with_reducible exact KS.out _ z4 | with_reducible exact KS.out _ z3 | with_reducible exact KS.out _ z2 | with_reducible exact KS.out _ z1)
    (first
      | (go_at_call 9; with_reducible refine (CFp.out _ (KB.out _ HD0.out)).mono ?_; rintro e y1 ⟨rfl, j1⟩; have z1 := HD0.out.trans (j1.mono HD0.out.size))
      | (go_at_call 9; with_reducible refine (CFq.out _ (KB.out _ z1)).mono ?_; rintro e y2 ⟨rfl, j2⟩; have z2 := z1.trans (j2.mono z1.size))
      | (go_at_call 23; with_reducible refine (CMp.out _ (KB.out _ z2)).mono ?_; rintro e y3 ⟨rfl, j3⟩; have z3 := z2.trans (j3.mono z2.size))
      | (go_at_call 23; with_reducible refine (CMq.out _ (KB.out _ z3)).mono ?_; rintro e y4 ⟨rfl, j4⟩; have z4 := z3.trans (j4.mono z3.size))
      | (go_at_call 24; with_reducible refine (CPp2.out _ (KB.out _ z4)).mono ?_; rintro e y5 ⟨rfl, j5⟩; have z5 := z4.trans (j5.mono z4.size))
      | (go_at_call 24; with_reducible refine (CPq2.out _ (KB.out _ z5)).mono ?_; rintro e y6 ⟨rfl, j6⟩; have z6 := z5.trans (j6.mono z5.size))
      | (go_at_call 25; with_reducible refine (CDp2.out _ (KB.out _ z6)).mono ?_; rintro e y7 ⟨rfl, j7⟩; have z7 := z6.trans (j7.mono z6.size))
      | (go_at_call 25; with_reducible refine (CDq2.out _ (KB.out _ z7)).mono ?_; rintro e y8 ⟨rfl, j8⟩; have z8 := z7.trans (j8.mono z7.size)))
  all_goals (
    have ZN := Hid.mk z8
    go_wp2_with fail
    refine (awake_any _).mono ?_
    rintro e wz ⟨rfl, hbz⟩
    have HBZ := Hid.mk (ZN.out.trans (hbz.mono ZN.out.size))
    clear hbz
    go_wp2
    go_ret
    exact ⟨rfl, KB.out _ HBZ.out⟩)

theorem pathTurns_walk (t s : Vt) (v : Value) (L : List Wd) (w : World) (h : VOk (fun _ => True) w t) (h' : VOk (fun _ => True) w s) (hv : TxtS (fun _ => True) w v L) (hcap : L.length ≤ 9223372036854775807 ∧ CapS v L.length) :
    Calls Try.prog 8 #[encN t, encN s, v] w fun e w' => e = .returned (.bool true) ∧ Below w.heap.size w w' := by
  by_cases hA : flatB t.pt = true ∧ flatB s.pt = true ∧ mayP t.pt = true ∧ mayP s.pt = true
  · by_cases hB : leaves t.pt + leaves s.pt ≤ 16 ∧ high t.pt ≤ 10 ∧ high s.pt ≤ 10 ∧ L.length ≤ 6
    · exact pathTurns_main t s v L w h h' hv hcap hA.1 hA.2.1 hA.2.2.1 hA.2.2.2 hB
    · by_cases h5 : leaves t.pt + leaves s.pt ≤ 16
      · by_cases h6 : high t.pt ≤ 10
        · by_cases h7 : high s.pt ≤ 10
          · exact pathTurns_ex8 t s v L w h h' hv hcap hA.1 hA.2.1 hA.2.2.1 hA.2.2.2 ⟨h5, h6, h7, by omega⟩
          · exact pathTurns_ex7 t s v L w h h' hv hcap hA.1 hA.2.1 hA.2.2.1 hA.2.2.2 ⟨h5, h6, by omega⟩
        · exact pathTurns_ex6 t s v L w h h' hv hcap hA.1 hA.2.1 hA.2.2.1 hA.2.2.2 ⟨h5, by omega⟩
      · exact pathTurns_ex5 t s v L w h h' hv hcap hA.1 hA.2.1 hA.2.2.1 hA.2.2.2 (by omega)
  · exact pathTurns_exA t s v L w h h' hv hcap hA
end Go.Proofs.Ythdnpddfdlhlaaa
