/- PathTurns: the main case. (Written by a program.) -/
import Derived.Test.YthdnpddfdlhlaaaBLaw
import Derived.Test.YthdnpddfdlhlaaaBCount
import Derived.Test.YthdnpddfdlhlaaaQOpen
namespace Go.Proofs.Ythdnpddfdlhlaaa
open Go.RowKit Go.Shelf

theorem shaped_kids {k : Int} {l : List Pt} {d : Nat} (hk : k = 2 ∨ k = 3) (h2 : 2 ≤ l.length) (h24 : l.length ≤ 24) (h : ∀ x ∈ l, shapedP d x = true) : shapedP (d + 1) ⟨k, [], l⟩ = true := by
  rw [shapedP, Bool.and_eq_true, Bool.and_eq_true, List.all_eq_true, decide_eq_true_eq]
  refine ⟨⟨?_, h24⟩, h⟩
  rcases hk with rfl | rfl <;> simp [formedP, h2]
theorem may_kids {k : Int} {l : List Pt} (hk : k = 2 ∨ k = 3) (h2 : 2 ≤ l.length) (h24 : l.length ≤ 24) (h : ∀ x ∈ l, shapedP 11 x = true) (hl : (l.map leaves).sum ≤ 24) : mayP ⟨k, [], l⟩ = true := by
  rw [mayP, shaped_kids hk h2 h24 h, leaves_mk, if_neg (by omega), Bool.true_and, decide_eq_true_eq]
  exact hl
set_option maxRecDepth 100000 in
set_option maxHeartbeats 16000000 in
theorem pathTurns_main (t s : Vt) (v : Value) (L : List Wd) (w : World) (h : VOk (fun _ => True) w t) (h' : VOk (fun _ => True) w s) (hv : TxtS (fun _ => True) w v L) (hcap : L.length ≤ 9223372036854775807 ∧ CapS v L.length) (h1 : flatB t.pt = true) (h2 : flatB s.pt = true) (h3 : mayP t.pt = true) (h4 : mayP s.pt = true) (hx : leaves t.pt + leaves s.pt ≤ 16 ∧ high t.pt ≤ 10 ∧ high s.pt ≤ 10 ∧ L.length ≤ 6) :
    Calls Try.prog 8 #[encN t, encN s, v] w fun e w' => e = .returned (.bool true) ∧ Below w.heap.size w w' := by
  obtain ⟨hvl, va, vc, rfl, hvc⟩ := hcap
  have HV := Hid.mk hv
  obtain ⟨ao, cap, hvvp⟩ := h.parts.1.slice
  have hkl := h.parts.2.2.1
  obtain ⟨P, hP⟩ : ∃ P, P = t.pt := ⟨_, rfl⟩
  obtain ⟨b, hb⟩ : ∃ b, b = mayP P := ⟨_, rfl⟩
  obtain ⟨fp, hfp⟩ : ∃ b, b = flatB P := ⟨_, rfl⟩
  have CFp : Hid (∀ u, Below w.heap.size w u → Calls Try.prog 9 #[encN t] u fun e w' => e = .returned (.bool fp) ∧ Below u.heap.size u w') := Hid.mk (fun u hu => by rw [hfp, hP]; exact flatV_any (h.below hu))
  have CMp : Hid (∀ u, Below w.heap.size w u → Calls Try.prog 23 #[encN t] u fun e w' => e = .returned (.bool b) ∧ Below u.heap.size u w') := Hid.mk (fun u hu => by rw [hb, hP]; exact rMayPath_any (h.below hu))
  have HHp : Hid (b = true → high P ≤ 12) := Hid.mk (fun h1 => by rw [hb] at h1; exact may_high h1)
  have HEp : Hid (b = true → leaves P ≤ 24) := Hid.mk (fun h1 => by rw [hb] at h1; exact may_leaves h1)
  have CDp : Hid (b = true → ∀ u, Below w.heap.size w u → Calls Try.prog 25 #[encN t] u fun e w' => e = .returned (.int .i64 (high P : Int)) ∧ Below u.heap.size u w') := Hid.mk (fun h1 u hu => by
    rw [hP]
    refine rDeep_any t u ?_ (h.below hu)
    have := HHp.out h1
    rw [hP] at this
    omega)
  have CPp : Hid (b = true → ∀ u, Below w.heap.size w u → Calls Try.prog 24 #[encN t] u fun e w' => e = .returned (.int .i64 (leaves P : Int)) ∧ Below u.heap.size u w') := Hid.mk (fun h1 u hu => by
    rw [hP]
    refine rPlaces_any t u ?_ (h.below hu)
    have := HEp.out h1
    rw [hP] at this
    omega)
  have COp : Hid (b = true → ∀ u, Below w.heap.size w u → Calls Try.prog 11 #[encN t] u (OfE P u)) := Hid.mk (fun h1 u hu => by rw [hP]; exact of_may (h.below hu) (by rw [← hP, ← hb, h1]))
  obtain ⟨bo, bap, hvvq⟩ := h'.parts.1.slice
  have hkm := h'.parts.2.2.1
  obtain ⟨Q, hQ⟩ : ∃ P, P = s.pt := ⟨_, rfl⟩
  obtain ⟨d, hd⟩ : ∃ b, b = mayP Q := ⟨_, rfl⟩
  obtain ⟨fq, hfq⟩ : ∃ b, b = flatB Q := ⟨_, rfl⟩
  have CFq : Hid (∀ u, Below w.heap.size w u → Calls Try.prog 9 #[encN s] u fun e w' => e = .returned (.bool fq) ∧ Below u.heap.size u w') := Hid.mk (fun u hu => by rw [hfq, hQ]; exact flatV_any (h'.below hu))
  have CMq : Hid (∀ u, Below w.heap.size w u → Calls Try.prog 23 #[encN s] u fun e w' => e = .returned (.bool d) ∧ Below u.heap.size u w') := Hid.mk (fun u hu => by rw [hd, hQ]; exact rMayPath_any (h'.below hu))
  have HHq : Hid (d = true → high Q ≤ 12) := Hid.mk (fun h1 => by rw [hd] at h1; exact may_high h1)
  have HEq : Hid (d = true → leaves Q ≤ 24) := Hid.mk (fun h1 => by rw [hd] at h1; exact may_leaves h1)
  have CDq : Hid (d = true → ∀ u, Below w.heap.size w u → Calls Try.prog 25 #[encN s] u fun e w' => e = .returned (.int .i64 (high Q : Int)) ∧ Below u.heap.size u w') := Hid.mk (fun h1 u hu => by
    rw [hQ]
    refine rDeep_any s u ?_ (h'.below hu)
    have := HHq.out h1
    rw [hQ] at this
    omega)
  have CPq : Hid (d = true → ∀ u, Below w.heap.size w u → Calls Try.prog 24 #[encN s] u fun e w' => e = .returned (.int .i64 (leaves Q : Int)) ∧ Below u.heap.size u w') := Hid.mk (fun h1 u hu => by
    rw [hQ]
    refine rPlaces_any s u ?_ (h'.below hu)
    have := HEq.out h1
    rw [hQ] at this
    omega)
  have COq : Hid (d = true → ∀ u, Below w.heap.size w u → Calls Try.prog 11 #[encN s] u (OfE Q u)) := Hid.mk (fun h1 u hu => by rw [hQ]; exact of_may (h'.below hu) (by rw [← hQ, ← hd, h1]))
  have ep : fp = true := by rw [hfp, hP]; exact h1
  have eq : fq = true := by rw [hfq, hQ]; exact h2
  have eb : b = true := by rw [hb, hP]; exact h3
  have ed : d = true := by rw [hd, hQ]; exact h4
  have hsp : shapedP 12 P = true := by rw [hP]; have := h3; simp only [mayP, Bool.and_eq_true] at this; exact this.1
  have hsq : shapedP 12 Q = true := by rw [hQ]; have := h4; simp only [mayP, Bool.and_eq_true] at this; exact this.1
  have hp10 : shapedP 10 P = true := shaped_high 10 12 P hsp (by rw [hP]; exact hx.2.1)
  have hq10 : shapedP 10 Q = true := shaped_high 10 12 Q hsq (by rw [hQ]; exact hx.2.2.1)
  have hp11 : shapedP 11 P = true := shaped_high 11 12 P hsp (by rw [hP]; have := hx.2.1; omega)
  have hq11 : shapedP 11 Q = true := shaped_high 11 12 Q hsq (by rw [hQ]; have := hx.2.2.1; omega)
  have hlpq : leaves P + leaves Q ≤ 16 := by rw [hP, hQ]; exact hx.1
  have hw10 : shapedP 10 ⟨1, [112], []⟩ = true := by decide +kernel
  have hw11 : shapedP 11 ⟨1, [112], []⟩ = true := by decide +kernel
  have hlw : leaves ⟨1, [112], []⟩ = 1 := by rw [leaves_mk, if_pos rfl]
  have CKT : Hid (∀ k : Int, k = 2 ∨ k = 3 → ∀ u g, Below w.heap.size w u → u.heap[g]? = some (.cells #[.int .i64 t.kind, .string ⟨t.word.toArray⟩, t.val, .int .i64 s.kind, .string ⟨s.word.toArray⟩, s.val, .int .i64 1, .string ⟨#[112]⟩, .slice none 0 0] 24 (0, 0)) → Calls Try.prog 11 #[.agg #[.int .i64 k, .string ⟨#[]⟩, .slice (some ⟨g, 0, none⟩) 3 3]] u (OfE ⟨k, [], [P, Q, ⟨1, [112], []⟩]⟩ u)) := Hid.mk (fun k hk u g hu hg => by
    have hv : VOk (fun _ => True) u ⟨k, [], .slice (some ⟨g, 0, none⟩) 3 3, [t, s, vtW [112]]⟩ := vok_mk.2 ⟨sl_lit csN_len hg (by rfl) (by rfl), by simp, by simp, fun x hx => by
      simp at hx
      rcases hx with rfl | rfl | rfl
      · exact h.below hu
      · exact h'.below hu
      · exact vok_word _ _ (by simp)⟩
    have hp : Vt.pt ⟨k, [], .slice (some ⟨g, 0, none⟩) 3 3, [t, s, vtW [112]]⟩ = ⟨k, [], [P, Q, ⟨1, [112], []⟩]⟩ := by simp [Vt.pt_mk, hP, hQ]
    have := of_may hv (by rw [hp]; exact may_kids hk (by simp) (by simp) (by intro x hx; simp at hx; rcases hx with rfl | rfl | rfl <;> assumption) (by simp [hlw]; omega))
    rw [hp] at this
    exact this)
  have CKB : Hid (∀ u g, Below w.heap.size w u → u.heap[g]? = some (.cells #[.int .i64 s.kind, .string ⟨s.word.toArray⟩, s.val, .int .i64 t.kind, .string ⟨t.word.toArray⟩, t.val] 24 (0, 0)) → u.heap[g + 1]? = some (.cells #[.int .i64 1, .string ⟨#[112]⟩, .slice none 0 0, .int .i64 3, .string ⟨#[]⟩, .slice (some ⟨g, 0, none⟩) 2 2] 24 (0, 0)) → Calls Try.prog 11 #[.agg #[.int .i64 3, .string ⟨#[]⟩, .slice (some ⟨g + 1, 0, none⟩) 2 2]] u (OfE ⟨3, [], [⟨1, [112], []⟩, ⟨3, [], [Q, P]⟩]⟩ u)) := Hid.mk (fun u g hu hg hg1 => by
    have hv : VOk (fun _ => True) u ⟨3, [], .slice (some ⟨g + 1, 0, none⟩) 2 2, [vtW [112], ⟨3, [], .slice (some ⟨g, 0, none⟩) 2 2, [s, t]⟩]⟩ := vok_mk.2 ⟨sl_lit csN_len hg1 (by rfl) (by rfl), by simp, by simp, fun x hx => by
      simp at hx
      rcases hx with rfl | rfl
      · exact vok_word _ _ (by simp)
      · exact vok_mk.2 ⟨sl_lit csN_len hg (by rfl) (by rfl), by simp, by simp, fun x hx => by
          simp at hx
          rcases hx with rfl | rfl
          · exact h'.below hu
          · exact h.below hu⟩⟩
    have hp : Vt.pt ⟨3, [], .slice (some ⟨g + 1, 0, none⟩) 2 2, [vtW [112], ⟨3, [], .slice (some ⟨g, 0, none⟩) 2 2, [s, t]⟩]⟩ = ⟨3, [], [⟨1, [112], []⟩, ⟨3, [], [Q, P]⟩]⟩ := by simp [Vt.pt_mk, hP, hQ]
    have hin : shapedP 11 ⟨3, [], [Q, P]⟩ = true := shaped_kids (.inr rfl) (by simp) (by simp) (by intro x hx; simp at hx; rcases hx with rfl | rfl <;> assumption)
    have := of_may hv (by rw [hp]; exact may_kids (.inr rfl) (by simp) (by simp) (by intro x hx; simp at hx; rcases hx with rfl | rfl <;> assumption) (by rw [List.map_cons, List.map_cons, List.map_nil, hlw, leaves_mk 3, if_neg (by decide)]; simp; omega))
    rw [hp] at this
    exact this)
  have CKD : Hid (∀ u g, Below w.heap.size w u → u.heap[g]? = some (.cells #[.int .i64 s.kind, .string ⟨s.word.toArray⟩, s.val, .int .i64 1, .string ⟨#[112]⟩, .slice none 0 0] 24 (0, 0)) → u.heap[g + 1]? = some (.cells #[.int .i64 t.kind, .string ⟨t.word.toArray⟩, t.val, .int .i64 2, .string ⟨#[]⟩, .slice (some ⟨g, 0, none⟩) 2 2] 24 (0, 0)) → Calls Try.prog 11 #[.agg #[.int .i64 2, .string ⟨#[]⟩, .slice (some ⟨g + 1, 0, none⟩) 2 2]] u (OfE ⟨2, [], [P, ⟨2, [], [Q, ⟨1, [112], []⟩]⟩]⟩ u)) := Hid.mk (fun u g hu hg hg1 => by
    have hv : VOk (fun _ => True) u ⟨2, [], .slice (some ⟨g + 1, 0, none⟩) 2 2, [t, ⟨2, [], .slice (some ⟨g, 0, none⟩) 2 2, [s, vtW [112]]⟩]⟩ := vok_mk.2 ⟨sl_lit csN_len hg1 (by rfl) (by rfl), by simp, by simp, fun x hx => by
      simp at hx
      rcases hx with rfl | rfl
      · exact h.below hu
      · exact vok_mk.2 ⟨sl_lit csN_len hg (by rfl) (by rfl), by simp, by simp, fun x hx => by
          simp at hx
          rcases hx with rfl | rfl
          · exact h'.below hu
          · exact vok_word _ _ (by simp)⟩⟩
    have hp : Vt.pt ⟨2, [], .slice (some ⟨g + 1, 0, none⟩) 2 2, [t, ⟨2, [], .slice (some ⟨g, 0, none⟩) 2 2, [s, vtW [112]]⟩]⟩ = ⟨2, [], [P, ⟨2, [], [Q, ⟨1, [112], []⟩]⟩]⟩ := by simp [Vt.pt_mk, hP, hQ]
    have hin : shapedP 11 ⟨2, [], [Q, ⟨1, [112], []⟩]⟩ = true := shaped_kids (.inl rfl) (by simp) (by simp) (by intro x hx; simp at hx; rcases hx with rfl | rfl <;> assumption)
    have := of_may hv (by rw [hp]; exact may_kids (.inl rfl) (by simp) (by simp) (by intro x hx; simp at hx; rcases hx with rfl | rfl <;> assumption) (by rw [List.map_cons, List.map_cons, List.map_nil, leaves_mk 2, if_neg (by decide)]; simp [hlw]; omega))
    rw [hp] at this
    exact this)
  have HXX : Hid (leaves P + leaves Q ≤ 16 ∧ high P ≤ 10 ∧ high Q ≤ 10 ∧ L.length ≤ 6) := Hid.mk (by rw [hP, hQ]; exact hx)
  clear hx h1 h2 h3 h4 hsp hsq hp10 hq10 hp11 hq11 hlpq hw10 hw11 hlw
  obtain ⟨k, wd, kv, l⟩ := t
  obtain ⟨r, xd, rv, l'⟩ := s
  dsimp only at hvvp hvvq hkl hkm CKT CKB CKD
  subst hvvp hvvq
  obtain ⟨nk, hnk⟩ : ∃ n, n = l.length := ⟨_, rfl⟩
  obtain ⟨nr, hnr⟩ : ∃ n, n = l'.length := ⟨_, rfl⟩
  rw [← hnk] at CFp CMp COp CDp CPp CKT CKB CKD hkl ⊢
  rw [← hnr] at CFq CMq COq CDq CPq CKT CKB CKD hkm ⊢
  obtain ⟨n, hn⟩ : ∃ n, n = L.length := ⟨_, rfl⟩
  rw [← hn] at HV hvl hvc ⊢
  have HN := Hid.mk hn
  clear h h' hv hP hQ hb hd hn hnk hnr hfp hfq
  subst ep eq eb ed
  show Calls Try.prog _ #[.agg #[.int .i64 k, .string ⟨wd.toArray⟩, .slice ao nk cap], .agg #[.int .i64 r, .string ⟨xd.toArray⟩, .slice bo nr bap], _] w _
  obtain ⟨o, ho⟩ : ∃ o, o = Obj.cells #[.int .i64 k, .string ⟨wd.toArray⟩, .slice ao nk cap] 24 := ⟨_, rfl⟩
  obtain ⟨o', ho'⟩ : ∃ o, o = Obj.cells #[.int .i64 r, .string ⟨xd.toArray⟩, .slice bo nr bap] 24 := ⟨_, rfl⟩
  have HOB := Hid.mk ho
  have HOB' := Hid.mk ho'
  obtain ⟨W0, hW0⟩ : ∃ W, W = (w.alloc o).alloc o' := ⟨_, rfl⟩
  have HW0 := Hid.mk hW0
  have HC : Hid (∀ wr, Below W0.heap.size W0 wr → (wr.cell? ⟨w.heap.size, 0, none⟩ = some (.int .i64 k) ∧ wr.cell? ⟨w.heap.size, 1, none⟩ = some (.string ⟨wd.toArray⟩) ∧ wr.cell? ⟨w.heap.size, 2, none⟩ = some (.slice ao nk cap)) ∧ (wr.cell? ⟨w.heap.size + 1, 0, none⟩ = some (.int .i64 r) ∧ wr.cell? ⟨w.heap.size + 1, 1, none⟩ = some (.string ⟨xd.toArray⟩) ∧ wr.cell? ⟨w.heap.size + 1, 2, none⟩ = some (.slice bo nr bap)) ∧ w.heap.size < wr.heap.size ∧ w.heap.size + 1 < wr.heap.size ∧ Below w.heap.size w wr) := Hid.mk (fun wr hb => by
    rw [HW0.out] at hb
    obtain ⟨h1, h2⟩ := box2 hb
    rw [HOB.out] at h1
    rw [HOB'.out] at h2
    exact ⟨(three_cells h1).1, (three_cells h2).1, lt_of_block h1, lt_of_block h2, below_box2 hb⟩)
  have HB0 : Hid (Below W0.heap.size W0 ((w.alloc (.cells #[.int .i64 k, .string ⟨wd.toArray⟩, .slice ao nk cap] 24)).alloc (.cells #[.int .i64 r, .string ⟨xd.toArray⟩, .slice bo nr bap] 24))) := Hid.mk (by rw [HW0.out, HOB.out, HOB'.out]; exact Below.refl _ _)
  clear ho ho' hW0
  have HD0 : Hid (Below W0.heap.size W0 ((w.alloc (.cells #[.int .i64 k, .string ⟨wd.toArray⟩, .slice ao nk cap] 24)).alloc (.cells #[.int .i64 r, .string ⟨xd.toArray⟩, .slice bo nr bap] 24)).drew) := Hid.mk HB0.out.drew
  have KS : Hid (∀ u, Below W0.heap.size W0 u → (u.cell? ⟨w.heap.size, 0, none⟩ = some (.int .i64 k) ∧ u.cell? ⟨w.heap.size, 1, none⟩ = some (.string ⟨wd.toArray⟩) ∧ u.cell? ⟨w.heap.size, 2, none⟩ = some (.slice ao nk cap)) ∧ (u.cell? ⟨w.heap.size + 1, 0, none⟩ = some (.int .i64 r) ∧ u.cell? ⟨w.heap.size + 1, 1, none⟩ = some (.string ⟨xd.toArray⟩) ∧ u.cell? ⟨w.heap.size + 1, 2, none⟩ = some (.slice bo nr bap))) := Hid.mk (fun u hu => ⟨(HC.out u hu).1, (HC.out u hu).2.1⟩)
  have KB : Hid (∀ u, Below W0.heap.size W0 u → Below w.heap.size w u) := Hid.mk (fun u hu => (HC.out u hu).2.2.2.2)
  have CDp2 := Hid.mk (CDp.out rfl)
  have CPp2 := Hid.mk (CPp.out rfl)
  have COp2 := Hid.mk (COp.out rfl)
  have hhp := HHp.out rfl
  have hep := HEp.out rfl
  clear CDp CPp COp
  have CDq2 := Hid.mk (CDq.out rfl)
  have CPq2 := Hid.mk (CPq.out rfl)
  have COq2 := Hid.mk (COq.out rfl)
  have hhq := HHq.out rfl
  have heq := HEq.out rfl
  clear CDq CPq COq
  obtain ⟨lp, hlp⟩ : ∃ x, x = leaves P := ⟨_, rfl⟩
  obtain ⟨lq, hlq⟩ : ∃ x, x = leaves Q := ⟨_, rfl⟩
  obtain ⟨ip, hip⟩ : ∃ x, x = high P := ⟨_, rfl⟩
  obtain ⟨iq, hiq⟩ : ∃ x, x = high Q := ⟨_, rfl⟩
  rw [← hlp] at CPp2 hep
  rw [← hlq] at CPq2 heq
  rw [← hip] at CDp2 hhp
  rw [← hiq] at CDq2 hhq
  have HLP := Hid.mk hlp
  have HLQ := Hid.mk hlq
  have HIP := Hid.mk hip
  have HIQ := Hid.mk hiq
  clear hlp hlq hip hiq
  have hwr : IntKind.i64.wrap ((lp : Int) + (lq : Int)) = (lp : Int) + (lq : Int) := by rw [IntKind.wrap_i64]; omega
  have t5 : ¬ (16 : Int) < (lp : Int) + (lq : Int) := by have h1 := HXX.out.1; have := HLP.out; have := HLQ.out; omega
  have t5b : decide ((16 : Int) < (lp : Int) + (lq : Int)) = false := decide_eq_false t5
  have t6 : ¬ (10 : Int) < (ip : Int) := by have h1 := HXX.out.2.1; have := HIP.out; omega
  have t6b : decide ((10 : Int) < (ip : Int)) = false := decide_eq_false t6
  have t7 : ¬ (10 : Int) < (iq : Int) := by have h1 := HXX.out.2.2.1; have := HIQ.out; omega
  have t7b : decide ((10 : Int) < (iq : Int)) = false := decide_eq_false t7
  have t8 : ¬ (6 : Int) < (n : Int) := by have h1 := HXX.out.2.2.2; rw [← HN.out] at h1; omega
  have t8b : decide ((6 : Int) < (n : Int)) = false := decide_eq_false t8
  have hn6 : n ≤ 6 := by omega
  go_enter Try.func8, Try.ntmps8
  go_wp2_with fail
  go_region_held3 (fun u => (u.cell? ⟨w.heap.size, 0, none⟩ = some (.int .i64 k) ∧ u.cell? ⟨w.heap.size, 1, none⟩ = some (.string ⟨wd.toArray⟩) ∧ u.cell? ⟨w.heap.size, 2, none⟩ = some (.slice ao nk cap)) ∧ (u.cell? ⟨w.heap.size + 1, 0, none⟩ = some (.int .i64 r) ∧ u.cell? ⟨w.heap.size + 1, 1, none⟩ = some (.string ⟨xd.toArray⟩) ∧ u.cell? ⟨w.heap.size + 1, 2, none⟩ = some (.slice bo nr bap)))
    (first | with_reducible exact KS.out _ HD0.out | with_reducible exact KS.out _ z8 | with_reducible exact KS.out _ z7 | with_reducible exact KS.out _ z6 | with_reducible exact KS.out _ z5 | with_reducible exact KS.out _ z4 | with_reducible exact KS.out _ z3 | with_reducible exact KS.out _ z2 | with_reducible exact KS.out _ z1)
    (first
      | (go_at_call 9; with_reducible refine (CFp.out _ (KB.out _ HD0.out)).mono ?_; rintro e y1 ⟨rfl, j1⟩; have z1 := HD0.out.trans (j1.mono HD0.out.size))
      | (go_at_call 9; with_reducible refine (CFq.out _ (KB.out _ z1)).mono ?_; rintro e y2 ⟨rfl, j2⟩; have z2 := z1.trans (j2.mono z1.size))
      | (go_at_call 23; with_reducible refine (CMp.out _ (KB.out _ z2)).mono ?_; rintro e y3 ⟨rfl, j3⟩; have z3 := z2.trans (j3.mono z2.size))
      | (go_at_call 23; with_reducible refine (CMq.out _ (KB.out _ z3)).mono ?_; rintro e y4 ⟨rfl, j4⟩; have z4 := z3.trans (j4.mono z3.size))
      | (go_at_call 24; with_reducible refine (CPp2.out _ (KB.out _ z4)).mono ?_; rintro e y5 ⟨rfl, j5⟩; have z5 := z4.trans (j5.mono z4.size))
      | (go_at_call 24; with_reducible refine (CPq2.out _ (KB.out _ z5)).mono ?_; rintro e y6 ⟨rfl, j6⟩; have z6 := z5.trans (j6.mono z5.size))
      | (go_at_call 25; with_reducible refine (CDp2.out _ (KB.out _ z6)).mono ?_; rintro e y7 ⟨rfl, j7⟩; have z7 := z6.trans (j7.mono z6.size))
      | (go_at_call 25; with_reducible refine (CDq2.out _ (KB.out _ z7)).mono ?_; rintro e y8 ⟨rfl, j8⟩; have z8 := z7.trans (j8.mono z7.size)))
  have Z8 := Hid.mk z8
  clear j1 z1 j2 z2 j3 z3 j4 z4 j5 z5 j6 z6 j7 z7 j8 z8
  go_wp2_with fail
  refine (word_any [112] _).mono ?_
  rintro e yw ⟨rfl, jw⟩
  have ZW := Hid.mk (Z8.out.trans (jw.mono Z8.out.size))
  clear jw
  obtain ⟨ow, how⟩ : ∃ o, o = Obj.cells #[.int .i64 1, .string ⟨#[112]⟩, .slice none 0 0] 24 := ⟨_, rfl⟩
  have HOW := Hid.mk how
  clear how
  have HCW : Hid (∀ u, Below (yw.alloc ow).heap.size (yw.alloc ow) u → ((u.cell? ⟨w.heap.size, 0, none⟩ = some (.int .i64 k) ∧ u.cell? ⟨w.heap.size, 1, none⟩ = some (.string ⟨wd.toArray⟩) ∧ u.cell? ⟨w.heap.size, 2, none⟩ = some (.slice ao nk cap)) ∧ (u.cell? ⟨w.heap.size + 1, 0, none⟩ = some (.int .i64 r) ∧ u.cell? ⟨w.heap.size + 1, 1, none⟩ = some (.string ⟨xd.toArray⟩) ∧ u.cell? ⟨w.heap.size + 1, 2, none⟩ = some (.slice bo nr bap))) ∧ (u.cell? ⟨yw.heap.size, 0, none⟩ = some (.int .i64 1) ∧ u.cell? ⟨yw.heap.size, 1, none⟩ = some (.string ⟨#[112]⟩) ∧ u.cell? ⟨yw.heap.size, 2, none⟩ = some (.slice none 0 0)) ∧ w.heap.size < u.heap.size ∧ w.heap.size + 1 < u.heap.size ∧ yw.heap.size < u.heap.size ∧ Below w.heap.size w u) := Hid.mk (fun u hu => by
    have h := box_keptQ hu
    rw [HOW.out] at h
    have h2 := ZW.out.trans ((below_boxQ hu).mono ZW.out.size)
    exact ⟨KS.out _ h2, (three_cells h).1, (HC.out _ h2).2.2.1, (HC.out _ h2).2.2.2.1, lt_of_block h, KB.out _ h2⟩)
  have HGX0 : Hid (Below (yw.alloc ow).heap.size (yw.alloc ow) (yw.alloc (.cells #[.int .i64 1, .string ⟨#[112]⟩, .slice none 0 0] 24))) := Hid.mk (by rw [HOW.out]; exact Below.refl _ _)
  obtain ⟨⟨⟨c0, c1, c2⟩, ⟨c3, c4, c5⟩⟩, _, _, _, _, _⟩ := HCW.out _ HGX0.out
  obtain ⟨⟨⟨d0, d1, d2⟩, ⟨d3, d4, d5⟩⟩⟩ := And.intro (KS.out _ ZW.out) trivial |>.imp id id |> fun h => h
  obtain ⟨⟨⟨_, _, _⟩, ⟨_, _, _⟩⟩, lt0, lt1, _⟩ := And.intro (KS.out _ ZW.out) (And.intro (HC.out _ ZW.out).2.2.1 (And.intro (HC.out _ ZW.out).2.2.2.1 trivial))
  go_wp2_with fail
  have HGK1 : Hid (Below (yw.alloc ow).heap.size (yw.alloc ow) ((yw.alloc (.cells #[.int .i64 1, .string ⟨#[112]⟩, .slice none 0 0] 24)).alloc (.cells #[.int .i64 k, .string ⟨wd.toArray⟩, .slice ao nk cap, .int .i64 r, .string ⟨xd.toArray⟩, .slice bo nr bap, .int .i64 1, .string ⟨#[112]⟩, .slice none 0 0] 24))) := Hid.mk (HGX0.out.alloc HGX0.out.size _)
  refine (CKT.out 3 (by omega) _ (yw.heap.size + 1) (HCW.out _ HGK1.out).2.2.2.2.2 (get_at [(.cells #[.int .i64 1, .string ⟨#[112]⟩, .slice none 0 0] 24), _] yw 1 (by simp))).mono ?_
  rintro e x1 ⟨m1, rfl, hu, ha, hbx⟩
  have HGX1 := Hid.mk (HGK1.out.trans (hbx.mono HGK1.out.size))
  obtain ⟨wa1, wc1, fa1, fc1, la1, lc1, oa1, oc1, e1, e2, e3, e4⟩ := hu.slices
  obtain ⟨f1, hf⟩ : ∃ f : List Wd → Bool, f = accB m1.au := ⟨_, rfl⟩
  have HF1 := Hid.mk ha
  rw [← hf] at HF1
  have CA1 : Hid (∀ u x K, Below x1.heap.size x1 u → TxtS (fun _ => True) u x K → K.length ≤ 1000 → Calls Try.prog 16 #[encU m1, x] u fun e w' => e = .returned (.bool (f1 K)) ∧ Below u.heap.size u w') := Hid.mk (fun u x K hu2 hx hl => by rw [hf]; exact acc_any (hu.below hu2) hx (by omega))
  obtain ⟨v1a, v1b, v1c, v1d, v1e, v1f, v1g, v1h, em1⟩ := m1
  dsimp only at e1 e2 e3 e4 CA1
  subst e1 e2 e3 e4
  obtain ⟨nw1, hnw⟩ : ∃ n, n = v1b.length := ⟨_, rfl⟩
  obtain ⟨nf1, hnf⟩ : ∃ n, n = v1d.length := ⟨_, rfl⟩
  obtain ⟨nl1, hnl⟩ : ∃ n, n = v1f.length := ⟨_, rfl⟩
  obtain ⟨no1, hno⟩ : ∃ n, n = v1h.length := ⟨_, rfl⟩
  have CB1 : Hid (∀ u x K, Below x1.heap.size x1 u → TxtS (fun _ => True) u x K → K.length ≤ 1000 → Calls Try.prog 16 #[.agg #[.slice wa1 nw1 wc1, .slice fa1 nf1 fc1, .slice la1 nl1 lc1, .slice oa1 no1 oc1, .bool em1], x] u fun e w' => e = .returned (.bool (f1 K)) ∧ Below u.heap.size u w') := Hid.mk (by rw [hnw, hnf, hnl, hno]; exact CA1.out)
  rw [← hnw, ← hnf, ← hnl, ← hno]
  obtain ⟨O1, hO⟩ : ∃ O, O = Obj.cells #[.slice wa1 nw1 wc1, .slice fa1 nf1 fc1, .slice la1 nl1 lc1, .slice oa1 no1 oc1, .bool em1] 31 := ⟨_, rfl⟩
  have HO1 := Hid.mk hO
  have HGA1 : Hid (Below (yw.alloc ow).heap.size (yw.alloc ow) (x1.alloc (.cells #[.slice wa1 nw1 wc1, .slice fa1 nf1 fc1, .slice la1 nl1 lc1, .slice oa1 no1 oc1, .bool em1] 31))) := Hid.mk (HGX1.out.alloc HGX1.out.size _)
  have KA1 : Hid (∀ u, Below (x1.alloc O1).heap.size (x1.alloc O1) u → Below x1.heap.size x1 u ∧ u.cell? ⟨x1.heap.size, 0, none⟩ = some (.slice wa1 nw1 wc1) ∧ u.cell? ⟨x1.heap.size, 1, none⟩ = some (.slice fa1 nf1 fc1) ∧ u.cell? ⟨x1.heap.size, 2, none⟩ = some (.slice la1 nl1 lc1) ∧ u.cell? ⟨x1.heap.size, 3, none⟩ = some (.slice oa1 no1 oc1) ∧ u.cell? ⟨x1.heap.size, 4, none⟩ = some (.bool em1)) := Hid.mk (fun u hu => by
    have h := box_keptQ hu
    rw [HO1.out] at h
    exact ⟨below_boxQ hu, cells5 h⟩)
  clear hbx hu ha hf hnw hnf hnl hno hO CA1 c0 c1 c2 c3 c4 c5 lt0 lt1 d0 d1 d2 d3 d4 d5
  obtain ⟨⟨⟨c0, c1, c2⟩, ⟨c3, c4, c5⟩⟩, ⟨c6, c7, c8⟩, lt0, lt1, lt2, _⟩ := HCW.out _ HGX1.out
  go_wp2_with fail
  have HGK2 : Hid (Below (yw.alloc ow).heap.size (yw.alloc ow) (((x1.alloc (.cells #[.slice wa1 nw1 wc1, .slice fa1 nf1 fc1, .slice la1 nl1 lc1, .slice oa1 no1 oc1, .bool em1] 31)).alloc (.cells #[.int .i64 r, .string ⟨xd.toArray⟩, .slice bo nr bap, .int .i64 k, .string ⟨wd.toArray⟩, .slice ao nk cap] 24)).alloc (.cells #[.int .i64 1, .string ⟨#[112]⟩, .slice none 0 0, .int .i64 3, .string ⟨#[]⟩, .slice (some ⟨x1.heap.size + 1, 0, none⟩) 2 2] 24))) := Hid.mk ((HGA1.out.alloc HGA1.out.size _).alloc (HGA1.out.alloc HGA1.out.size _).size _)
  refine (CKB.out _ (x1.heap.size + 1) (HCW.out _ HGK2.out).2.2.2.2.2 (get_at [(.cells #[.slice wa1 nw1 wc1, .slice fa1 nf1 fc1, .slice la1 nl1 lc1, .slice oa1 no1 oc1, .bool em1] 31), _, _] x1 1 (by simp)) (get_at [(.cells #[.slice wa1 nw1 wc1, .slice fa1 nf1 fc1, .slice la1 nl1 lc1, .slice oa1 no1 oc1, .bool em1] 31), _, _] x1 2 (by simp))).mono ?_
  rintro e x2 ⟨m2, rfl, hu, ha, hbx⟩
  have HGX2 := Hid.mk (HGK2.out.trans (hbx.mono HGK2.out.size))
  obtain ⟨wa2, wc2, fa2, fc2, la2, lc2, oa2, oc2, e1, e2, e3, e4⟩ := hu.slices
  obtain ⟨f2, hf⟩ : ∃ f : List Wd → Bool, f = accB m2.au := ⟨_, rfl⟩
  have HF2 := Hid.mk ha
  rw [← hf] at HF2
  have CA2 : Hid (∀ u x K, Below x2.heap.size x2 u → TxtS (fun _ => True) u x K → K.length ≤ 1000 → Calls Try.prog 16 #[encU m2, x] u fun e w' => e = .returned (.bool (f2 K)) ∧ Below u.heap.size u w') := Hid.mk (fun u x K hu2 hx hl => by rw [hf]; exact acc_any (hu.below hu2) hx (by omega))
  obtain ⟨v2a, v2b, v2c, v2d, v2e, v2f, v2g, v2h, em2⟩ := m2
  dsimp only at e1 e2 e3 e4 CA2
  subst e1 e2 e3 e4
  obtain ⟨nw2, hnw⟩ : ∃ n, n = v2b.length := ⟨_, rfl⟩
  obtain ⟨nf2, hnf⟩ : ∃ n, n = v2d.length := ⟨_, rfl⟩
  obtain ⟨nl2, hnl⟩ : ∃ n, n = v2f.length := ⟨_, rfl⟩
  obtain ⟨no2, hno⟩ : ∃ n, n = v2h.length := ⟨_, rfl⟩
  have CB2 : Hid (∀ u x K, Below x2.heap.size x2 u → TxtS (fun _ => True) u x K → K.length ≤ 1000 → Calls Try.prog 16 #[.agg #[.slice wa2 nw2 wc2, .slice fa2 nf2 fc2, .slice la2 nl2 lc2, .slice oa2 no2 oc2, .bool em2], x] u fun e w' => e = .returned (.bool (f2 K)) ∧ Below u.heap.size u w') := Hid.mk (by rw [hnw, hnf, hnl, hno]; exact CA2.out)
  rw [← hnw, ← hnf, ← hnl, ← hno]
  obtain ⟨O2, hO⟩ : ∃ O, O = Obj.cells #[.slice wa2 nw2 wc2, .slice fa2 nf2 fc2, .slice la2 nl2 lc2, .slice oa2 no2 oc2, .bool em2] 31 := ⟨_, rfl⟩
  have HO2 := Hid.mk hO
  have HGA2 : Hid (Below (yw.alloc ow).heap.size (yw.alloc ow) (x2.alloc (.cells #[.slice wa2 nw2 wc2, .slice fa2 nf2 fc2, .slice la2 nl2 lc2, .slice oa2 no2 oc2, .bool em2] 31))) := Hid.mk (HGX2.out.alloc HGX2.out.size _)
  have KA2 : Hid (∀ u, Below (x2.alloc O2).heap.size (x2.alloc O2) u → Below x2.heap.size x2 u ∧ u.cell? ⟨x2.heap.size, 0, none⟩ = some (.slice wa2 nw2 wc2) ∧ u.cell? ⟨x2.heap.size, 1, none⟩ = some (.slice fa2 nf2 fc2) ∧ u.cell? ⟨x2.heap.size, 2, none⟩ = some (.slice la2 nl2 lc2) ∧ u.cell? ⟨x2.heap.size, 3, none⟩ = some (.slice oa2 no2 oc2) ∧ u.cell? ⟨x2.heap.size, 4, none⟩ = some (.bool em2)) := Hid.mk (fun u hu => by
    have h := box_keptQ hu
    rw [HO2.out] at h
    exact ⟨below_boxQ hu, cells5 h⟩)
  have HS2 : Hid (Below (x1.alloc O1).heap.size (x1.alloc O1) x2) := Hid.mk (by rw [HO1.out]; exact below_boxQ (below_boxQ hbx))
  clear hbx hu ha hf hnw hnf hnl hno hO CA2 c0 c1 c2 c3 c4 c5 lt0 lt1 c6 c7 c8 lt2
  obtain ⟨⟨⟨c0, c1, c2⟩, ⟨c3, c4, c5⟩⟩, ⟨c6, c7, c8⟩, lt0, lt1, lt2, _⟩ := HCW.out _ HGX2.out
  go_wp2_with fail
  have HGK3 : Hid (Below (yw.alloc ow).heap.size (yw.alloc ow) ((x2.alloc (.cells #[.slice wa2 nw2 wc2, .slice fa2 nf2 fc2, .slice la2 nl2 lc2, .slice oa2 no2 oc2, .bool em2] 31)).alloc (.cells #[.int .i64 k, .string ⟨wd.toArray⟩, .slice ao nk cap, .int .i64 r, .string ⟨xd.toArray⟩, .slice bo nr bap, .int .i64 1, .string ⟨#[112]⟩, .slice none 0 0] 24))) := Hid.mk (HGA2.out.alloc HGA2.out.size _)
  refine (CKT.out 2 (by omega) _ (x2.heap.size + 1) (HCW.out _ HGK3.out).2.2.2.2.2 (get_at [(.cells #[.slice wa2 nw2 wc2, .slice fa2 nf2 fc2, .slice la2 nl2 lc2, .slice oa2 no2 oc2, .bool em2] 31), _] x2 1 (by simp))).mono ?_
  rintro e x3 ⟨m3, rfl, hu, ha, hbx⟩
  have HGX3 := Hid.mk (HGK3.out.trans (hbx.mono HGK3.out.size))
  obtain ⟨wa3, wc3, fa3, fc3, la3, lc3, oa3, oc3, e1, e2, e3, e4⟩ := hu.slices
  obtain ⟨f3, hf⟩ : ∃ f : List Wd → Bool, f = accB m3.au := ⟨_, rfl⟩
  have HF3 := Hid.mk ha
  rw [← hf] at HF3
  have CA3 : Hid (∀ u x K, Below x3.heap.size x3 u → TxtS (fun _ => True) u x K → K.length ≤ 1000 → Calls Try.prog 16 #[encU m3, x] u fun e w' => e = .returned (.bool (f3 K)) ∧ Below u.heap.size u w') := Hid.mk (fun u x K hu2 hx hl => by rw [hf]; exact acc_any (hu.below hu2) hx (by omega))
  obtain ⟨v3a, v3b, v3c, v3d, v3e, v3f, v3g, v3h, em3⟩ := m3
  dsimp only at e1 e2 e3 e4 CA3
  subst e1 e2 e3 e4
  obtain ⟨nw3, hnw⟩ : ∃ n, n = v3b.length := ⟨_, rfl⟩
  obtain ⟨nf3, hnf⟩ : ∃ n, n = v3d.length := ⟨_, rfl⟩
  obtain ⟨nl3, hnl⟩ : ∃ n, n = v3f.length := ⟨_, rfl⟩
  obtain ⟨no3, hno⟩ : ∃ n, n = v3h.length := ⟨_, rfl⟩
  have CB3 : Hid (∀ u x K, Below x3.heap.size x3 u → TxtS (fun _ => True) u x K → K.length ≤ 1000 → Calls Try.prog 16 #[.agg #[.slice wa3 nw3 wc3, .slice fa3 nf3 fc3, .slice la3 nl3 lc3, .slice oa3 no3 oc3, .bool em3], x] u fun e w' => e = .returned (.bool (f3 K)) ∧ Below u.heap.size u w') := Hid.mk (by rw [hnw, hnf, hnl, hno]; exact CA3.out)
  rw [← hnw, ← hnf, ← hnl, ← hno]
  obtain ⟨O3, hO⟩ : ∃ O, O = Obj.cells #[.slice wa3 nw3 wc3, .slice fa3 nf3 fc3, .slice la3 nl3 lc3, .slice oa3 no3 oc3, .bool em3] 31 := ⟨_, rfl⟩
  have HO3 := Hid.mk hO
  have HGA3 : Hid (Below (yw.alloc ow).heap.size (yw.alloc ow) (x3.alloc (.cells #[.slice wa3 nw3 wc3, .slice fa3 nf3 fc3, .slice la3 nl3 lc3, .slice oa3 no3 oc3, .bool em3] 31))) := Hid.mk (HGX3.out.alloc HGX3.out.size _)
  have KA3 : Hid (∀ u, Below (x3.alloc O3).heap.size (x3.alloc O3) u → Below x3.heap.size x3 u ∧ u.cell? ⟨x3.heap.size, 0, none⟩ = some (.slice wa3 nw3 wc3) ∧ u.cell? ⟨x3.heap.size, 1, none⟩ = some (.slice fa3 nf3 fc3) ∧ u.cell? ⟨x3.heap.size, 2, none⟩ = some (.slice la3 nl3 lc3) ∧ u.cell? ⟨x3.heap.size, 3, none⟩ = some (.slice oa3 no3 oc3) ∧ u.cell? ⟨x3.heap.size, 4, none⟩ = some (.bool em3)) := Hid.mk (fun u hu => by
    have h := box_keptQ hu
    rw [HO3.out] at h
    exact ⟨below_boxQ hu, cells5 h⟩)
  have HS3 : Hid (Below (x2.alloc O2).heap.size (x2.alloc O2) x3) := Hid.mk (by rw [HO2.out]; exact below_boxQ hbx)
  clear hbx hu ha hf hnw hnf hnl hno hO CA3 c0 c1 c2 c3 c4 c5 lt0 lt1 c6 c7 c8 lt2
  obtain ⟨⟨⟨c0, c1, c2⟩, ⟨c3, c4, c5⟩⟩, ⟨c6, c7, c8⟩, lt0, lt1, lt2, _⟩ := HCW.out _ HGX3.out
  go_wp2_with fail
  have HGK4 : Hid (Below (yw.alloc ow).heap.size (yw.alloc ow) (((x3.alloc (.cells #[.slice wa3 nw3 wc3, .slice fa3 nf3 fc3, .slice la3 nl3 lc3, .slice oa3 no3 oc3, .bool em3] 31)).alloc (.cells #[.int .i64 r, .string ⟨xd.toArray⟩, .slice bo nr bap, .int .i64 1, .string ⟨#[112]⟩, .slice none 0 0] 24)).alloc (.cells #[.int .i64 k, .string ⟨wd.toArray⟩, .slice ao nk cap, .int .i64 2, .string ⟨#[]⟩, .slice (some ⟨x3.heap.size + 1, 0, none⟩) 2 2] 24))) := Hid.mk ((HGA3.out.alloc HGA3.out.size _).alloc (HGA3.out.alloc HGA3.out.size _).size _)
  refine (CKD.out _ (x3.heap.size + 1) (HCW.out _ HGK4.out).2.2.2.2.2 (get_at [(.cells #[.slice wa3 nw3 wc3, .slice fa3 nf3 fc3, .slice la3 nl3 lc3, .slice oa3 no3 oc3, .bool em3] 31), _, _] x3 1 (by simp)) (get_at [(.cells #[.slice wa3 nw3 wc3, .slice fa3 nf3 fc3, .slice la3 nl3 lc3, .slice oa3 no3 oc3, .bool em3] 31), _, _] x3 2 (by simp))).mono ?_
  rintro e x4 ⟨m4, rfl, hu, ha, hbx⟩
  have HGX4 := Hid.mk (HGK4.out.trans (hbx.mono HGK4.out.size))
  obtain ⟨wa4, wc4, fa4, fc4, la4, lc4, oa4, oc4, e1, e2, e3, e4⟩ := hu.slices
  obtain ⟨f4, hf⟩ : ∃ f : List Wd → Bool, f = accB m4.au := ⟨_, rfl⟩
  have HF4 := Hid.mk ha
  rw [← hf] at HF4
  have CA4 : Hid (∀ u x K, Below x4.heap.size x4 u → TxtS (fun _ => True) u x K → K.length ≤ 1000 → Calls Try.prog 16 #[encU m4, x] u fun e w' => e = .returned (.bool (f4 K)) ∧ Below u.heap.size u w') := Hid.mk (fun u x K hu2 hx hl => by rw [hf]; exact acc_any (hu.below hu2) hx (by omega))
  obtain ⟨v4a, v4b, v4c, v4d, v4e, v4f, v4g, v4h, em4⟩ := m4
  dsimp only at e1 e2 e3 e4 CA4
  subst e1 e2 e3 e4
  obtain ⟨nw4, hnw⟩ : ∃ n, n = v4b.length := ⟨_, rfl⟩
  obtain ⟨nf4, hnf⟩ : ∃ n, n = v4d.length := ⟨_, rfl⟩
  obtain ⟨nl4, hnl⟩ : ∃ n, n = v4f.length := ⟨_, rfl⟩
  obtain ⟨no4, hno⟩ : ∃ n, n = v4h.length := ⟨_, rfl⟩
  have CB4 : Hid (∀ u x K, Below x4.heap.size x4 u → TxtS (fun _ => True) u x K → K.length ≤ 1000 → Calls Try.prog 16 #[.agg #[.slice wa4 nw4 wc4, .slice fa4 nf4 fc4, .slice la4 nl4 lc4, .slice oa4 no4 oc4, .bool em4], x] u fun e w' => e = .returned (.bool (f4 K)) ∧ Below u.heap.size u w') := Hid.mk (by rw [hnw, hnf, hnl, hno]; exact CA4.out)
  rw [← hnw, ← hnf, ← hnl, ← hno]
  obtain ⟨O4, hO⟩ : ∃ O, O = Obj.cells #[.slice wa4 nw4 wc4, .slice fa4 nf4 fc4, .slice la4 nl4 lc4, .slice oa4 no4 oc4, .bool em4] 31 := ⟨_, rfl⟩
  have HO4 := Hid.mk hO
  have HGA4 : Hid (Below (yw.alloc ow).heap.size (yw.alloc ow) (x4.alloc (.cells #[.slice wa4 nw4 wc4, .slice fa4 nf4 fc4, .slice la4 nl4 lc4, .slice oa4 no4 oc4, .bool em4] 31))) := Hid.mk (HGX4.out.alloc HGX4.out.size _)
  have KA4 : Hid (∀ u, Below (x4.alloc O4).heap.size (x4.alloc O4) u → Below x4.heap.size x4 u ∧ u.cell? ⟨x4.heap.size, 0, none⟩ = some (.slice wa4 nw4 wc4) ∧ u.cell? ⟨x4.heap.size, 1, none⟩ = some (.slice fa4 nf4 fc4) ∧ u.cell? ⟨x4.heap.size, 2, none⟩ = some (.slice la4 nl4 lc4) ∧ u.cell? ⟨x4.heap.size, 3, none⟩ = some (.slice oa4 no4 oc4) ∧ u.cell? ⟨x4.heap.size, 4, none⟩ = some (.bool em4)) := Hid.mk (fun u hu => by
    have h := box_keptQ hu
    rw [HO4.out] at h
    exact ⟨below_boxQ hu, cells5 h⟩)
  have HS4 : Hid (Below (x3.alloc O3).heap.size (x3.alloc O3) x4) := Hid.mk (by rw [HO3.out]; exact below_boxQ (below_boxQ hbx))
  clear hbx hu ha hf hnw hnf hnl hno hO CA4 c0 c1 c2 c3 c4 c5 lt0 lt1 c6 c7 c8 lt2
  have KZ : Hid (∀ u, Below (x4.alloc O4).heap.size (x4.alloc O4) u → Below (x1.alloc O1).heap.size (x1.alloc O1) u ∧ Below (x2.alloc O2).heap.size (x2.alloc O2) u ∧ Below (x3.alloc O3).heap.size (x3.alloc O3) u ∧ Below w.heap.size w u) := Hid.mk (fun u hu => by
    have h3 : Below (x3.alloc O3).heap.size (x3.alloc O3) u := HS4.out.trans ((below_boxQ hu).mono HS4.out.size)
    have h2 : Below (x2.alloc O2).heap.size (x2.alloc O2) u := HS3.out.trans ((below_boxQ h3).mono HS3.out.size)
    have h1 : Below (x1.alloc O1).heap.size (x1.alloc O1) u := HS2.out.trans ((below_boxQ h2).mono HS2.out.size)
    exact ⟨h1, h2, h3, (HCW.out _ (HGX1.out.trans ((below_boxQ h1).mono HGX1.out.size))).2.2.2.2.2⟩)
  have HDW : Hid (Below (x4.alloc O4).heap.size (x4.alloc O4) (x4.alloc (.cells #[.slice wa4 nw4 wc4, .slice fa4 nf4 fc4, .slice la4 nl4 lc4, .slice oa4 no4 oc4, .bool em4] 31)).drew) := Hid.mk (by rw [HO4.out]; exact (Below.refl _ _).drew)
  have KV : Hid (∀ u, Below (x4.alloc O4).heap.size (x4.alloc O4) u → TxtS (fun _ => True) u (.slice va n vc) L) := Hid.mk (fun u hu => HV.out.below (KZ.out u hu).2.2.2)
  have hL8 : L.length ≤ 6 := by rw [← HN.out]; exact hn6
  obtain ⟨a, ha⟩ : ∃ a, a = f1 L := ⟨_, rfl⟩
  obtain ⟨c, hc⟩ : ∃ a, a = f3 L := ⟨_, rfl⟩
  have q2 : f2 L = a := bool_iff (by rw [ha, HF2.out, HF1.out]; exact (will_alt_turn P Q _ L).symm)
  have q4 : f4 L = c := bool_iff (by rw [hc, HF4.out, HF3.out]; exact (will_seq_turn P Q _ L).symm)
  have D1 : Hid (∀ u, Below (x4.alloc O4).heap.size (x4.alloc O4) u → Calls Try.prog 16 #[.agg #[.slice wa1 nw1 wc1, .slice fa1 nf1 fc1, .slice la1 nl1 lc1, .slice oa1 no1 oc1, .bool em1], .slice va n vc] u fun e w' => e = .returned (.bool a) ∧ Below u.heap.size u w') := Hid.mk (fun u hu => by rw [ha]; exact CB1.out u _ L (KA1.out u (KZ.out u hu).1).1 (KV.out u hu) (by omega))
  have D2 : Hid (∀ u, Below (x4.alloc O4).heap.size (x4.alloc O4) u → Calls Try.prog 16 #[.agg #[.slice wa2 nw2 wc2, .slice fa2 nf2 fc2, .slice la2 nl2 lc2, .slice oa2 no2 oc2, .bool em2], .slice va n vc] u fun e w' => e = .returned (.bool a) ∧ Below u.heap.size u w') := Hid.mk (fun u hu => by rw [← q2]; exact CB2.out u _ L (KA2.out u (KZ.out u hu).2.1).1 (KV.out u hu) (by omega))
  have D3 : Hid (∀ u, Below (x4.alloc O4).heap.size (x4.alloc O4) u → Calls Try.prog 16 #[.agg #[.slice wa3 nw3 wc3, .slice fa3 nf3 fc3, .slice la3 nl3 lc3, .slice oa3 no3 oc3, .bool em3], .slice va n vc] u fun e w' => e = .returned (.bool c) ∧ Below u.heap.size u w') := Hid.mk (fun u hu => by rw [hc]; exact CB3.out u _ L (KA3.out u (KZ.out u hu).2.2.1).1 (KV.out u hu) (by omega))
  have D4 : Hid (∀ u, Below (x4.alloc O4).heap.size (x4.alloc O4) u → Calls Try.prog 16 #[.agg #[.slice wa4 nw4 wc4, .slice fa4 nf4 fc4, .slice la4 nl4 lc4, .slice oa4 no4 oc4, .bool em4], .slice va n vc] u fun e w' => e = .returned (.bool c) ∧ Below u.heap.size u w') := Hid.mk (fun u hu => by rw [← q4]; exact CB4.out u _ L (KA4.out u hu).1 (KV.out u hu) (by omega))
  clear q2 q4 ha hc hL8
  have haa : (a == a) = true := by simp
  have hcc : (c == c) = true := by simp
  have KT : Hid (∀ u, Below (x4.alloc O4).heap.size (x4.alloc O4) u → (u.cell? ⟨x1.heap.size, 0, none⟩ = some (.slice wa1 nw1 wc1) ∧ u.cell? ⟨x1.heap.size, 1, none⟩ = some (.slice fa1 nf1 fc1) ∧ u.cell? ⟨x1.heap.size, 2, none⟩ = some (.slice la1 nl1 lc1) ∧ u.cell? ⟨x1.heap.size, 3, none⟩ = some (.slice oa1 no1 oc1) ∧ u.cell? ⟨x1.heap.size, 4, none⟩ = some (.bool em1)) ∧ (u.cell? ⟨x2.heap.size, 0, none⟩ = some (.slice wa2 nw2 wc2) ∧ u.cell? ⟨x2.heap.size, 1, none⟩ = some (.slice fa2 nf2 fc2) ∧ u.cell? ⟨x2.heap.size, 2, none⟩ = some (.slice la2 nl2 lc2) ∧ u.cell? ⟨x2.heap.size, 3, none⟩ = some (.slice oa2 no2 oc2) ∧ u.cell? ⟨x2.heap.size, 4, none⟩ = some (.bool em2)) ∧ (u.cell? ⟨x3.heap.size, 0, none⟩ = some (.slice wa3 nw3 wc3) ∧ u.cell? ⟨x3.heap.size, 1, none⟩ = some (.slice fa3 nf3 fc3) ∧ u.cell? ⟨x3.heap.size, 2, none⟩ = some (.slice la3 nl3 lc3) ∧ u.cell? ⟨x3.heap.size, 3, none⟩ = some (.slice oa3 no3 oc3) ∧ u.cell? ⟨x3.heap.size, 4, none⟩ = some (.bool em3)) ∧ (u.cell? ⟨x4.heap.size, 0, none⟩ = some (.slice wa4 nw4 wc4) ∧ u.cell? ⟨x4.heap.size, 1, none⟩ = some (.slice fa4 nf4 fc4) ∧ u.cell? ⟨x4.heap.size, 2, none⟩ = some (.slice la4 nl4 lc4) ∧ u.cell? ⟨x4.heap.size, 3, none⟩ = some (.slice oa4 no4 oc4) ∧ u.cell? ⟨x4.heap.size, 4, none⟩ = some (.bool em4))) := Hid.mk (fun u hu => ⟨(KA1.out _ (KZ.out _ hu).1).2, (KA2.out _ (KZ.out _ hu).2.1).2, (KA3.out _ (KZ.out _ hu).2.2.1).2, (KA4.out _ hu).2⟩)
  go_wp2_with fail
  go_region_held3 (fun u => (u.cell? ⟨x1.heap.size, 0, none⟩ = some (.slice wa1 nw1 wc1) ∧ u.cell? ⟨x1.heap.size, 1, none⟩ = some (.slice fa1 nf1 fc1) ∧ u.cell? ⟨x1.heap.size, 2, none⟩ = some (.slice la1 nl1 lc1) ∧ u.cell? ⟨x1.heap.size, 3, none⟩ = some (.slice oa1 no1 oc1) ∧ u.cell? ⟨x1.heap.size, 4, none⟩ = some (.bool em1)) ∧ (u.cell? ⟨x2.heap.size, 0, none⟩ = some (.slice wa2 nw2 wc2) ∧ u.cell? ⟨x2.heap.size, 1, none⟩ = some (.slice fa2 nf2 fc2) ∧ u.cell? ⟨x2.heap.size, 2, none⟩ = some (.slice la2 nl2 lc2) ∧ u.cell? ⟨x2.heap.size, 3, none⟩ = some (.slice oa2 no2 oc2) ∧ u.cell? ⟨x2.heap.size, 4, none⟩ = some (.bool em2)) ∧ (u.cell? ⟨x3.heap.size, 0, none⟩ = some (.slice wa3 nw3 wc3) ∧ u.cell? ⟨x3.heap.size, 1, none⟩ = some (.slice fa3 nf3 fc3) ∧ u.cell? ⟨x3.heap.size, 2, none⟩ = some (.slice la3 nl3 lc3) ∧ u.cell? ⟨x3.heap.size, 3, none⟩ = some (.slice oa3 no3 oc3) ∧ u.cell? ⟨x3.heap.size, 4, none⟩ = some (.bool em3)) ∧ (u.cell? ⟨x4.heap.size, 0, none⟩ = some (.slice wa4 nw4 wc4) ∧ u.cell? ⟨x4.heap.size, 1, none⟩ = some (.slice fa4 nf4 fc4) ∧ u.cell? ⟨x4.heap.size, 2, none⟩ = some (.slice la4 nl4 lc4) ∧ u.cell? ⟨x4.heap.size, 3, none⟩ = some (.slice oa4 no4 oc4) ∧ u.cell? ⟨x4.heap.size, 4, none⟩ = some (.bool em4)))
    (first | with_reducible exact KT.out _ HDW.out | with_reducible exact KT.out _ z5 | with_reducible exact KT.out _ z4 | with_reducible exact KT.out _ z3 | with_reducible exact KT.out _ z2 | with_reducible exact KT.out _ z1)
    (first
      | (go_at_call 16; with_reducible refine (D1.out _ HDW.out).mono ?_; rintro e y1 ⟨rfl, g1⟩; have z1 := HDW.out.trans (g1.mono HDW.out.size))
      | (go_at_call 16; with_reducible refine (D2.out _ z1).mono ?_; rintro e y2 ⟨rfl, g2⟩; have z2 := z1.trans (g2.mono z1.size))
      | (go_at_call 16; with_reducible refine (D3.out _ z2).mono ?_; rintro e y3 ⟨rfl, g3⟩; have z3 := z2.trans (g3.mono z2.size))
      | (go_at_call 16; with_reducible refine (D4.out _ z3).mono ?_; rintro e y4 ⟨rfl, g4⟩; have z4 := z3.trans (g4.mono z3.size))
      | (go_at_call 10; refine (awake_any _).mono ?_; rintro e y5 ⟨rfl, g5⟩; have z5 := z4.trans (g5.mono z4.size)))
  all_goals (
    have Z5 := Hid.mk z5
    clear g1 g2 g3 g4 g5 z1 z2 z3 z4 z5
    go_wp2
    go_ret
    exact ⟨rfl, (KZ.out _ Z5.out).2.2.2⟩)
end Go.Proofs.Ythdnpddfdlhlaaa
