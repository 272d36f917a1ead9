/- isThere, behind, Next, Ends of the program. -/
import Derived.Test.YthdnpddfdlhlaabBMay
import Derived.Test.YthdnpddfdlhlaabAEnds
namespace Go.Proofs.Ythdnpddfdlhlaab
open Go.RowKit


set_option maxRecDepth 100000 in
set_option maxHeartbeats 2000000 in
theorem indexZ_any {S : Nat → Prop} {w : World} {v : Value} {L : List Int} (h : IntZ S w v L) (hl : L.length ≤ 9223372036854775806) (z : Int) :
    Calls Try.prog 41 #[v, .int .i64 z] w fun e w' => (∃ y : Int, e = .returned (.int .i64 y) ∧ decide (0 ≤ y) = decide (z ∈ L)) ∧ w' = w := by
  obtain ⟨ao, cap, rfl⟩ := h.slice
  have H := Hid.mk h
  obtain ⟨n, hn⟩ : ∃ n, n = L.length := ⟨_, rfl⟩
  rw [← hn] at hl H ⊢
  have HN := Hid.mk hn
  obtain ⟨ans, hans⟩ : ∃ a, a = decide (z ∈ L) := ⟨_, rfl⟩
  rw [← hans]
  have HA := Hid.mk hans
  clear h hn hans
  go_enter Try.func41, Try.ntmps41
  go_wp2_with fail
  go_loopw [8] (fun c wr => ∃ i : Nat, i ≤ n ∧ c = .int .i64 i ∧ z ∉ L.take i ∧ wr = w) (fun c _ => n - (intOf c).toNat)
  case atStart => exact ⟨0, Nat.zero_le _, rfl, by simp, rfl⟩
  case round =>
    obtain ⟨i, hi, rfl, hall, rfl⟩ := hrel
    have HAll := Hid.mk hall
    clear hall
    by_cases hlt : i < n
    · have hltI : (i : Int) < (n : Int) := by omega
      obtain ⟨x, hx⟩ : ∃ x, L[i]? = some x := ⟨_, List.getElem?_eq_getElem (by rw [← HN.out]; exact hlt)⟩
      obtain ⟨g, off, rfl, _, _, hcell⟩ := H.out.get hx
      have q0 := getZ hcell
      rw [Nat.mul_one] at q0
      have HX := Hid.mk hx
      clear hx hcell
      by_cases e : z = x
      · subst e
        have HT : Hid (ans = true) := Hid.mk (by rw [HA.out]; exact decide_eq_true (List.mem_of_getElem? HX.out))
        go_wp2
        go_ret
        exact ⟨⟨_, rfl, by rw [HT.out]; simp⟩, rfl⟩
      · obtain ⟨e1, e2⟩ := not_both e
        have HA2 : Hid (z ∉ L.take (i + 1)) := Hid.mk (by
          rw [List.take_add_one, HX.out]
          intro h
          rcases List.mem_append.1 h with h | h
          · exact HAll.out h
          · simp at h; exact e h)
        clear e
        go_wp2
        go_roundw
        case rel => exact ⟨i + 1, by omega, by go_num, HA2.out, by trivial⟩
        case measure => simp [intOf]; omega
    · have hltI : ¬ (i : Int) < (n : Int) := by omega
      have HF : Hid (ans = false) := Hid.mk (by
        rw [HA.out]
        refine decide_eq_false (fun h => HAll.out ?_)
        rw [List.take_of_length_le (by rw [← HN.out]; omega)]
        exact h)
      go_wp2
      go_ret
      exact ⟨⟨_, rfl, by rw [HF.out]; rfl⟩, rfl⟩

set_option maxRecDepth 100000 in
set_option maxHeartbeats 2000000 in
theorem containsZ_any {S : Nat → Prop} {w : World} {v : Value} {L : List Int} (h : IntZ S w v L) (hl : L.length ≤ 9223372036854775806) (z : Int) :
    Calls Try.prog 25 #[v, .int .i64 z] w fun e w' => e = .returned (.bool (decide (z ∈ L))) ∧ w' = w := by
  have C := Hid.mk (indexZ_any h hl z)
  obtain ⟨ans, hans⟩ : ∃ a, a = decide (z ∈ L) := ⟨_, rfl⟩
  rw [← hans] at C ⊢
  clear h hl hans
  go_enter Try.func25, Try.ntmps25
  go_wp2_with fail
  refine C.out.mono ?_
  rintro e w1 ⟨⟨y, rfl, hy⟩, rfl⟩
  have HY := Hid.mk hy
  clear hy
  go_wp2
  go_ret
  exact ⟨by rw [← HY.out]; rfl, rfl⟩

set_option maxHeartbeats 4000000 in
set_option maxRecDepth 100000 in
theorem ends_any {S : Nat → Prop} {w : World} {m : Mu} (h : UOk S w m) (z : Int) :
    Calls Try.prog 9 #[encU m, .int .i64 z] w fun e w' => e = .returned (.bool (endsA m.au z)) ∧ Below w.heap.size w w' := by
  obtain ⟨wa, wc, fa, fc, la, lc, oa, oc, e1, e2, e3, e4⟩ := h.slices
  obtain ⟨b, hb⟩ : ∃ b, b = mayA m.au := ⟨_, rfl⟩
  obtain ⟨c, hc⟩ : ∃ b, b = decide (z ∈ m.ls) := ⟨_, rfl⟩
  have HM : Hid (∀ wr, Below w.heap.size w wr → Calls Try.prog 20 #[encU m] wr fun e w' => e = .returned (.bool b) ∧ Below wr.heap.size wr w') := Hid.mk (fun wr hb2 => by rw [hb]; exact mayBeA_any (h.below hb2))
  have HCO : Hid (∀ wr, Below w.heap.size w wr → Calls Try.prog 25 #[m.lv, .int .i64 z] wr fun e w' => e = .returned (.bool c) ∧ w' = wr) := Hid.mk (fun wr hb2 => by rw [hc]; exact containsZ_any (h.ls.below hb2) h.ll z)
  obtain ⟨R, hR⟩ : ∃ R, R = endsA m.au z := ⟨_, rfl⟩
  rw [← hR]
  have HR1 : Hid (b = false → R = false) := Hid.mk (fun h1 => by rw [hR]; exact ends_no (fun h2 => by rw [hb, h2.1] at h1; cases h1))
  have HR2 : Hid (b = true → z = -1 → R = m.em) := Hid.mk (fun h1 h2 => by
    rw [hR, ends_yes (hb.symm.trans h1) (by rw [h2, isPl]; simp; omega), if_pos (by omega)]
    rfl)
  have HR3 : Hid (b = true → z ≠ -1 → R = c) := Hid.mk (fun h1 h2 => by
    have hg := may_last (hb.symm.trans h1)
    cases hp : isPl m.au z with
    | true =>
      have hp2 := hp
      simp only [isPl, Bool.and_eq_true, decide_eq_true_eq] at hp2
      rw [hR, ends_yes (hb.symm.trans h1) hp, if_neg (by omega), hc]
      rfl
    | false =>
      rw [hR, ends_no (fun h3 => by rw [hp] at h3; cases h3.2), hc]
      refine (decide_eq_false (fun hin => ?_)).symm
      have := good_mem hg (x := z) hin
      have hp2 : isPl m.au z = true := by
        simp only [isPl, Bool.and_eq_true, decide_eq_true_eq]
        omega
      rw [hp] at hp2
      cases hp2)
  clear hR hb hc
  obtain ⟨wv, ws, fv, fs, lv, ls, ov, os, em⟩ := m
  dsimp only at e1 e2 e3 e4 HCO HR2
  subst e1 e2 e3 e4
  clear h
  have HM2 : Hid (∀ wr, Below w.heap.size w wr → Calls Try.prog 20 #[.agg #[.slice wa ws.length wc, .slice fa fs.length fc, .slice la ls.length lc, .slice oa os.length oc, .bool em]] wr fun e w' => e = .returned (.bool b) ∧ Below wr.heap.size wr w') := HM
  clear HM
  show Calls Try.prog _ #[.agg #[.slice wa ws.length wc, .slice fa fs.length fc, .slice la ls.length lc, .slice oa os.length oc, .bool em], _] w _
  obtain ⟨n, hn⟩ : ∃ n, n = ws.length := ⟨_, rfl⟩
  obtain ⟨no, hno⟩ : ∃ n, n = os.length := ⟨_, rfl⟩
  obtain ⟨nf, hnf⟩ : ∃ n, n = fs.length := ⟨_, rfl⟩
  obtain ⟨nl, hnl⟩ : ∃ n, n = ls.length := ⟨_, rfl⟩
  rw [← hn, ← hno, ← hnf, ← hnl] at HM2 ⊢
  rw [← hnl] at HCO
  obtain ⟨o, ho⟩ : ∃ o, o = Obj.cells #[.slice wa n wc, .slice fa nf fc, .slice la nl lc, .slice oa no oc, .bool em] 31 := ⟨_, rfl⟩
  have HOB := Hid.mk ho
  have HC : Hid (∀ wr, Below (w.alloc o).heap.size (w.alloc o) wr → wr.cell? ⟨w.heap.size, 2, none⟩ = some (.slice la nl lc) ∧ wr.cell? ⟨w.heap.size, 4, none⟩ = some (.bool em)) := Hid.mk (fun wr hb => by
    have h := box_keptQ hb
    rw [HOB.out] at h
    exact ⟨(cells5 h).2.2.1, (cells5 h).2.2.2.2⟩)
  have HB0 : Hid (Below (w.alloc o).heap.size (w.alloc o) (w.alloc (.cells #[.slice wa n wc, .slice fa nf fc, .slice la nl lc, .slice oa no oc, .bool em] 31))) := Hid.mk (by rw [HOB.out]; exact Below.refl _ _)
  clear ho hn hno hnf hnl
  cases b with
  | false =>
    have HX : Hid (R = false) := Hid.mk (HR1.out rfl)
    go_enter Try.func9, Try.ntmps9
    go_wp2_with fail
    refine (HM2.out _ (below_boxQ HB0.out)).mono ?_
    rintro e w1 ⟨rfl, hb1⟩
    have HB1 := Hid.mk (HB0.out.trans (hb1.mono HB0.out.size))
    clear hb1
    go_wp2
    go_ret
    exact ⟨by rw [HX.out]; rfl, below_boxQ HB1.out⟩
  | true =>
    by_cases hz : z = -1
    · have HX : Hid (R = em) := Hid.mk (HR2.out rfl hz)
      subst hz
      go_enter Try.func9, Try.ntmps9
      go_wp2_with fail
      refine (HM2.out _ (below_boxQ HB0.out)).mono ?_
      rintro e w1 ⟨rfl, hb1⟩
      have HB1 := Hid.mk (HB0.out.trans (hb1.mono HB0.out.size))
      obtain ⟨c2, c4⟩ := HC.out _ HB1.out
      clear hb1
      go_wp2
      go_ret
      exact ⟨by rw [HX.out]; rfl, below_boxQ HB1.out⟩
    · obtain ⟨e1, e2⟩ := not_both hz
      have HX : Hid (R = c) := Hid.mk (HR3.out rfl hz)
      clear hz
      go_enter Try.func9, Try.ntmps9
      go_wp2_with fail
      refine (HM2.out _ (below_boxQ HB0.out)).mono ?_
      rintro e w1 ⟨rfl, hb1⟩
      have HB1 := Hid.mk (HB0.out.trans (hb1.mono HB0.out.size))
      obtain ⟨c2, c4⟩ := HC.out _ HB1.out
      clear hb1
      go_wp2_with fail
      refine (HCO.out _ (below_boxQ HB1.out)).mono ?_
      rintro e w2 ⟨rfl, rfl⟩
      go_wp2
      go_ret
      exact ⟨by rw [HX.out]; rfl, below_boxQ HB1.out⟩
end Go.Proofs.Ythdnpddfdlhlaab
