/- Ends of the document: may words end at a place? -/
import Derived.Test.YthdnpddfdlhlaaaANext
namespace Go.Proofs.Ythdnpddfdlhlaaa
open Go.RowKit

theorem ends_no {a : Au} {z : Int} (h : ¬ (mayA a = true ∧ isPl a z = true)) : endsA a z = false := by
  unfold endsA
  cases h1 : mayA a
  · rfl
  · cases h2 : isPl a z
    · rfl
    · exact absurd ⟨h1, h2⟩ h
theorem ends_yes {a : Au} {z : Int} (h : mayA a = true) (hp : isPl a z = true) : endsA a z = if z < 0 then a.empty else decide (z ∈ a.last) := by
  unfold endsA
  rw [h, hp]
  rfl
set_option maxHeartbeats 4000000 in
set_option maxRecDepth 100000 in
theorem rEnds_any {S : Nat → Prop} {w : World} {m : Mu} (h : UOk S w m) (z : Int) :
    Calls Try.prog 19 #[encU m, .int .i64 z] w fun e w' => e = .returned (.bool (endsA m.au z)) ∧ Below w.heap.size w w' := by
  obtain ⟨wa, wc, fa, fc, la, lc, oa, oc, e1, e2, e3, e4⟩ := h.slices
  obtain ⟨b, hb⟩ : ∃ b, b = mayA m.au := ⟨_, rfl⟩
  have HM : Hid (∀ wr, Below w.heap.size w wr → Calls Try.prog 15 #[encU m] wr fun e w' => e = .returned (.bool b) ∧ Below wr.heap.size wr w') := Hid.mk (fun wr hb2 => by rw [hb]; exact rMay_any (h.below hb2))
  obtain ⟨R, hR⟩ : ∃ R, R = endsA m.au z := ⟨_, rfl⟩
  rw [← hR]
  have HR := Hid.mk hR
  have HB := Hid.mk hb
  clear hR hb
  obtain ⟨wv, ws, fv, fs, lv, ls, ov, os, em⟩ := m
  dsimp only at e1 e2 e3 e4
  subst e1 e2 e3 e4
  have HL := Hid.mk h.ls
  have HLL := Hid.mk h.ll
  have hwl := h.wl
  dsimp only at HL HLL hwl
  clear h
  obtain ⟨n, hn⟩ : ∃ n, n = ws.length := ⟨_, rfl⟩
  obtain ⟨no, hno⟩ : ∃ n, n = os.length := ⟨_, rfl⟩
  obtain ⟨nf, hnf⟩ : ∃ n, n = fs.length := ⟨_, rfl⟩
  obtain ⟨nl, hnl⟩ : ∃ n, n = ls.length := ⟨_, rfl⟩
  have HAU : Hid (Mu.au ⟨.slice wa ws.length wc, ws, .slice fa fs.length fc, fs, .slice la ls.length lc, ls, .slice oa os.length oc, os, em⟩ = ⟨ws, fs, ls, os.map (·.2), em⟩) := Hid.mk rfl
  rw [HAU.out] at HB HR
  clear HAU
  have HM2 : Hid (∀ wr, Below w.heap.size w wr → Calls Try.prog 15 #[.agg #[.slice wa ws.length wc, .slice fa fs.length fc, .slice la ls.length lc, .slice oa os.length oc, .bool em]] wr fun e w' => e = .returned (.bool b) ∧ Below wr.heap.size wr w') := HM
  clear HM
  show Calls Try.prog _ #[.agg #[.slice wa ws.length wc, .slice fa fs.length fc, .slice la ls.length lc, .slice oa os.length oc, .bool em], _] w _
  rw [← hn, ← hno, ← hnf, ← hnl] at HM2 ⊢
  rw [← hn] at hwl
  rw [← hnl] at HL
  have HN := Hid.mk hn
  obtain ⟨o, ho⟩ : ∃ o, o = Obj.cells #[.slice wa n wc, .slice fa nf fc, .slice la nl lc, .slice oa no oc, .bool em] 31 := ⟨_, rfl⟩
  have HOB := Hid.mk ho
  have HC : Hid (∀ wr, Below (w.alloc o).heap.size (w.alloc o) wr → wr.cell? ⟨w.heap.size, 0, none⟩ = some (.slice wa n wc) ∧ wr.cell? ⟨w.heap.size, 2, none⟩ = some (.slice la nl lc) ∧ wr.cell? ⟨w.heap.size, 4, none⟩ = some (.bool em)) := Hid.mk (fun wr hb => by
    have h := box_keptQ hb
    rw [HOB.out] at h
    exact ⟨(cells5 h).1, (cells5 h).2.2.1, (cells5 h).2.2.2.2⟩)
  have HB0 : Hid (Below (w.alloc o).heap.size (w.alloc o) (w.alloc (.cells #[.slice wa n wc, .slice fa nf fc, .slice la nl lc, .slice oa no oc, .bool em] 31))) := Hid.mk (by rw [HOB.out]; exact Below.refl _ _)
  clear ho hn hno hnf hnl
  cases b with
  | false =>
    have HX : Hid (R = false) := Hid.mk (by rw [HR.out]; exact ends_no (fun h => by rw [← HB.out] at h; cases h.1))
    go_enter Try.func19, Try.ntmps19
    go_wp2_with fail
    refine (HM2.out _ (below_boxQ HB0.out)).mono ?_
    rintro e w1 ⟨rfl, hb1⟩
    have HB1 := Hid.mk (HB0.out.trans (hb1.mono HB0.out.size))
    clear hb1
    go_wp2
    go_ret
    exact ⟨by rw [HX.out]; rfl, below_boxQ HB1.out⟩
  | true =>
    by_cases hz1 : z < -1
    · have HX : Hid (R = false) := Hid.mk (by
        rw [HR.out]
        refine ends_no (fun h => ?_)
        have := h.2
        simp only [isPl, Bool.and_eq_true, decide_eq_true_eq] at this
        omega)
      go_enter Try.func19, Try.ntmps19
      go_wp2_with fail
      refine (HM2.out _ (below_boxQ HB0.out)).mono ?_
      rintro e w1 ⟨rfl, hb1⟩
      have HB1 := Hid.mk (HB0.out.trans (hb1.mono HB0.out.size))
      clear hb1
      go_wp2
      go_ret
      exact ⟨by rw [HX.out]; rfl, below_boxQ HB1.out⟩
    · by_cases hzn : (n : Int) ≤ z
      · have HX : Hid (R = false) := Hid.mk (by
          rw [HR.out]
          refine ends_no (fun h => ?_)
          have := h.2
          simp only [isPl, Bool.and_eq_true, decide_eq_true_eq] at this
          have := HN.out
          omega)
        go_enter Try.func19, Try.ntmps19
        go_wp2_with fail
        refine (HM2.out _ (below_boxQ HB0.out)).mono ?_
        rintro e w1 ⟨rfl, hb1⟩
        have HB1 := Hid.mk (HB0.out.trans (hb1.mono HB0.out.size))
        obtain ⟨c0, c2, c4⟩ := HC.out _ HB1.out
        clear hb1
        go_wp2
        go_ret
        exact ⟨by rw [HX.out]; rfl, below_boxQ HB1.out⟩
      · have HP : Hid (isPl ⟨ws, fs, ls, os.map (·.2), em⟩ z = true) := Hid.mk (by
          simp only [isPl, Bool.and_eq_true, decide_eq_true_eq]
          have := HN.out
          omega)
        have HRN := Hid.mk (HR.out.trans (ends_yes HB.out.symm HP.out))
        have h24 : n ≤ 24 := by have := (may_len HB.out.symm).1; rw [HN.out]; exact this
        by_cases hzs : z < 0
        · have hze : z = -1 := by omega
          subst hze
          have HX : Hid (R = em) := Hid.mk HRN.out
          clear hzs hzn hz1 HRN HP HR
          go_enter Try.func19, Try.ntmps19
          go_wp2_with fail
          refine (HM2.out _ (below_boxQ HB0.out)).mono ?_
          rintro e w1 ⟨rfl, hb1⟩
          have HB1 := Hid.mk (HB0.out.trans (hb1.mono HB0.out.size))
          obtain ⟨c0, c2, c4⟩ := HC.out _ HB1.out
          clear hb1
          go_wp2
          go_ret
          exact ⟨by rw [HX.out]; rfl, below_boxQ HB1.out⟩
        · obtain ⟨zn, hzn2⟩ : ∃ k : Nat, z = (k : Int) := ⟨z.toNat, by omega⟩
          subst hzn2
          have HX : Hid (R = decide ((zn : Int) ∈ ls)) := Hid.mk (by rw [HRN.out, if_neg hzs])
          have hznI : (zn : Int) < (n : Int) := by omega
          have hz00 : (0 : Int) ≤ (zn : Int) := by omega
          have hd1 : decide ((zn : Int) < -1) = false := decide_eq_false (by omega)
          have hd2 : decide (n ≤ zn) = false := decide_eq_false (by omega)
          have hd3 : ¬ n ≤ zn := by omega
          obtain ⟨q, hq⟩ : ∃ q, q = (riseI (zn + 1) ls).length := ⟨_, rfl⟩
          have HQ : Hid (q = 0 → R = false) := Hid.mk (fun h0 => by
            rw [HX.out]
            refine decide_eq_false (fun hm => ?_)
            have h1 : (zn : Int) ∈ riseI (zn + 1) ls := mem_riseI.2 ⟨⟨by omega, by omega⟩, hm⟩
            rw [List.length_eq_zero_iff.1 (hq.symm.trans h0)] at h1
            cases h1)
          have hqb : q ≤ 25 := by have := riseI_len (zn + 1) ls; omega
          have HRI : Hid (∀ wr, Below w.heap.size w wr → Calls Try.prog 34 #[.slice la nl lc, .int .i64 ((zn : Int) + 1)] wr fun e w' => ∃ ua uc, e = .returned (.slice ua q uc) ∧ Below wr.heap.size wr w') := Hid.mk (fun wr hb => by
            have := rising_any (HL.out.below hb) HLL.out (zn + 1) (by omega)
            rw [show ((zn : Int) + 1) = ((zn + 1 : Nat) : Int) by omega]
            refine this.mono ?_
            rintro e w' ⟨v', rfl, hrow, hbb⟩
            obtain ⟨ua, uc, hv⟩ := own_slice hrow
            exact ⟨ua, uc, by rw [hv, ← hq], hbb⟩)
          have HIN : Hid (∀ wr, Below w.heap.size w wr → Calls Try.prog 44 #[.slice la nl lc, .int .i64 (zn : Int)] wr fun e w' => e = .returned (.bool R) ∧ w' = wr) := Hid.mk (fun wr hb => by
            rw [HX.out]
            exact rIn_any (HL.out.below hb) HLL.out _)
          clear hzs hzn hz1 HRN HP HR hq
          by_cases hq0 : q = 0
          · have HX2 := Hid.mk (HQ.out hq0)
            subst hq0
            go_enter Try.func19, Try.ntmps19
            go_wp2_with fail
            refine (HM2.out _ (below_boxQ HB0.out)).mono ?_
            rintro e w1 ⟨rfl, hb1⟩
            have HB1 := Hid.mk (HB0.out.trans (hb1.mono HB0.out.size))
            obtain ⟨c0, c2, c4⟩ := HC.out _ HB1.out
            clear hb1
            go_wp2_with fail
            refine (HRI.out _ (below_boxQ HB1.out)).mono ?_
            rintro e w2 ⟨ua, uc, rfl, hb2⟩
            have HB2 := Hid.mk (HB1.out.trans (hb2.mono HB1.out.size))
            clear hb2 c0 c2 c4
            go_wp2
            go_ret
            exact ⟨by rw [HX2.out]; rfl, below_boxQ HB2.out⟩
          · have hq1 : (0 : Int) < (q : Int) := by omega
            have hq2 : 0 < q := by omega
            go_enter Try.func19, Try.ntmps19
            go_wp2_with fail
            refine (HM2.out _ (below_boxQ HB0.out)).mono ?_
            rintro e w1 ⟨rfl, hb1⟩
            have HB1 := Hid.mk (HB0.out.trans (hb1.mono HB0.out.size))
            obtain ⟨c0, c2, c4⟩ := HC.out _ HB1.out
            clear hb1
            go_wp2_with fail
            refine (HRI.out _ (below_boxQ HB1.out)).mono ?_
            rintro e w2 ⟨ua, uc, rfl, hb2⟩
            have HB2 := Hid.mk (HB1.out.trans (hb2.mono HB1.out.size))
            clear hb2 c0 c2 c4
            obtain ⟨c0, c2, c4⟩ := HC.out _ HB2.out
            go_wp2_with fail
            refine (HIN.out _ (below_boxQ HB2.out)).mono ?_
            rintro e w3 ⟨rfl, hw3⟩
            subst hw3
            go_wp2
            go_ret
            exact ⟨rfl, below_boxQ HB2.out⟩
end Go.Proofs.Ythdnpddfdlhlaaa
