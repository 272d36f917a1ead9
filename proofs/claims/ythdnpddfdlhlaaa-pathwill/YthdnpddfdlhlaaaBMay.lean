/- rises, mayBe, Check of the program: which automata may be. -/
import Derived.Test.YthdnpddfdlhlaaaBSet
import Derived.Test.YthdnpddfdlhlaaaAMay
namespace Go.Proofs.Ythdnpddfdlhlaaa
open Go.RowKit

set_option maxHeartbeats 2000000 in
set_option maxRecDepth 100000 in
theorem rises_any {S : Nat → Prop} {w : World} {v : Value} {L : List Int} (h : IntZ S w v L) (hl : L.length ≤ 9223372036854775806) (m : Nat) (hm : m ≤ 1000000) :
    Calls Try.prog 60 #[v, .int .i64 (m : Int)] w fun e w' => e = .returned (.bool (goodL m L)) ∧ w' = w := by
  obtain ⟨ao, cap, rfl⟩ := h.slice
  have H := Hid.mk h
  obtain ⟨n, hn⟩ : ∃ n, n = L.length := ⟨_, rfl⟩
  rw [← hn] at hl H ⊢
  have HN := Hid.mk hn
  obtain ⟨ans, hans⟩ : ∃ a, a = goodL m L := ⟨_, rfl⟩
  rw [← hans]
  have HA := Hid.mk hans
  clear h hn hans
  go_enter Try.func60, Try.ntmps60
  go_wp2_with fail
  go_loopw [5, 10] (fun s c wr => ∃ (i : Nat) (t : Int), i ≤ n ∧ c = .int .i64 i ∧ s = .int .i64 t ∧ 0 ≤ t ∧ t ≤ 1000000 ∧ t = lastD (-1) (L.take i) + 1 ∧ goodF m (-1) (L.take i) = true ∧ wr = w) (fun _ c _ => n - (intOf c).toNat)
  case atStart => exact ⟨0, 0, Nat.zero_le _, rfl, rfl, by omega, by omega, rfl, rfl, rfl⟩
  case round =>
    obtain ⟨i, t, hi, rfl, rfl, ht0, ht1, hte, hall, rfl⟩ := hrel
    have HAll := Hid.mk hall
    have HT := Hid.mk hte
    clear hall hte
    by_cases hlt : i < n
    · have hltI : (i : Int) < (n : Int) := by omega
      obtain ⟨z, hz⟩ : ∃ z, L[i]? = some z := ⟨_, List.getElem?_eq_getElem (by rw [← HN.out]; exact hlt)⟩
      obtain ⟨g, off, rfl, _, _, hcell⟩ := H.out.get hz
      have q0 := getZ hcell
      rw [Nat.mul_one] at q0
      have HZ := Hid.mk hz
      have HS : Hid (goodF m (-1) (L.take (i + 1)) = (decide (lastD (-1) (L.take i) < z) && decide (z < (m : Int)))) := Hid.mk (by
        rw [List.take_add_one, hz]
        show goodF m (-1) (L.take i ++ [z]) = _
        rw [goodF_snoc, HAll.out]; rfl)
      have HNO : Hid (goodF m (-1) (L.take (i + 1)) = false → ans = false) := Hid.mk (fun hf => by
        rw [HA.out]
        cases hg : goodL m L with
        | false => rfl
        | true =>
          have : goodF m (-1) (L.take (i + 1) ++ L.drop (i + 1)) = true := by rw [List.take_append_drop]; exact hg
          rw [goodF_part _ _ _ this] at hf
          cases hf)
      have HLD : Hid (lastD (-1) (L.take (i + 1)) = z) := Hid.mk (lastD_take i (-1) hz)
      clear hz hcell
      by_cases h0 : z < t
      · have HF : Hid (ans = false) := Hid.mk (HNO.out (by
          have := HT.out
          rw [HS.out, decide_eq_false (show ¬ lastD (-1) (L.take i) < z by omega)]; rfl))
        have d0 : decide (z < t) = true := decide_eq_true h0
        go_wp2
        go_ret
        exact ⟨by rw [HF.out]; rfl, rfl⟩
      · have d0 : decide (z < t) = false := decide_eq_false h0
        by_cases hm2 : (m : Int) ≤ z
        · have HF : Hid (ans = false) := Hid.mk (HNO.out (by
            rw [HS.out, decide_eq_false (show ¬ z < (m : Int) by omega), Bool.and_false]))
          have d1 : decide ((m : Int) ≤ z) = true := decide_eq_true hm2
          go_wp2
          go_ret
          exact ⟨by rw [HF.out]; rfl, rfl⟩
        · have d1 : decide ((m : Int) ≤ z) = false := decide_eq_false hm2
          have HG : Hid (goodF m (-1) (L.take (i + 1)) = true) := Hid.mk (by
            have := HT.out
            rw [HS.out, decide_eq_true (show z < (m : Int) by omega), decide_eq_true (show lastD (-1) (L.take i) < z by omega)]; rfl)
          go_wp2
          go_roundw
          case rel => exact ⟨i + 1, z + 1, by omega, by go_num, by go_num, by omega, by omega, by rw [HLD.out], HG.out, by trivial⟩
          case measure => simp [intOf]; omega
    · have hltI : ¬ (i : Int) < (n : Int) := by omega
      have HG : Hid (ans = true) := Hid.mk (by
        rw [HA.out]
        have := HAll.out
        rw [List.take_of_length_le (by rw [← HN.out]; omega)] at this
        exact this)
      go_wp2
      go_ret
      exact ⟨by rw [HG.out]; rfl, rfl⟩

set_option maxHeartbeats 4000000 in
set_option maxRecDepth 100000 in
theorem mayBeA_any {S : Nat → Prop} {w : World} {m : Mu} (h : UOk S w m) :
    Calls Try.prog 36 #[encU m] w fun e w' => e = .returned (.bool (mayA m.au)) ∧ Below w.heap.size w w' := by
  obtain ⟨wa, wc, fa, fc, la, lc, oa, oc, e1, e2, e3, e4⟩ := h.slices
  obtain ⟨wv, ws, fv, fs, lv, ls, ov, os, em⟩ := m
  dsimp only at e1 e2 e3 e4
  subst e1 e2 e3 e4
  obtain ⟨ans, hans⟩ : ∃ a, a = mayA (Mu.au ⟨.slice wa ws.length wc, ws, .slice fa fs.length fc, fs, .slice la ls.length lc, ls, .slice oa os.length oc, os, em⟩) := ⟨_, rfl⟩
  rw [← hans]
  obtain ⟨os2, hos2⟩ : ∃ l, l = os.map (·.2) := ⟨_, rfl⟩
  have HA : Hid (ans = (decide (ws.length ≤ 24) && decide (os2.length = ws.length) && goodL ws.length fs && goodL ws.length ls && ws.all isW && os2.all (goodL ws.length))) := Hid.mk (by rw [hans, hos2]; rfl)
  have HO2 := Hid.mk hos2
  clear hans hos2
  have HFL := Hid.mk h.fl
  have HLL := Hid.mk h.ll
  have HW := Hid.mk h.ws
  have HF := Hid.mk h.fs
  have HL := Hid.mk h.ls
  have HO := Hid.mk h.os
  have HOK := Hid.mk h.ok
  have hwl := h.wl
  have hol := h.ol
  dsimp only at HFL HLL HW HF HL HO HOK hwl hol
  clear h
  have hol2 : os2.length = os.length := by rw [HO2.out, List.length_map]
  show Calls Try.prog _ #[.agg #[.slice wa ws.length wc, .slice fa fs.length fc, .slice la ls.length lc, .slice oa os.length oc, .bool em]] w _
  obtain ⟨n, hn⟩ : ∃ n, n = ws.length := ⟨_, rfl⟩
  obtain ⟨no, hno⟩ : ∃ n, n = os.length := ⟨_, rfl⟩
  obtain ⟨gf, hgf⟩ : ∃ b, b = goodL n fs := ⟨_, rfl⟩
  obtain ⟨gl, hgl⟩ : ∃ b, b = goodL n ls := ⟨_, rfl⟩
  have HGF : Hid (n ≤ 24 → ∀ wr, Below w.heap.size w wr → Calls Try.prog 60 #[.slice fa fs.length fc, .int .i64 (n : Int)] wr fun e w' => e = .returned (.bool gf) ∧ w' = wr) := Hid.mk (fun h24 wr hb => by rw [hgf]; exact rises_any (HF.out.below hb) HFL.out n (by omega))
  have HGL : Hid (n ≤ 24 → ∀ wr, Below w.heap.size w wr → Calls Try.prog 60 #[.slice la ls.length lc, .int .i64 (n : Int)] wr fun e w' => e = .returned (.bool gl) ∧ w' = wr) := Hid.mk (fun h24 wr hb => by rw [hgl]; exact rises_any (HL.out.below hb) HLL.out n (by omega))
  rw [← hn, hol2, ← hno, ← hgf, ← hgl] at HA
  rw [← hn] at HW hwl ⊢
  rw [← hno] at HO hol ⊢
  have HN := Hid.mk hn
  have HNO := Hid.mk hno
  obtain ⟨nf, hnf⟩ : ∃ n, n = fs.length := ⟨_, rfl⟩
  obtain ⟨nl, hnl⟩ : ∃ n, n = ls.length := ⟨_, rfl⟩
  rw [← hnf] at HGF ⊢
  rw [← hnl] at HGL ⊢
  obtain ⟨o, ho⟩ : ∃ o, o = Obj.cells #[.slice wa n wc, .slice fa nf fc, .slice la nl lc, .slice oa no oc, .bool em] 31 := ⟨_, rfl⟩
  have HOB := Hid.mk ho
  have HC : Hid (∀ wr, Below (w.alloc o).heap.size (w.alloc o) wr → wr.cell? ⟨w.heap.size, 0, none⟩ = some (.slice wa n wc) ∧ wr.cell? ⟨w.heap.size, 1, none⟩ = some (.slice fa nf fc) ∧ wr.cell? ⟨w.heap.size, 2, none⟩ = some (.slice la nl lc) ∧ wr.cell? ⟨w.heap.size, 3, none⟩ = some (.slice oa no oc)) := Hid.mk (fun wr hb => by
    have h := box_keptQ hb
    rw [HOB.out] at h
    exact ⟨(cells5 h).1, (cells5 h).2.1, (cells5 h).2.2.1, (cells5 h).2.2.2.1⟩)
  have HB0 : Hid (Below (w.alloc o).heap.size (w.alloc o) (w.alloc (.cells #[.slice wa n wc, .slice fa nf fc, .slice la nl lc, .slice oa no oc, .bool em] 31))) := Hid.mk (by rw [HOB.out]; exact Below.refl _ _)
  clear ho hn hno hgf hgl hnf hnl hol2
  by_cases h24 : 24 < n
  · have h24I : (24 : Int) < (n : Int) := by omega
    have HX : Hid (ans = false) := Hid.mk (by rw [HA.out, decide_eq_false (show ¬ n ≤ 24 by omega)]; rfl)
    clear h24
    go_enter Try.func36, Try.ntmps36
    go_wp2
    go_ret
    exact ⟨by rw [HX.out]; rfl, below_boxQ HB0.out⟩
  · have h24I : ¬ (24 : Int) < (n : Int) := by omega
    have hn24 : n ≤ 24 := by omega
    by_cases hno : no = n
    · subst hno
      cases gf with
      | false =>
        have HX : Hid (ans = false) := Hid.mk (by rw [HA.out]; simp)
        go_enter Try.func36, Try.ntmps36
        go_wp2_with fail
        refine (HGF.out hn24 _ (below_boxQ HB0.out)).mono ?_
        rintro e w1 ⟨rfl, rfl⟩
        go_wp2
        go_ret
        exact ⟨by rw [HX.out]; rfl, below_boxQ HB0.out⟩
      | true =>
        cases gl with
        | false =>
          have HX : Hid (ans = false) := Hid.mk (by rw [HA.out]; simp)
          go_enter Try.func36, Try.ntmps36
          go_wp2_with fail
          refine (HGF.out hn24 _ (below_boxQ HB0.out)).mono ?_
          rintro e w1 ⟨rfl, rfl⟩
          go_wp2_with fail
          refine (HGL.out hn24 _ (below_boxQ HB0.out)).mono ?_
          rintro e w2 ⟨rfl, rfl⟩
          go_wp2
          go_ret
          exact ⟨by rw [HX.out]; rfl, below_boxQ HB0.out⟩
        | true =>
          have HX : Hid (ans = (ws.all isW && os2.all (goodL no))) := Hid.mk (by rw [HA.out, decide_eq_true (show no ≤ 24 by omega)]; simp)
          go_enter Try.func36, Try.ntmps36
          go_wp2_with fail
          refine (HGF.out hn24 _ (below_boxQ HB0.out)).mono ?_
          rintro e w1 ⟨rfl, rfl⟩
          go_wp2_with fail
          refine (HGL.out hn24 _ (below_boxQ HB0.out)).mono ?_
          rintro e w2 ⟨rfl, rfl⟩
          go_wp2_with fail
          go_loopw [35] (fun c wr => ∃ i : Nat, i ≤ no ∧ c = .int .i64 i ∧ (ws.take i).all isW = true ∧ (os2.take i).all (goodL no) = true ∧ Below (w.alloc o).heap.size (w.alloc o) wr) (fun c _ => no - (intOf c).toNat)
          case atStart => exact ⟨0, Nat.zero_le _, rfl, by simp, by simp, HB0.out⟩
          case round =>
            obtain ⟨i, hi, rfl, ha1, ha2, hbq⟩ := hrel
            have HA1 := Hid.mk ha1
            have HA2 := Hid.mk ha2
            have HBQ := Hid.mk hbq
            obtain ⟨c0, c1, c2, c3⟩ := HC.out _ hbq
            clear ha1 ha2 hbq
            by_cases hlt : i < no
            · have hltI : (i : Int) < (no : Int) := by omega
              obtain ⟨x, hx⟩ : ∃ x, ws[i]? = some x := ⟨_, List.getElem?_eq_getElem (by rw [← HN.out]; exact hlt)⟩
              obtain ⟨p, hp⟩ : ∃ p, os[i]? = some p := ⟨_, List.getElem?_eq_getElem (by rw [← HNO.out]; exact hlt)⟩
              obtain ⟨pv, pl⟩ := p
              obtain ⟨g, off, rfl, _, _, hcell⟩ := (HW.out.below (below_boxQ HBQ.out)).get hx
              have q0 := getTx hcell
              rw [Nat.mul_one] at q0
              obtain ⟨g2, off2, rfl, _, _, hcell2⟩ := (HO.out.below (below_boxQ HBQ.out)).get hp
              have q1 := getW hcell2
              rw [Nat.mul_one] at q1
              obtain ⟨hpz, hpl⟩ := HOK.out _ (List.mem_of_getElem? hp)
              dsimp only at q1 hpz hpl
              obtain ⟨pa, pc, rfl⟩ := hpz.slice
              have HP2 : Hid (os2[i]? = some pl) := Hid.mk (by rw [HO2.out, List.getElem?_map, hp]; rfl)
              have HX2 := Hid.mk hx
              have CW := Hid.mk (fun u => isQ_any x u)
              have CR := Hid.mk (fun u (hu : Below w.heap.size w u) => rises_any (hpz.below hu) hpl no (by omega))
              obtain ⟨np, hnp⟩ : ∃ n, n = pl.length := ⟨_, rfl⟩
              rw [← hnp] at CR q1
              clear hx hp hcell hcell2 hpz hpl hnp
              cases hw : isW x with
              | false =>
                rw [hw] at CW
                have HF : Hid (ans = false) := Hid.mk (by rw [HX.out, all_notZ HX2.out hw]; rfl)
                go_wp2_with fail
                refine (CW.out _).mono ?_
                rintro e w3 ⟨rfl, rfl⟩
                go_wp2
                go_ret
                exact ⟨by rw [HF.out]; rfl, below_boxQ HBQ.out⟩
              | true =>
                rw [hw] at CW
                cases hg : goodL no pl with
                | false =>
                  rw [hg] at CR
                  have HF : Hid (ans = false) := Hid.mk (by rw [HX.out, all_notZ HP2.out hg, Bool.and_false])
                  go_wp2_with fail
                  refine (CW.out _).mono ?_
                  rintro e w3 ⟨rfl, rfl⟩
                  go_wp2_with fail
                  refine (CR.out _ (below_boxQ HBQ.out)).mono ?_
                  rintro e w3 ⟨rfl, rfl⟩
                  go_wp2
                  go_ret
                  exact ⟨by rw [HF.out]; rfl, below_boxQ HBQ.out⟩
                | true =>
                  rw [hg] at CR
                  have HA3 : Hid ((ws.take (i + 1)).all isW = true) := Hid.mk (all_takeZ HX2.out HA1.out hw)
                  have HA4 : Hid ((os2.take (i + 1)).all (goodL no) = true) := Hid.mk (all_takeZ HP2.out HA2.out hg)
                  clear hw hg
                  go_wp2_with fail
                  refine (CW.out _).mono ?_
                  rintro e w3 ⟨rfl, rfl⟩
                  go_wp2_with fail
                  refine (CR.out _ (below_boxQ HBQ.out)).mono ?_
                  rintro e w3 ⟨rfl, rfl⟩
                  go_wp2
                  go_roundw
                  case rel => exact ⟨i + 1, by omega, by go_num, HA3.out, HA4.out, HBQ.out⟩
                  case measure => simp [intOf]; omega
            · have hltI : ¬ (i : Int) < (no : Int) := by omega
              have HF : Hid (ans = true) := Hid.mk (by
                have a1 := HA1.out
                have a2 := HA2.out
                rw [List.take_of_length_le (by rw [← HN.out]; omega)] at a1
                rw [List.take_of_length_le (by rw [HO2.out, List.length_map, ← HNO.out]; omega)] at a2
                rw [HX.out, a1, a2]; rfl)
              go_wp2
              go_ret
              exact ⟨by rw [HF.out]; rfl, below_boxQ HBQ.out⟩
    · obtain ⟨e1, e2⟩ := not_both (a := (no : Int)) (b := (n : Int)) (by omega)
      have HX : Hid (ans = false) := Hid.mk (by rw [HA.out, decide_eq_false hno]; simp)
      clear hno
      go_enter Try.func36, Try.ntmps36
      go_wp2
      go_ret
      exact ⟨by rw [HX.out]; rfl, below_boxQ HB0.out⟩

set_option maxRecDepth 100000 in
set_option maxHeartbeats 1000000 in
theorem checkA_any {S : Nat → Prop} {w : World} {m : Mu} (h : UOk S w m) :
    Calls Try.prog 14 #[encU m] w fun e w' => e = .returned (.int .i64 (if mayA m.au = true then 0 else 1)) ∧ Below w.heap.size w w' := by
  have HB : Hid (∀ a : Obj, Below w.heap.size w (w.alloc a)) := Hid.mk (fun a => (Below.refl _ _).alloc (Nat.le_refl _) _)
  have HM := Hid.mk (fun u (hu : Below w.heap.size w u) => mayBeA_any (h.below hu))
  obtain ⟨wa, wc, fa, fc, la, lc, oa, oc, e1, e2, e3, e4⟩ := h.slices
  obtain ⟨b, hb⟩ : ∃ m2, m2 = mayA m.au := ⟨_, rfl⟩
  rw [← hb] at HM ⊢
  obtain ⟨wv, ws, fv, fs, lv, ls, ov, os, em⟩ := m
  dsimp only at e1 e2 e3 e4 HM
  subst e1 e2 e3 e4
  clear h hb
  cases b with
  | true =>
    go_enter Try.func14, Try.ntmps14
    go_wp2_with fail
    refine (HM.out _ (HB.out _)).mono ?_
    rintro e w2 ⟨rfl, hb2⟩
    go_wp2
    go_ret
    exact ⟨rfl, (HB.out _).trans (hb2.mono (by simp))⟩
  | false =>
    go_enter Try.func14, Try.ntmps14
    go_wp2_with fail
    refine (HM.out _ (HB.out _)).mono ?_
    rintro e w2 ⟨rfl, hb2⟩
    go_wp2
    go_ret
    exact ⟨rfl, (HB.out _).trans (hb2.mono (by simp))⟩
end Go.Proofs.Ythdnpddfdlhlaaa
