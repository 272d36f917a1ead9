/- May of the document: which automata may be. -/
import Derived.Test.YthdnpddfdlhlaaaAAuto
namespace Go.Proofs.Ythdnpddfdlhlaaa
open Go.RowKit

theorem getTx {w : World} {g o : Nat} {s : List UInt8} (h : ∀ (c : Nat) u, (csT s)[c]? = some u → w.cell? ⟨g, o + c, none⟩ = some u) : w.cell? ⟨g, o, none⟩ = some (.string ⟨s.toArray⟩) := h 0 _ rfl
theorem getW {w : World} {g o : Nat} {p : Value × List Int} (h : ∀ (c : Nat) u, (csW p)[c]? = some u → w.cell? ⟨g, o + c, none⟩ = some u) : w.cell? ⟨g, o, none⟩ = some p.1 := h 0 _ rfl
theorem all_takeZ {α : Type} {f : α → Bool} {L : List α} {i : Nat} {x : α} (hx : L[i]? = some x) (h : (L.take i).all f = true) (hm : f x = true) : (L.take (i + 1)).all f = true := by
  rw [List.take_add_one, hx, List.all_append, h]
  simp [hm]
theorem all_notZ {α : Type} {f : α → Bool} {L : List α} {i : Nat} {x : α} (hx : L[i]? = some x) (hm : f x = false) : L.all f = false := by
  rw [List.all_eq_false]
  exact ⟨x, List.mem_of_getElem? hx, by rw [hm]; decide⟩
set_option maxHeartbeats 4000000 in
set_option maxRecDepth 100000 in
theorem rMay_any {S : Nat → Prop} {w : World} {m : Mu} (h : UOk S w m) :
    Calls Try.prog 15 #[encU m] w fun e w' => e = .returned (.bool (mayA m.au)) ∧ Below w.heap.size w w' := by
  obtain ⟨wa, wc, fa, fc, la, lc, oa, oc, e1, e2, e3, e4⟩ := h.slices
  obtain ⟨wv, ws, fv, fs, lv, ls, ov, os, em⟩ := m
  dsimp only at e1 e2 e3 e4
  subst e1 e2 e3 e4
  obtain ⟨ans, hans⟩ : ∃ a, a = mayA (Mu.au ⟨.slice wa ws.length wc, ws, .slice fa fs.length fc, fs, .slice la ls.length lc, ls, .slice oa os.length oc, os, em⟩) := ⟨_, rfl⟩
  rw [← hans]
  obtain ⟨os2, hos2⟩ : ∃ l, l = os.map (·.2) := ⟨_, rfl⟩
  have HA : Hid (ans = (decide (ws.length ≤ 24) && decide (os2.length = ws.length) && goodL ws.length fs && goodL ws.length ls && ws.all isW && os2.all (goodL ws.length))) := Hid.mk (by rw [hans, hos2]; rfl)
  have HO2 := Hid.mk hos2
  clear hans hos2
  have HWB := Hid.mk h.wb
  have HFL := Hid.mk h.fl
  have HLL := Hid.mk h.ll
  have HW := Hid.mk h.ws
  have HF := Hid.mk h.fs
  have HL := Hid.mk h.ls
  have HO := Hid.mk h.os
  have HOK := Hid.mk h.ok
  have hwl := h.wl
  have hol := h.ol
  dsimp only at HWB HFL HLL HW HF HL HO HOK hwl hol
  clear h
  have hol2 : os2.length = os.length := by rw [HO2.out, List.length_map]
  show Calls Try.prog _ #[.agg #[.slice wa ws.length wc, .slice fa fs.length fc, .slice la ls.length lc, .slice oa os.length oc, .bool em]] w _
  obtain ⟨n, hn⟩ : ∃ n, n = ws.length := ⟨_, rfl⟩
  obtain ⟨no, hno⟩ : ∃ n, n = os.length := ⟨_, rfl⟩
  obtain ⟨gf, hgf⟩ : ∃ b, b = goodL n fs := ⟨_, rfl⟩
  obtain ⟨gl, hgl⟩ : ∃ b, b = goodL n ls := ⟨_, rfl⟩
  have HGF : Hid (∀ wr, Below w.heap.size w wr → Calls Try.prog 37 #[.slice fa fs.length fc, .int .i64 (n : Int)] wr fun e w' => e = .returned (.bool gf) ∧ Below wr.heap.size wr w') := Hid.mk (fun wr hb => by rw [hgf]; exact rGood_any (HF.out.below hb) HFL.out n)
  have HGL : Hid (∀ wr, Below w.heap.size w wr → Calls Try.prog 37 #[.slice la ls.length lc, .int .i64 (n : Int)] wr fun e w' => e = .returned (.bool gl) ∧ Below wr.heap.size wr w') := Hid.mk (fun wr hb => by rw [hgl]; exact rGood_any (HL.out.below hb) HLL.out n)
  rw [← hn, hol2, ← hno, ← hgf, ← hgl] at HA
  rw [← hn] at HW hwl ⊢
  rw [← hno] at HO hol ⊢
  have HN := Hid.mk hn
  have HNO := Hid.mk hno
  obtain ⟨nf, hnf⟩ : ∃ n, n = fs.length := ⟨_, rfl⟩
  obtain ⟨nl, hnl⟩ : ∃ n, n = ls.length := ⟨_, rfl⟩
  rw [← hnf] at HGF ⊢
  rw [← hnl] at HGL ⊢
  obtain ⟨o, ho⟩ : ∃ o, o = Obj.cells #[.slice wa n wc, .slice fa nf fc, .slice la nl lc, .slice oa no oc, .bool em] 31 := ⟨_, rfl⟩
  have HOB := Hid.mk ho
  have HC : Hid (∀ wr, Below (w.alloc o).heap.size (w.alloc o) wr → wr.cell? ⟨w.heap.size, 0, none⟩ = some (.slice wa n wc) ∧ wr.cell? ⟨w.heap.size, 1, none⟩ = some (.slice fa nf fc) ∧ wr.cell? ⟨w.heap.size, 2, none⟩ = some (.slice la nl lc) ∧ wr.cell? ⟨w.heap.size, 3, none⟩ = some (.slice oa no oc)) := Hid.mk (fun wr hb => by
    have h := box_keptQ hb
    rw [HOB.out] at h
    exact ⟨(cells5 h).1, (cells5 h).2.1, (cells5 h).2.2.1, (cells5 h).2.2.2.1⟩)
  have HB0 : Hid (Below (w.alloc o).heap.size (w.alloc o) (w.alloc (.cells #[.slice wa n wc, .slice fa nf fc, .slice la nl lc, .slice oa no oc, .bool em] 31))) := Hid.mk (by rw [HOB.out]; exact Below.refl _ _)
  clear ho hn hno hgf hgl hnf hnl hol2
  by_cases h24 : 24 < n
  · have h24I : (24 : Int) < (n : Int) := by omega
    have HX : Hid (ans = false) := Hid.mk (by rw [HA.out, decide_eq_false (show ¬ n ≤ 24 by omega)]; rfl)
    clear h24
    go_enter Try.func15, Try.ntmps15
    go_wp2
    go_ret
    exact ⟨by rw [HX.out]; rfl, below_boxQ HB0.out⟩
  · have h24I : ¬ (24 : Int) < (n : Int) := by omega
    by_cases hno : no = n
    · subst hno
      cases gf with
      | false =>
        have HX : Hid (ans = false) := Hid.mk (by rw [HA.out]; simp)
        go_enter Try.func15, Try.ntmps15
        go_wp2_with fail
        refine (HGF.out _ (below_boxQ HB0.out)).mono ?_
        rintro e w1 ⟨rfl, hb1⟩
        have HB1 := Hid.mk (HB0.out.trans (hb1.mono HB0.out.size))
        clear hb1
        go_wp2
        go_ret
        exact ⟨by rw [HX.out]; rfl, below_boxQ HB1.out⟩
      | true =>
        cases gl with
        | false =>
          have HX : Hid (ans = false) := Hid.mk (by rw [HA.out]; simp)
          go_enter Try.func15, Try.ntmps15
          go_wp2_with fail
          refine (HGF.out _ (below_boxQ HB0.out)).mono ?_
          rintro e w1 ⟨rfl, hb1⟩
          have HB1 := Hid.mk (HB0.out.trans (hb1.mono HB0.out.size))
          obtain ⟨c0, c1, c2, c3⟩ := HC.out _ HB1.out
          clear hb1
          go_wp2_with fail
          refine (HGL.out _ (below_boxQ HB1.out)).mono ?_
          rintro e w2 ⟨rfl, hb2⟩
          have HB2 := Hid.mk (HB1.out.trans (hb2.mono HB1.out.size))
          clear hb2 c0 c1 c2 c3
          go_wp2
          go_ret
          exact ⟨by rw [HX.out]; rfl, below_boxQ HB2.out⟩
        | true =>
          have HX : Hid (ans = (ws.all isW && os2.all (goodL no))) := Hid.mk (by rw [HA.out, decide_eq_true (show no ≤ 24 by omega)]; simp)
          go_enter Try.func15, Try.ntmps15
          go_wp2_with fail
          refine (HGF.out _ (below_boxQ HB0.out)).mono ?_
          rintro e w1 ⟨rfl, hb1⟩
          have HB1 := Hid.mk (HB0.out.trans (hb1.mono HB0.out.size))
          obtain ⟨c0, c1, c2, c3⟩ := HC.out _ HB1.out
          clear hb1
          go_wp2_with fail
          refine (HGL.out _ (below_boxQ HB1.out)).mono ?_
          rintro e w2 ⟨rfl, hb2⟩
          have HB2 := Hid.mk (HB1.out.trans (hb2.mono HB1.out.size))
          clear hb2 c0 c1 c2 c3
          go_wp2_with fail
          go_loopw [4] (fun c wr => ∃ i : Nat, i ≤ no ∧ c = .int .i64 i ∧ (ws.take i).all isW = true ∧ (os2.take i).all (goodL no) = true ∧ Below (w.alloc o).heap.size (w.alloc o) wr) (fun c _ => no - (intOf c).toNat)
          case atStart => exact ⟨0, Nat.zero_le _, rfl, by simp, by simp, HB2.out⟩
          case round =>
            obtain ⟨i, hi, rfl, ha1, ha2, hbq⟩ := hrel
            have HA1 := Hid.mk ha1
            have HA2 := Hid.mk ha2
            have HBQ := Hid.mk hbq
            obtain ⟨c0, c1, c2, c3⟩ := HC.out _ hbq
            clear ha1 ha2 hbq
            by_cases hlt : i < no
            · have hltI : (i : Int) < (no : Int) := by omega
              obtain ⟨x, hx⟩ : ∃ x, ws[i]? = some x := ⟨_, List.getElem?_eq_getElem (by rw [← HN.out]; exact hlt)⟩
              obtain ⟨y, hy⟩ : ∃ y, os[i]? = some y := ⟨_, List.getElem?_eq_getElem (by rw [← HNO.out]; exact hlt)⟩
              obtain ⟨g1, o1, rfl, _, _, hcell⟩ := (HW.out.below (below_boxQ HBQ.out)).get hx
              have p0 := getTx hcell
              rw [Nat.mul_one] at p0
              obtain ⟨g2, o2, rfl, _, _, hcell2⟩ := (HO.out.below (below_boxQ HBQ.out)).get hy
              have p1 := getW hcell2
              rw [Nat.mul_one] at p1
              have HX1 := Hid.mk hx
              have HY1 : Hid (os2[i]? = some y.2) := Hid.mk (by rw [HO2.out, List.getElem?_map, hy]; rfl)
              have HI := Hid.mk (isQR_any x wr (HWB.out x (List.mem_of_getElem? hx)))
              have HG := Hid.mk (fun wq hb => rGood_any ((HOK.out y (List.mem_of_getElem? hy)).1.below (w' := wq) hb) (HOK.out y (List.mem_of_getElem? hy)).2 no)
              obtain ⟨ya, yc, hyv⟩ := (HOK.out y (List.mem_of_getElem? hy)).1.slice
              obtain ⟨yn, hyn⟩ : ∃ n, n = y.2.length := ⟨_, rfl⟩
              rw [← hyn] at hyv
              obtain ⟨mx, hmx⟩ : ∃ b, b = isW x := ⟨_, rfl⟩
              obtain ⟨my, hmy⟩ : ∃ b, b = goodL no y.2 := ⟨_, rfl⟩
              rw [← hmx] at HI
              rw [← hmy, hyv] at HG
              rw [hyv] at p1
              have HMX := Hid.mk hmx
              have HMY := Hid.mk hmy
              clear hx hy hcell hcell2 hmx hmy hyn hyv
              cases mx with
              | false =>
                have HZ : Hid (ans = false) := Hid.mk (by rw [HX.out, all_notZ HX1.out HMX.out.symm]; rfl)
                go_wp2_with fail
                refine HI.out.mono ?_
                rintro e w3 ⟨rfl, hw3⟩
                subst hw3
                go_wp2
                go_ret
                exact ⟨by rw [HZ.out]; rfl, below_boxQ HBQ.out⟩
              | true =>
                cases my with
                | false =>
                  have HZ : Hid (ans = false) := Hid.mk (by rw [HX.out, all_notZ HY1.out HMY.out.symm, Bool.and_false])
                  go_wp2_with fail
                  refine HI.out.mono ?_
                  rintro e w3 ⟨rfl, hw3⟩
                  subst hw3
                  go_wp2_with fail
                  refine (HG.out _ (below_boxQ HBQ.out)).mono ?_
                  rintro e w4 ⟨rfl, hb4⟩
                  have HB4 := Hid.mk (HBQ.out.trans (hb4.mono HBQ.out.size))
                  clear hb4 c0 c1 c2 c3 p0 p1
                  go_wp2
                  go_ret
                  exact ⟨by rw [HZ.out]; rfl, below_boxQ HB4.out⟩
                | true =>
                  have HQ1 := Hid.mk (all_takeZ HX1.out HA1.out HMX.out.symm)
                  have HQ2 := Hid.mk (all_takeZ HY1.out HA2.out HMY.out.symm)
                  go_wp2_with fail
                  refine HI.out.mono ?_
                  rintro e w3 ⟨rfl, hw3⟩
                  subst hw3
                  go_wp2_with fail
                  refine (HG.out _ (below_boxQ HBQ.out)).mono ?_
                  rintro e w4 ⟨rfl, hb4⟩
                  have HB4 := Hid.mk (HBQ.out.trans (hb4.mono HBQ.out.size))
                  clear hb4 c0 c1 c2 c3 p0 p1
                  go_wp2
                  go_roundw
                  case rel => exact ⟨i + 1, by omega, by go_num, HQ1.out, HQ2.out, HB4.out⟩
                  case measure => simp [intOf]; omega
            · have hltI : ¬ (i : Int) < (no : Int) := by omega
              have HZ : Hid (ans = true) := Hid.mk (by
                have h1 := HA1.out
                have h2 := HA2.out
                rw [List.take_of_length_le (by rw [← HN.out]; omega)] at h1
                rw [List.take_of_length_le (by rw [HO2.out, List.length_map, ← HNO.out]; omega)] at h2
                rw [HX.out, h1, h2]; rfl)
              go_wp2
              go_ret
              exact ⟨by rw [HZ.out]; rfl, below_boxQ HBQ.out⟩
    · have hd : ((no : Int) != (n : Int)) = true := by simp; omega
      have HX : Hid (ans = false) := Hid.mk (by rw [HA.out, decide_eq_false hno]; simp)
      clear hno
      go_enter Try.func15, Try.ntmps15
      go_wp2
      go_ret
      exact ⟨by rw [HX.out]; rfl, below_boxQ HB0.out⟩
end Go.Proofs.Ythdnpddfdlhlaaa
