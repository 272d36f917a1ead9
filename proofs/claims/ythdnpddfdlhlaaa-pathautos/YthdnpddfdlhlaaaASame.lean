/- Same of the document: are automata the same? -/
import Derived.Test.YthdnpddfdlhlaaaAEnds
namespace Go.Proofs.Ythdnpddfdlhlaaa
open Go.RowKit

def sameA (a b : Au) : Bool := decide (a.words = b.words) && decide (a.first = b.first) && decide (a.last = b.last) && decide (a.follow = b.follow) && decide (a.empty = b.empty)
theorem sameA_iff (a b : Au) : sameA a b = true ↔ a = b := by
  obtain ⟨a1, a2, a3, a4, a5⟩ := a
  obtain ⟨b1, b2, b3, b4, b5⟩ := b
  simp only [sameA, Bool.and_eq_true, decide_eq_true_eq, Au.mk.injEq]
  constructor
  · rintro ⟨⟨⟨⟨h1, h2⟩, h3⟩, h4⟩, h5⟩
    exact ⟨h1, h2, h3, h4, h5⟩
  · rintro ⟨h1, h2, h3, h4, h5⟩
    exact ⟨⟨⟨⟨h1, h2⟩, h3⟩, h4⟩, h5⟩
theorem ext_take {α : Type} {L1 L2 : List α} (hl : L1.length = L2.length) (h : ∀ (j : Nat) x y, j < L1.length → L1[j]? = some x → L2[j]? = some y → x = y) : L1 = L2 := by
  apply List.ext_getElem hl
  intro i h1 h2
  exact h i _ _ h1 (List.getElem?_eq_getElem h1) (List.getElem?_eq_getElem h2)
theorem all_ext {α : Type} {L1 L2 : List α} {i : Nat} {x y : α} (hx : L1[i]? = some x) (hy : L2[i]? = some y) (h : ∀ (j : Nat) x y, j < i → L1[j]? = some x → L2[j]? = some y → x = y) (e : x = y) : ∀ (j : Nat) x y, j < i + 1 → L1[j]? = some x → L2[j]? = some y → x = y := fun j x' y' hj hx' hy' => by
  by_cases ej : j = i
  · subst ej
    rw [hx] at hx'; rw [hy] at hy'
    rw [← Option.some.inj hx', ← Option.some.inj hy']; exact e
  · exact h j x' y' (by omega) hx' hy'
theorem not_ext {α : Type} {L1 L2 : List α} {i : Nat} {x y : α} (hx : L1[i]? = some x) (hy : L2[i]? = some y) (e : x ≠ y) : L1 ≠ L2 := fun h => e (by
  rw [h, hy] at hx
  exact (Option.some.inj hx).symm)
/-- The cells of two boxes, one behind the other. -/
theorem box2 {w wr : World} {o p : Obj} (h : Below ((w.alloc o).alloc p).heap.size ((w.alloc o).alloc p) wr) : wr.heap[w.heap.size]? = some o ∧ wr.heap[w.heap.size + 1]? = some p := by
  have h1 := box_keptQ h
  rw [show (w.alloc o).heap.size = w.heap.size + 1 by simp] at h1
  exact ⟨box_keptQ (below_boxQ h), h1⟩
theorem below_box2 {w wr : World} {o p : Obj} (h : Below ((w.alloc o).alloc p).heap.size ((w.alloc o).alloc p) wr) : Below w.heap.size w wr := below_boxQ (below_boxQ h)
set_option maxHeartbeats 8000000 in
set_option maxRecDepth 100000 in
theorem rSame_any {S T : Nat → Prop} {w : World} {m1 m2 : Mu} (h1 : UOk S w m1) (h2 : UOk T w m2) :
    Calls Try.prog 13 #[encU m1, encU m2] w fun e w' => e = .returned (.bool (sameA m1.au m2.au)) ∧ Below w.heap.size w w' := by
  obtain ⟨wa, wc, fa, fc, la, lc, oa, oc, e1, e2, e3, e4⟩ := h1.slices
  obtain ⟨xa, xc, ga, gc, ka, kc, pa, pc, e5, e6, e7, e8⟩ := h2.slices
  obtain ⟨wv, ws, fv, fs, lv, ls, ov, os, em⟩ := m1
  obtain ⟨xv, xs, gv, gs, kv, ks, pv, ps, en⟩ := m2
  dsimp only at e1 e2 e3 e4 e5 e6 e7 e8
  subst e1 e2 e3 e4 e5 e6 e7 e8
  obtain ⟨os2, hos2⟩ : ∃ l, l = os.map (·.2) := ⟨_, rfl⟩
  obtain ⟨ps2, hps2⟩ : ∃ l, l = ps.map (·.2) := ⟨_, rfl⟩
  obtain ⟨ans, hans⟩ : ∃ a, a = (decide (ws = xs) && decide (fs = gs) && decide (ls = ks) && decide (os2 = ps2) && decide (em = en)) := ⟨_, rfl⟩
  show Calls Try.prog _ #[.agg #[.slice wa ws.length wc, .slice fa fs.length fc, .slice la ls.length lc, .slice oa os.length oc, .bool em], .agg #[.slice xa xs.length xc, .slice ga gs.length gc, .slice ka ks.length kc, .slice pa ps.length pc, .bool en]] w fun e w' => e = .returned (.bool (decide (ws = xs) && decide (fs = gs) && decide (ls = ks) && decide (os.map (·.2) = ps.map (·.2)) && decide (em = en))) ∧ _
  rw [← hos2, ← hps2, ← hans]
  have HA := Hid.mk hans
  have HO2 := Hid.mk hos2
  have HP2 := Hid.mk hps2
  clear hans hos2 hps2
  have HW := Hid.mk h1.ws
  have HX := Hid.mk h2.ws
  have HO := Hid.mk h1.os
  have HP := Hid.mk h2.os
  have HOK := Hid.mk h1.ok
  have HPK := Hid.mk h2.ok
  have hwl := h1.wl
  have hol := h1.ol
  obtain ⟨bf, hbf⟩ : ∃ b, b = decide (fs = gs) := ⟨_, rfl⟩
  obtain ⟨bl, hbl⟩ : ∃ b, b = decide (ls = ks) := ⟨_, rfl⟩
  have HSF : Hid (∀ wr, Below w.heap.size w wr → Calls Try.prog 35 #[.slice fa fs.length fc, .slice ga gs.length gc] wr fun e w' => e = .returned (.bool bf) ∧ Below wr.heap.size wr w') := Hid.mk (fun wr hb => by
    rw [hbf]
    refine (rSameZ_any (h1.fs.below hb) (h2.fs.below hb) h1.fl).mono ?_
    rintro e w' ⟨rfl, k, rfl⟩
    exact ⟨rfl, below_drewN (Below.refl _ _) _⟩)
  have HSL : Hid (∀ wr, Below w.heap.size w wr → Calls Try.prog 35 #[.slice la ls.length lc, .slice ka ks.length kc] wr fun e w' => e = .returned (.bool bl) ∧ Below wr.heap.size wr w') := Hid.mk (fun wr hb => by
    rw [hbl]
    refine (rSameZ_any (h1.ls.below hb) (h2.ls.below hb) h1.ll).mono ?_
    rintro e w' ⟨rfl, k, rfl⟩
    exact ⟨rfl, below_drewN (Below.refl _ _) _⟩)
  rw [← hbf, ← hbl] at HA
  dsimp only at HW HX HO HP HOK HPK hwl hol
  clear h1 h2 hbf hbl
  obtain ⟨nw, hnw⟩ : ∃ n, n = ws.length := ⟨_, rfl⟩
  obtain ⟨nx, hnx⟩ : ∃ n, n = xs.length := ⟨_, rfl⟩
  obtain ⟨no, hno⟩ : ∃ n, n = os.length := ⟨_, rfl⟩
  obtain ⟨np, hnp⟩ : ∃ n, n = ps.length := ⟨_, rfl⟩
  obtain ⟨nf, hnf⟩ : ∃ n, n = fs.length := ⟨_, rfl⟩
  obtain ⟨ng, hng⟩ : ∃ n, n = gs.length := ⟨_, rfl⟩
  obtain ⟨nl, hnl⟩ : ∃ n, n = ls.length := ⟨_, rfl⟩
  obtain ⟨nk, hnk⟩ : ∃ n, n = ks.length := ⟨_, rfl⟩
  rw [← hnw] at HW hwl ⊢
  rw [← hnx] at HX ⊢
  rw [← hno] at HO hol ⊢
  rw [← hnp] at HP ⊢
  rw [← hnf, ← hng] at HSF ⊢
  rw [← hnl, ← hnk] at HSL ⊢
  have HNW := Hid.mk hnw
  have HNX := Hid.mk hnx
  have HNO := Hid.mk hno
  have HNP := Hid.mk hnp
  obtain ⟨o, ho⟩ : ∃ o, o = Obj.cells #[.slice wa nw wc, .slice fa nf fc, .slice la nl lc, .slice oa no oc, .bool em] 31 := ⟨_, rfl⟩
  obtain ⟨p, hp⟩ : ∃ o, o = Obj.cells #[.slice xa nx xc, .slice ga ng gc, .slice ka nk kc, .slice pa np pc, .bool en] 31 := ⟨_, rfl⟩
  have HOB := Hid.mk ho
  have HPB := Hid.mk hp
  have HC : Hid (∀ wr, Below ((w.alloc o).alloc p).heap.size ((w.alloc o).alloc p) wr → (wr.cell? ⟨w.heap.size, 0, none⟩ = some (.slice wa nw wc) ∧ wr.cell? ⟨w.heap.size, 1, none⟩ = some (.slice fa nf fc) ∧ wr.cell? ⟨w.heap.size, 2, none⟩ = some (.slice la nl lc) ∧ wr.cell? ⟨w.heap.size, 3, none⟩ = some (.slice oa no oc)) ∧ wr.cell? ⟨w.heap.size + 1, 0, none⟩ = some (.slice xa nx xc) ∧ wr.cell? ⟨w.heap.size + 1, 1, none⟩ = some (.slice ga ng gc) ∧ wr.cell? ⟨w.heap.size + 1, 2, none⟩ = some (.slice ka nk kc) ∧ wr.cell? ⟨w.heap.size + 1, 3, none⟩ = some (.slice pa np pc)) := Hid.mk (fun wr hb => by
    obtain ⟨h1, h2⟩ := box2 hb
    rw [HOB.out] at h1
    rw [HPB.out] at h2
    exact ⟨⟨(cells5 h1).1, (cells5 h1).2.1, (cells5 h1).2.2.1, (cells5 h1).2.2.2.1⟩, (cells5 h2).1, (cells5 h2).2.1, (cells5 h2).2.2.1, (cells5 h2).2.2.2.1⟩)
  have HB0 : Hid (Below ((w.alloc o).alloc p).heap.size ((w.alloc o).alloc p) ((w.alloc (.cells #[.slice wa nw wc, .slice fa nf fc, .slice la nl lc, .slice oa no oc, .bool em] 31)).alloc (.cells #[.slice xa nx xc, .slice ga ng gc, .slice ka nk kc, .slice pa np pc, .bool en] 31))) := Hid.mk (by rw [HOB.out, HPB.out]; exact Below.refl _ _)
  clear ho hp hnw hnx hno hnp hnf hng hnl hnk
  by_cases hw : nw = nx
  · subst hw
    by_cases hpo : no = np
    · subst hpo
      by_cases hem : em = en
      · subst hem
        cases bf with
        | false =>
          have HZ : Hid (ans = false) := Hid.mk (by rw [HA.out]; simp)
          cases em
          all_goals (
            go_enter Try.func13, Try.ntmps13
            go_wp2_with fail
            refine (HSF.out _ (below_box2 HB0.out)).mono ?_
            rintro e w1 ⟨rfl, hb1⟩
            have HB1 := Hid.mk (HB0.out.trans (hb1.mono HB0.out.size))
            clear hb1
            go_wp2
            go_ret
            exact ⟨by rw [HZ.out]; rfl, below_box2 HB1.out⟩)
        | true =>
          cases bl with
          | false =>
            have HZ : Hid (ans = false) := Hid.mk (by rw [HA.out]; simp)
            cases em
            all_goals (
              go_enter Try.func13, Try.ntmps13
              go_wp2_with fail
              refine (HSF.out _ (below_box2 HB0.out)).mono ?_
              rintro e w1 ⟨rfl, hb1⟩
              have HB1 := Hid.mk (HB0.out.trans (hb1.mono HB0.out.size))
              obtain ⟨⟨c0, c1, c2, c3⟩, d0, d1, d2, d3⟩ := HC.out _ HB1.out
              clear hb1
              go_wp2_with fail
              refine (HSL.out _ (below_box2 HB1.out)).mono ?_
              rintro e w2 ⟨rfl, hb2⟩
              have HB2 := Hid.mk (HB1.out.trans (hb2.mono HB1.out.size))
              clear hb2 c0 c1 c2 c3 d0 d1 d2 d3
              go_wp2
              go_ret
              exact ⟨by rw [HZ.out]; rfl, below_box2 HB2.out⟩)
          | true =>
            have HZ : Hid (ans = (decide (ws = xs) && decide (os2 = ps2))) := Hid.mk (by rw [HA.out]; simp)
            cases em
            all_goals (
              go_enter Try.func13, Try.ntmps13
              go_wp2_with fail
              refine (HSF.out _ (below_box2 HB0.out)).mono ?_
              rintro e w1 ⟨rfl, hb1⟩
              have HB1 := Hid.mk (HB0.out.trans (hb1.mono HB0.out.size))
              obtain ⟨⟨c0, c1, c2, c3⟩, d0, d1, d2, d3⟩ := HC.out _ HB1.out
              clear hb1
              go_wp2_with fail
              refine (HSL.out _ (below_box2 HB1.out)).mono ?_
              rintro e w2 ⟨rfl, hb2⟩
              have HB2 := Hid.mk (HB1.out.trans (hb2.mono HB1.out.size))
              clear hb2 c0 c1 c2 c3 d0 d1 d2 d3
              go_wp2_with fail
              go_loopw [5] (fun c wr => ∃ i : Nat, i ≤ nw ∧ c = .int .i64 i ∧ (∀ (j : Nat) x y, j < i → ws[j]? = some x → xs[j]? = some y → x = y) ∧ Below ((w.alloc o).alloc p).heap.size ((w.alloc o).alloc p) wr) (fun c _ => nw - (intOf c).toNat)
              case atStart => exact ⟨0, Nat.zero_le _, rfl, fun j x y hj => absurd hj (by omega), HB2.out⟩
              case round =>
                obtain ⟨i, hi, rfl, hall, hbq⟩ := hrel
                have HAll := Hid.mk hall
                have HBQ := Hid.mk hbq
                obtain ⟨⟨c0, c1, c2, c3⟩, d0, d1, d2, d3⟩ := HC.out _ hbq
                clear hall hbq c1 c2 d1 d2
                by_cases hlt : i < nw
                · have hltI : (i : Int) < (nw : Int) := by omega
                  obtain ⟨x, hx⟩ : ∃ x, ws[i]? = some x := ⟨_, List.getElem?_eq_getElem (by rw [← HNW.out]; exact hlt)⟩
                  obtain ⟨y, hy⟩ : ∃ y, xs[i]? = some y := ⟨_, List.getElem?_eq_getElem (by rw [← HNX.out]; exact hlt)⟩
                  obtain ⟨g1, o1, rfl, _, _, hc1⟩ := (HW.out.below (below_box2 HBQ.out)).get hx
                  obtain ⟨g2, o2, rfl, _, _, hc2⟩ := (HX.out.below (below_box2 HBQ.out)).get hy
                  have p0 := getTx hc1
                  have r0 := getTx hc2
                  rw [Nat.mul_one] at p0 r0
                  have HXX := Hid.mk hx
                  have HYY := Hid.mk hy
                  clear hc1 hc2 hx hy
                  by_cases hxy : x = y
                  · have HA2 := Hid.mk (all_ext HXX.out HYY.out HAll.out hxy)
                    subst hxy
                    go_wp2_with fail
                    go_region
                    go_wp2
                    go_roundw
                    case rel => exact ⟨i + 1, by omega, by go_num, HA2.out, HBQ.out.drew⟩
                    case measure => simp [intOf]; omega
                  · have HF : Hid (ans = false) := Hid.mk (by rw [HZ.out, decide_eq_false (not_ext HXX.out HYY.out hxy)]; rfl)
                    have hd : (x == y) = false := by simpa using hxy
                    go_wp2_with fail
                    go_region
                    go_wp2
                    go_ret
                    exact ⟨by rw [HF.out]; rfl, below_box2 HBQ.out.drew⟩
                · have hltI : ¬ (i : Int) < (nw : Int) := by omega
                  have HZ2 : Hid (ans = decide (os2 = ps2)) := Hid.mk (by
                    rw [HZ.out, decide_eq_true (ext_take (by rw [← HNW.out, ← HNX.out]) (fun j x y hj => HAll.out j x y (by have := HNW.out; omega)))]
                    rfl)
                  go_wp2_with fail
                  clear c0 c3 d0 d3
                  go_loopw [6] (fun c wr => ∃ i : Nat, i ≤ no ∧ c = .int .i64 i ∧ (∀ (j : Nat) x y, j < i → os2[j]? = some x → ps2[j]? = some y → x = y) ∧ Below ((w.alloc o).alloc p).heap.size ((w.alloc o).alloc p) wr) (fun c _ => no - (intOf c).toNat)
                  case atStart => exact ⟨0, Nat.zero_le _, rfl, fun j x y hj => absurd hj (by omega), HBQ.out⟩
                  case round =>
                    obtain ⟨q, hq, rfl, hall, hbq⟩ := hrel
                    have HAll := Hid.mk hall
                    have HBQ := Hid.mk hbq
                    obtain ⟨⟨c0, c1, c2, c3⟩, d0, d1, d2, d3⟩ := HC.out _ hbq
                    clear hall hbq c0 c1 c2 d0 d1 d2
                    by_cases hlq : q < no
                    · have hlqI : (q : Int) < (no : Int) := by omega
                      obtain ⟨x, hx⟩ : ∃ x, os[q]? = some x := ⟨_, List.getElem?_eq_getElem (by rw [← HNO.out]; exact hlq)⟩
                      obtain ⟨y, hy⟩ : ∃ y, ps[q]? = some y := ⟨_, List.getElem?_eq_getElem (by rw [← HNP.out]; exact hlq)⟩
                      obtain ⟨g1, o1, rfl, _, _, hc1⟩ := (HO.out.below (below_box2 HBQ.out)).get hx
                      obtain ⟨g2, o2, rfl, _, _, hc2⟩ := (HP.out.below (below_box2 HBQ.out)).get hy
                      have p0 := getW hc1
                      have r0 := getW hc2
                      rw [Nat.mul_one] at p0 r0
                      have HXX : Hid (os2[q]? = some x.2) := Hid.mk (by rw [HO2.out, List.getElem?_map, hx]; rfl)
                      have HYY : Hid (ps2[q]? = some y.2) := Hid.mk (by rw [HP2.out, List.getElem?_map, hy]; rfl)
                      have HKX := Hid.mk (HOK.out x (List.mem_of_getElem? hx))
                      have HKY := Hid.mk (HPK.out y (List.mem_of_getElem? hy))
                      obtain ⟨b, hb⟩ : ∃ b, b = decide (x.2 = y.2) := ⟨_, rfl⟩
                      obtain ⟨xn, hxn⟩ : ∃ n, n = x.2.length := ⟨_, rfl⟩
                      obtain ⟨yn, hyn⟩ : ∃ n, n = y.2.length := ⟨_, rfl⟩
                      obtain ⟨x1, x2, hx3⟩ := HKX.out.1.slice
                      obtain ⟨y1, y2, hy3⟩ := HKY.out.1.slice
                      rw [← hxn] at hx3
                      rw [← hyn] at hy3
                      have HCA : Hid (∀ k, Calls Try.prog 35 #[.slice x1 xn x2, .slice y1 yn y2] (wr.drewN k) fun e w' => e = .returned (.bool b) ∧ ∃ m, w' = (wr.drewN k).drewN m) := Hid.mk (fun k => by
                        rw [hb, ← hx3, ← hy3]
                        exact rSameZ_any (HKX.out.1.below (below_drewN (below_box2 HBQ.out) k)) (HKY.out.1.below (below_drewN (below_box2 HBQ.out) k)) HKX.out.2)
                      rw [hx3] at p0
                      rw [hy3] at r0
                      have HBB := Hid.mk hb
                      clear hc1 hc2 hx hy hb hxn hyn hx3 hy3
                      cases b with
                      | true =>
                        have HA2 := Hid.mk (all_ext HXX.out HYY.out HAll.out (of_decide_eq_true HBB.out.symm))
                        go_wp2_with fail
                        go_quiet ((go_at_call 35; refine Calls.quiet_of (HCA.out _)))
                        go_wp2
                        go_roundw
                        case rel => exact ⟨q + 1, by omega, by go_num, HA2.out, below_drewN HBQ.out _⟩
                        case measure => simp [intOf]; omega
                      | false =>
                        have HF : Hid (ans = false) := Hid.mk (by rw [HZ2.out]; exact decide_eq_false (not_ext HXX.out HYY.out (of_decide_eq_false HBB.out.symm)))
                        go_wp2_with fail
                        go_quiet ((go_at_call 35; refine Calls.quiet_of (HCA.out _)))
                        go_wp2
                        go_ret
                        exact ⟨by rw [HF.out]; rfl, below_drewN (below_box2 HBQ.out) _⟩
                    · have hlqI : ¬ (q : Int) < (no : Int) := by omega
                      have HT : Hid (ans = true) := Hid.mk (by
                        rw [HZ2.out]
                        refine decide_eq_true (ext_take (by rw [HO2.out, HP2.out, List.length_map, List.length_map, ← HNO.out, ← HNP.out]) (fun j x y hj => HAll.out j x y ?_))
                        rw [HO2.out, List.length_map, ← HNO.out] at hj
                        omega)
                      go_wp2
                      go_ret
                      exact ⟨by rw [HT.out]; rfl, below_box2 HBQ.out⟩)
      · have HZ : Hid (ans = false) := Hid.mk (by rw [HA.out, decide_eq_false hem, Bool.and_false])
        cases em <;> cases en
        case false.false => exact absurd rfl hem
        case true.true => exact absurd rfl hem
        all_goals (
          go_enter Try.func13, Try.ntmps13
          go_wp2
          go_ret
          exact ⟨by rw [HZ.out]; rfl, below_box2 HB0.out⟩)
    · have hd : ((no : Int) != (np : Int)) = true := by simp; omega
      have HZ : Hid (ans = false) := Hid.mk (by
        have : os2 ≠ ps2 := fun e => hpo (by
          have := congrArg List.length e
          rw [HO2.out, HP2.out, List.length_map, List.length_map, ← HNO.out, ← HNP.out] at this
          exact this)
        rw [HA.out, decide_eq_false this, Bool.and_false]; rfl)
      clear hpo
      go_enter Try.func13, Try.ntmps13
      go_wp2
      go_ret
      exact ⟨by rw [HZ.out]; rfl, below_box2 HB0.out⟩
  · have hd : ((nw : Int) != (nx : Int)) = true := by simp; omega
    have HZ : Hid (ans = false) := Hid.mk (by
      have : ws ≠ xs := fun e => hw (by rw [HNW.out, HNX.out, e])
      rw [HA.out, decide_eq_false this]; rfl)
    clear hw
    go_enter Try.func13, Try.ntmps13
    go_wp2
    go_ret
    exact ⟨by rw [HZ.out]; rfl, below_box2 HB0.out⟩
end Go.Proofs.Ythdnpddfdlhlaaa
