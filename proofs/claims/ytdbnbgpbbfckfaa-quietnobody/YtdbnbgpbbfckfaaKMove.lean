/- A node sends; a telling comes. -/
import Derived.Test.YtdbnbgpbbfckfaaKWorld
namespace Go.Proofs.Ytdbnbgpbbfckfaa
open Go.RowKit

theorem WAt.cells {B : Nat} {w : World} {wb : Nat} {vn vu vt vw : Value} {bs : Nat → Nat} {s : Wd} (h : WAt B w wb vn vu vt vw bs s) : w.cell? ⟨wb, 0, none⟩ = some vn ∧ w.cell? ⟨wb, 1, none⟩ = some vu ∧ w.cell? ⟨wb, 2, none⟩ = some vt ∧ w.cell? ⟨wb, 3, none⟩ = some vw ∧ w.frozen? ⟨wb, 1, none⟩ = false ∧ w.frozen? ⟨wb, 2, none⟩ = false := by
  obtain ⟨⟨g0, g1, g2, g3, g4⟩, f0, f1, f2, f3⟩ := five_cells h.blk
  exact ⟨g0, g1, g2, g3, f1, f2⟩
theorem WAt.nodeAt {B : Nat} {w : World} {wb gn m cn : Nat} {vu vt vw : Value} {bs : Nat → Nat} {s : Wd} (h : WAt B w wb (.slice (some ⟨gn, 0, none⟩) m cn) vu vt vw bs s) {i : Nat} (hi : i < s.k) : w.cell? ⟨gn, i, none⟩ = some (.pointer (some ⟨bs i, 0, none⟩)) := by
  have h1 := h.on
  have hm : m = s.k := by
    rcases h1.2 with ⟨e, h0⟩ | ⟨g, c, cur, e, _⟩
    · cases e
    · injection e
  subst hm
  rw [h1.cellAt i (by omega)]; simp [hi]
theorem WAt.workAt {B : Nat} {w : World} {wb gw m cw : Nat} {vn vu vt : Value} {bs : Nat → Nat} {s : Wd} (h : WAt B w wb vn vu vt (.slice (some ⟨gw, 0, none⟩) m cw) bs s) {i : Nat} (hi : i < s.k) : w.cell? ⟨gw, i, none⟩ = some (.int .i64 (s.work i : Int)) ∧ w.frozen? ⟨gw, i, none⟩ = false := by
  have h1 := h.ow
  have hm : m = s.k := by
    rcases h1.2 with ⟨e, h0⟩ | ⟨g, c, cur, e, _⟩
    · cases e
    · injection e
  subst hm
  refine ⟨?_, h1.frozenAt _⟩
  rw [h1.cellAt i (by omega)]; simp [hi]
set_option maxRecDepth 100000 in
set_option maxHeartbeats 4000000 in
theorem sends_any {B : Nat} {w : World} {wb : Nat} {s : Wd} (hW : WOk B w wb s) (hl : Lim s) {i t : Nat} (hi : i < s.k) (hl2 : (s.nd i).works = true → Lim (s.send1 i t)) :
    Calls Try.prog 8 #[.pointer (some ⟨wb, 0, none⟩), .int .i64 (i : Int), .int .i64 (t : Int)] w fun e w' => e = .returned (.tuple #[]) ∧ WOk B w' wb (s.sends i t) ∧ Below B w w' := by
  obtain ⟨i0, hi0, hz0, hz1, hz2⟩ := info_parts infoU
  obtain ⟨vn, vu, vt, vw, bs, h⟩ := hW
  obtain ⟨gn, cn, gw, cw, rfl, rfl, hrn, hrw⟩ := h.reads hl.k1
  obtain ⟨ua, uc, rfl⟩ := own_slice h.ou
  have H := Hid.mk h
  have hk6 := hl.k6
  have hun := hl.un
  have how := hl.ow i hi
  have hwk6 := hl.wk i hi
  have CW := Hid.mk (works_any (h.nd i hi).1)
  obtain ⟨g0, g1, g2, g3, f1, f2⟩ := h.cells
  have n1 := hrn i hi
  obtain ⟨w1c, w1f⟩ := hrw i hi
  have hgw1 : ¬ gw = wb := own_ne h.ow rfl h.blk (by decide)
  have hgw2 : ¬ wb = gw := fun e => hgw1 e.symm
  have hgw3 : ¬ gn = gw := fun e => own_ne2 h.on (g := gn) rfl h.ow (by decide) (by rw [e]; rfl)
  obtain ⟨k, hk⟩ : ∃ k, k = s.k := ⟨_, rfl⟩
  obtain ⟨nu, hnu⟩ : ∃ nu, nu = s.under.length := ⟨_, rfl⟩
  rw [← hk] at g0 g3 hi hk6 H
  rw [← hnu] at g1 H hun
  have hiI : (i : Int) < (k : Int) := by omega
  have HK := Hid.mk hk
  have HNU := Hid.mk hnu
  clear h hrn hrw hk hnu hl
  by_cases hwk : s.work i = 0
  · have HR : Hid (s.sends i t = s) := Hid.mk (if_pos (.inl hwk))
    rw [hwk] at w1c
    clear hwk
    rw [HR.out]
    go_enter Try.func8, Try.ntmps8
    go_wp2
    refine bodyPost_ret (results_none rfl _ _ _) rfl ?_
    exact ⟨rfl, H.out.ok, Below.refl _ _⟩
  · obtain ⟨x, hx⟩ : ∃ x : Int, x = (s.work i : Int) := ⟨_, rfl⟩
    rw [← hx] at w1c
    have hx0 : ¬ x = 0 := by omega
    have hx1 : (x == 0) = false := beq_eq_false_iff_ne.2 hx0
    have hx2 : 1 ≤ x := by omega
    have hx3 : x ≤ 1000000 := by omega
    cases hws : (s.nd i).works with
    | false =>
      have HR : Hid (s.sends i t = s) := Hid.mk (if_pos (.inr hws))
      rw [hws] at CW
      rw [HR.out]
      clear hws hwk hx
      go_enter Try.func8, Try.ntmps8
      go_wp2_with fail
      refine CW.out.mono ?_
      rintro e w1 ⟨rfl, hw⟩
      rw [hw]
      clear hw
      go_wp2
      refine bodyPost_ret (results_none rfl _ _ _) rfl ?_
      exact ⟨rfl, H.out.ok, Below.refl _ _⟩
    | true =>
      have HR : Hid (s.sends i t = s.send1 i t) := Hid.mk (if_neg (by
        rintro (h | h)
        · exact hwk h
        · rw [hws] at h; cases h))
      have HWS := Hid.mk hws
      rw [hws] at CW
      rw [HR.out]
      obtain ⟨W1, hW1⟩ : ∃ W, W = w.setCell ⟨gw, i, none⟩ (.int .i64 (x - 1)) := ⟨_, rfl⟩
      have H1 : Hid (WAt B W1 wb (.slice (some ⟨gn, 0, none⟩) k cn) (.slice ua nu uc) vt (.slice (some ⟨gw, 0, none⟩) k cw) bs { s with work := upd s.work i (s.work i - 1) } ∧ Below B w W1) := Hid.mk (by
        have := H.out.work_ HK.out i (s.work i - 1)
        rw [hW1, show x - 1 = ((s.work i - 1 : Nat) : Int) by omega]
        exact this)
      obtain ⟨p0, p1, p2, p3, q1, q2⟩ := H1.out.1.cells
      have CS := Hid.mk (send_any (H1.out.1.nd i (by rw [← HK.out]; exact hi)).1 HWS.out (by show (s.nd i).owes < _; omega))
      have n2 : W1.cell? ⟨gn, i, none⟩ = some (.pointer (some ⟨bs i, 0, none⟩)) := by
        rw [hW1, World.cell?_setCell_other _ _ _ _ (by simp)]; exact n1
      rw [hW1] at p0 p1 n2 CS
      clear hws hwk hx
      go_enter Try.func8, Try.ntmps8
      go_wp2_with fail
      refine CW.out.mono ?_
      rintro e w1 ⟨rfl, hw⟩
      rw [hw]
      clear hw
      go_wp2_with fail
      refine CS.out.mono ?_
      rintro e w2 ⟨rfl, hn2, ho2⟩
      have H2 : Hid (WAt B w2 wb (.slice (some ⟨gn, 0, none⟩) k cn) (.slice ua nu uc) vt (.slice (some ⟨gw, 0, none⟩) k cw) bs { s with work := upd s.work i (s.work i - 1), nd := upd s.nd i ⟨(s.nd i).owes + 1, (s.nd i).works, (s.nd i).par⟩ } ∧ Below B w w2) := Hid.mk (by
        rw [← hW1] at ho2
        exact ⟨H1.out.1.node (by rw [← HK.out]; exact hi) hn2 ho2, H1.out.2.trans (ho2.below (H1.out.1.nd i (by rw [← HK.out]; exact hi)).2)⟩)
      obtain ⟨r0, r1, r2, r3, t1, t2⟩ := H2.out.1.cells
      have HOU : Hid (w2.ownsRow B 50 2 (.slice ua nu uc) nu (s.under.flatMap csU)) := Hid.mk (by have := H2.out.1.ou; simp only at this; rw [HNU.out] at this ⊢; exact this)
      have hB2 := H2.out.1.size
      clear hn2 ho2 hW1 p0 p1 p2 p3 q1 q2 g0 g1 g2 g3 f1 f2
      go_wp2_with (at_builtin; refine wpList_append_lies _ rfl _ _ _ rfl B 50 i0 _ 2 16 Try.underlying26 hi0 hz0 hz1 hz2 rfl (by decide) (.slice ua nu uc) _ _ (by rfl) (HOU.out.alloc _) ⟨w2.heap.size, 0, none⟩ 1 1 [.int .i64 (i : Int), .int .i64 (t : Int)] (by rfl) (by rfl) (World.news_of_block (cs := #[.int .i64 (i : Int), .int .i64 (t : Int)]) (t := 50) (fr := (0, 0)) (heap_alloc_new w2 _)) (by simp [Value.oneCell']) (by decide) (by unfold maxLen; omega) (by omega) (by simp; omega) (w2.heap.size + 1) (by simp) ?_)
      intro g cap w9 hown9 hgrow9 hat9 hlt9
      obtain ⟨wz, hwz⟩ : ∃ wz, wz = w9.setCell ⟨wb, 1, none⟩ (.slice (some ⟨g, 0, none⟩) (nu + 1) cap) := ⟨_, rfl⟩
      have HFIN : Hid (WOk B wz wb (s.send1 i t) ∧ Below B w wz) := Hid.mk (by
        have hgr : Grew w2 w9 (.slice ua nu uc) (.slice (some ⟨g, 0, none⟩) (nu + 1) cap) := Grew.lies ((Below.refl _ _).alloc (Nat.le_refl _) _) hgrow9 (by simpa using hat9)
        have ho9 : w9.ownsRow B 50 2 (.slice (some ⟨g, 0, none⟩) (nu + 1) cap) (s.under ++ [(i, t)]).length ((s.under ++ [(i, t)]).flatMap csU) := by
          rw [List.flatMap_append, List.length_append, List.length_singleton, ← HNU.out]; exact hown9
        obtain ⟨a1, a2⟩ := H2.out.1.under_ hgr ho9
        rw [hwz]
        exact ⟨⟨_, _, _, _, _, a1.blk, a1.lo, a1.on, a1.ou, a1.ot, a1.ow, a1.ne, a1.nd, a1.inj⟩, H2.out.2.trans a2⟩)
      obtain ⟨⟨c2v, c2'⟩, fr2'⟩ : (∃ v, w9.cell? ⟨wb, 1, none⟩ = some v) ∧ w9.frozen? ⟨wb, 1, none⟩ = false := by
        have hb9 : w9.heap[wb]? = w2.heap[wb]? := by
          have hlt := lt_of_block H2.out.1.blk
          rw [hgrow9.block wb (by simp; omega) (fun e => own_ne HOU.out e.symm H2.out.1.blk (by decide) rfl), heap_alloc_old _ _ hlt]
        have hb9' := hb9.trans H2.out.1.blk
        exact ⟨⟨_, (five_cells hb9').1.2.1⟩, (five_cells hb9').2.2.1⟩
      have CR := Hid.mk (rests_any HFIN.out.1 (hl2 HWS.out) (i := i) (by show i < s.k; rw [← HK.out]; exact hi))
      rw [send1_rests, hwz] at CR
      clear hown9 hgrow9 hat9 hlt9 r0 r1 r2 r3 t1 t2
      go_wp2_with fail
      refine CR.out.mono ?_
      rintro e w3 ⟨rfl, h3, b3⟩
      have HFIN2 : Hid (WOk B w3 wb (s.send1 i t) ∧ Below B w w3) := Hid.mk ⟨h3, HFIN.out.2.trans (by rw [hwz]; exact b3)⟩
      clear h3 b3
      go_wp2
      go_end0
      exact ⟨rfl, HFIN2.out⟩
end Go.Proofs.Ytdbnbgpbbfckfaa
