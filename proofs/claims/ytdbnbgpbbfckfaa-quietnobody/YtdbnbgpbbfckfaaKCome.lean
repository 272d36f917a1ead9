/- A message comes. -/
import Derived.Test.YtdbnbgpbbfckfaaKTold
import Derived.Deep.RegionHeld3
namespace Go.Proofs.Ytdbnbgpbbfckfaa
open Go.RowKit

def ComeP (s : Wd) (more : Nat) (s' : Wd) : Prop := (s.under = [] ∧ s' = s) ∨ ∃ j m, s.under[j]? = some m ∧ s' = s.comes j more m
def CEnd (B : Nat) (w : World) (wb : Nat) (s : Wd) (more : Nat) (e : Ending) (w' : World) : Prop := e = .returned (.tuple #[]) ∧ Below B w w' ∧ ∃ s', ComeP s more s' ∧ WOk B w' wb s'
abbrev BoxU (w : World) (b : Nat) (m : Nat × Nat) : Prop := w.heap[b]? = some (.cells #[.int .i64 (m.1 : Int), .int .i64 (m.2 : Int)] 50 (0, 0))
theorem BoxU.cells {w : World} {b : Nat} {m : Nat × Nat} (h : BoxU w b m) : w.cell? ⟨b, 0, none⟩ = some (.int .i64 (m.1 : Int)) ∧ w.cell? ⟨b, 1, none⟩ = some (.int .i64 (m.2 : Int)) := by
  have h : w.heap[b]? = some (.cells #[.int .i64 (m.1 : Int), .int .i64 (m.2 : Int)] 50 (0, 0)) := h
  simp [World.cell?, h]
theorem WAt.drew {B : Nat} {w : World} {wb : Nat} {vn vu vt vw : Value} {bs : Nat → Nat} {s : Wd} (h : WAt B w wb vn vu vt vw bs s) : WAt B w.drew wb vn vu vt vw bs s := ⟨h.blk, h.lo, h.on, h.ou, h.ot, h.ow, h.ne, h.nd, h.inj⟩
theorem flat_take (L : List (Nat × Nat)) (j : Nat) : (L.take j).flatMap csU = (L.flatMap csU).take (j * 2) := by
  induction L generalizing j with
  | nil => simp
  | cons x L ih =>
    cases j with
    | zero => simp
    | succ j => rw [List.take_succ_cons, List.flatMap_cons, List.flatMap_cons, ih, Nat.succ_mul]; rfl
theorem flat_drop (L : List (Nat × Nat)) (j : Nat) : (L.drop j).flatMap csU = (L.flatMap csU).drop (j * 2) := by
  induction L generalizing j with
  | nil => simp
  | cons x L ih =>
    cases j with
    | zero => simp
    | succ j => rw [List.drop_succ_cons, List.flatMap_cons, ih, Nat.succ_mul]; rfl
set_option maxRecDepth 100000 in
set_option maxHeartbeats 8000000 in
theorem wcome_any {B : Nat} {w : World} {wb : Nat} {s : Wd} (hW : WOk B w wb s) (hl : Lim s) (more : Nat) (hmore : more ≤ 3) (hl2 : ∀ j m, s.under[j]? = some m → m.1 < s.k ∧ m.2 < s.k ∧ ((s.nd m.2).works = false → m.2 ≠ 0) ∧ Lim (s.come1 j more m)) (z : Int) :
    Calls Try.prog 9 #[.pointer (some ⟨wb, 0, none⟩), .int .i64 z, .int .i64 (more : Int)] w (CEnd B w wb s more) := by
  obtain ⟨i0, hi0, hz0, hz1, hz2⟩ := info_parts infoU
  obtain ⟨i1, hi1, hy0, hy1, hy2⟩ := info_parts infoZ2
  obtain ⟨vn, vu, vt, vw, bs, h⟩ := hW
  obtain ⟨gn, cn, gw, cw, rfl, rfl, hrn, hrw⟩ := h.reads hl.k1
  obtain ⟨ua, uc, rfl⟩ := own_slice h.ou
  obtain ⟨ta, tc, rfl⟩ := own_slice h.ot
  have H := Hid.mk h
  have hk6 := hl.k6
  have hun := hl.un
  have hte := hl.te
  obtain ⟨g0, g1, g2, g3, f1, f2⟩ := h.cells
  obtain ⟨n, hn⟩ : ∃ n, n = s.under.length := ⟨_, rfl⟩
  obtain ⟨nt, hnt⟩ : ∃ n, n = s.tells.length := ⟨_, rfl⟩
  rw [← hn] at g1 H hun
  rw [← hnt] at g2 H hte
  have HN := Hid.mk hn
  have HNT := Hid.mk hnt
  by_cases hn0 : n = 0
  · have HE : Hid (s.under = []) := Hid.mk (List.length_eq_zero_iff.1 (by omega))
    rw [hn0] at g1
    clear h hrn hrw hn hl hnt
    go_enter Try.func9, Try.ntmps9
    go_wp2
    refine bodyPost_ret (results_none rfl _ _ _) rfl ?_
    exact ⟨rfl, Below.refl _ _, _, .inl ⟨HE.out, rfl⟩, H.out.ok⟩
  · have hnI : ¬ (n : Int) = 0 := by omega
    have hnB : ((n : Int) == 0) = false := beq_eq_false_iff_ne.2 hnI
    obtain ⟨j, hj, hjn, hm0, hm1⟩ := pick_any z n (by omega)
    obtain ⟨m, hm⟩ : ∃ m, s.under[j]? = some m := ⟨_, List.getElem?_eq_getElem (by omega)⟩
    obtain ⟨tk1, tk2, hroot, tl⟩ := hl2 j m hm
    have hou := H.out.ou
    rw [← HN.out] at hou
    obtain ⟨ga, rfl⟩ : ∃ g, ua = some ⟨g, 0, none⟩ := by
      rcases hou.2 with ⟨e, h0⟩ | ⟨g, c, cur, e, _⟩
      · omega
      · injection e with e1; exact ⟨g, e1⟩
    have c1 : w.cell? ⟨ga, j * 2, none⟩ = some (.int .i64 (m.1 : Int)) := by
      rw [hou.cellAt (j * 2) (by omega)]; exact flat_at (enc := csU) (k := 2) (fun _ => rfl) s.under j 0 m hm (by decide)
    have c2 : w.cell? ⟨ga, j * 2 + 1, none⟩ = some (.int .i64 (m.2 : Int)) := by
      rw [hou.cellAt (j * 2 + 1) (by omega)]; exact flat_at (enc := csU) (k := 2) (fun _ => rfl) s.under j 1 m hm (by decide)
    have HTL := Hid.mk tl
    have HM := Hid.mk hm
    obtain ⟨m1, m2⟩ := m
    simp only at tk1 tk2 hroot c1 c2
    obtain ⟨W1, hW1⟩ : ∃ W, W = w.alloc (.cells #[.int .i64 (m1 : Int), .int .i64 (m2 : Int)] 50) := ⟨_, rfl⟩
    have HB1 : Hid (Below w.heap.size w W1) := Hid.mk (by rw [hW1]; exact (Below.refl _ _).alloc (Nat.le_refl _) _)
    have HX1 : Hid (BoxU W1 w.heap.size (m1, m2)) := Hid.mk (by rw [hW1]; exact heap_alloc_new _ _)
    have H1 := Hid.mk (H.out.below HB1.out)
    have hou1 := H1.out.ou
    rw [← HN.out] at hou1
    obtain ⟨⟨aa, cc, hcut1, hCa⟩, _⟩ := row_cut elemU Try.underlying26 sizeU hou1 (k := j) (by omega)
    obtain ⟨_, ⟨ab, cd, hcut2, hCb⟩⟩ := row_cut elemU Try.underlying26 sizeU hou1 (k := j + 1) (by omega)
    rw [show ((j + 1 : Nat) : Int) = (j : Int) + 1 from rfl] at hcut2
    have HCA := Hid.mk hCa
    have HCB := Hid.mk hCb
    obtain ⟨s0, s1, s2, s3, sf1, sf2⟩ := H1.out.cells
    have hsz1 : w.heap.size < W1.heap.size := by rw [hW1]; simp
    obtain ⟨mb, hmb⟩ : ∃ mb, mb = w.heap.size := ⟨_, rfl⟩
    have hmbw : ¬ mb = wb := by have := lt_of_block H.out.blk; omega
    rw [← hmb] at HX1
    have HMB : Hid (B ≤ mb ∧ mb < W1.heap.size) := Hid.mk ⟨by have := H.out.size; omega, by omega⟩
    have HHB : Hid (B ≤ W1.heap.size) := Hid.mk H1.out.size
    have HBB : Hid (Below B w W1) := Hid.mk (HB1.out.mono H.out.size)
    obtain ⟨k, hk⟩ : ∃ k, k = s.k := ⟨_, rfl⟩
    rw [← hk] at g0 g3 H H1 hk6 tk1 tk2 s0 s3
    have HK := Hid.mk hk
    have htI : (m2 : Int) < (k : Int) := by omega
    obtain ⟨d, hd⟩ : ∃ d, d = n - (j + 1) := ⟨_, rfl⟩
    rw [← hd] at hcut2 HCB
    have HD := Hid.mk hd
    have hjI : (j : Int) < (n : Int) := by omega
    have hjI2 : (j : Int) + 1 ≤ (n : Int) := by omega
    have hdn : j + d ≤ 1000000 := by omega
    have how := hl.ow m2 (by rw [← hk]; exact tk2)
    have hwk6 := hl.wk m2 (by rw [← hk]; exact tk2)
    have hm1B : m1 ≤ 6 := by omega
    rw [hW1] at s1
    have HW1 := Hid.mk hW1
    have HMB2 := Hid.mk hmb
    clear h hrn hrw hn hl hou hou1 hCa hCb hk hd hm tl hnt hmb s2 sf2 sf1 s0 s3 hW1
    cases hws : (s.nd m2).works with
    | true =>
      go_enter Try.func9, Try.ntmps9
      go_wp2_with (at_builtin; rw [← HW1.out]; refine wpList_append_many rfl _ _ rfl Try.underlying26 hi0 hz0 hz1 hz2 rfl (by decide) (by rfl) (World.ownsRow_nil _ W1.heap.size _ _) aa ((s.under.flatMap csU).take (j * 2)) j cc (by rfl) HCA.out.len HCA.out.none_ HCA.out.reads (fun u hu => one_csU _ u (List.mem_of_mem_take hu)) ?c1 ?c2 (Nat.le_refl _) ?_)
      case c1 => unfold maxLen; omega
      case c2 => omega
      intro v3 w3 hown3 hgrow3
      have HB3 : Hid (Below W1.heap.size W1 w3) := Hid.mk (Below.grown (Below.refl _ _) hgrow3 (Nat.le_refl _) (fun k hk => by cases hk))
      obtain ⟨a3, c3, rfl⟩ := own_slice hown3
      have HO3 := Hid.mk hown3
      have HC3 := Hid.mk (HCB.out.below HB3.out)
      have H3 := Hid.mk (H1.out.below HB3.out)
      obtain ⟨p0, p1, p2, p3, q1, q2⟩ := H3.out.cells
      clear hown3 hgrow3 g0 g1 g2 g3 f1 f2 s1 c1 c2 hcut1
      go_wp2_with (at_builtin; refine wpList_append_many rfl _ _ rfl Try.underlying26 hi0 hz0 hz1 hz2 rfl (by decide) (by rfl) HO3.out ab ((s.under.flatMap csU).drop ((j + 1) * 2)) d cd (by rfl) HC3.out.len HC3.out.none_ HC3.out.reads (fun u hu => one_csU _ u (List.mem_of_mem_drop hu)) ?d1 ?d2 HB3.out.size ?_)
      case d1 => unfold maxLen; omega
      case d2 => omega
      intro v4 w4 hown4 hgrow4
      have HB4 : Hid (Below W1.heap.size W1 w4) := Hid.mk (HB3.out.grown hgrow4 HB3.out.size (fun k hk => (HO3.out.lt k hk).1))
      obtain ⟨a4, c4, rfl⟩ := own_slice hown4
      obtain ⟨W4, hW4⟩ : ∃ W, W = w4.setCell ⟨wb, 1, none⟩ (.slice a4 (j + d) c4) := ⟨_, rfl⟩
      have H4 : Hid (WAt B W4 wb (.slice (some ⟨gn, 0, none⟩) k cn) (.slice a4 (j + d) c4) (.slice ta nt tc) (.slice (some ⟨gw, 0, none⟩) k cw) bs { s with under := rm s.under j } ∧ Below B w W4) := Hid.mk (by
        have ho : w4.ownsRow W1.heap.size 50 2 (.slice a4 (j + d) c4) (rm s.under j).length ((rm s.under j).flatMap csU) := by
          have hlen : (rm s.under j).length = j + d := by rw [rm, List.length_append, List.length_take, List.length_drop, ← HN.out, ← HD.out, Nat.min_eq_left (by omega)]
          have ht : (s.under.take j).flatMap csU = (s.under.flatMap csU).take (j * 2) := flat_take s.under j
          have hdr : (s.under.drop (j + 1)).flatMap csU = (s.under.flatMap csU).drop ((j + 1) * 2) := flat_drop s.under (j + 1)
          rw [hlen, rm, List.flatMap_append, ht, hdr]
          simpa using hown4
        have := H1.out.under_ (Grew.anew HB4.out ho) (ownsRow_base ho HHB.out)
        rw [hW4]
        exact ⟨this.1, HBB.out.trans this.2⟩)
      have HX4 : Hid (BoxU W4 mb (m1, m2)) := Hid.mk (by
        have := (HB4.out.block mb HMB.out.2).trans HX1.out
        rw [hW4]
        exact (Below.heap_setCell w4 ⟨wb, 1, none⟩ _ mb hmbw).trans this)
      have H4b := Hid.mk (H1.out.below HB4.out)
      obtain ⟨r0, r1, r2, r3, t1, t2⟩ := H4b.out.cells
      clear hown4 hgrow4 p0 p1 p2 p3 q1 q2 hcut2
      go_wp2_with fail
      rw [← hW4, ← HMB2.out]
      clear r0 r1 r2 r3 t1 t2
      clear hW4
      obtain ⟨u0, u1, u2, u3, uf1, uf2⟩ := H4.out.1.cells
      have n2 := H4.out.1.nodeAt (i := m2) (by show m2 < s.k; rw [← HK.out]; exact tk2)
      obtain ⟨b0, b1⟩ := HX4.out.cells
      simp only at b0 b1
      have CT := Hid.mk (takeB_any (H4.out.1.drew.nd m2 (by show m2 < s.k; rw [← HK.out]; exact tk2)).1 (m := m1) (by show m1 < s.k; rw [← HK.out]; exact tk1) hws)
      have KD : W4.drew.cell? ⟨wb, 0, none⟩ = some (.slice (some ⟨gn, 0, none⟩) k cn) ∧ W4.drew.cell? ⟨gn, m2, none⟩ = some (.pointer (some ⟨bs m2, 0, none⟩)) ∧ W4.drew.cell? ⟨mb, 0, none⟩ = some (.int .i64 (m1 : Int)) ∧ W4.drew.cell? ⟨mb, 1, none⟩ = some (.int .i64 (m2 : Int)) := ⟨u0, n2, b0, b1⟩
      have HKD := Hid.mk KD
      clear KD
      go_region_held3 (fun u => u.cell? ⟨wb, 0, none⟩ = some (.slice (some ⟨gn, 0, none⟩) k cn) ∧ u.cell? ⟨gn, m2, none⟩ = some (.pointer (some ⟨bs m2, 0, none⟩)) ∧ u.cell? ⟨mb, 0, none⟩ = some (.int .i64 (m1 : Int)) ∧ u.cell? ⟨mb, 1, none⟩ = some (.int .i64 (m2 : Int)))
        (with_reducible exact HKD.out)
        (first | (go_at_call 15; with_reducible refine CT.out.mono ?_; rintro e w5 ⟨rfl, hw5⟩; rw [hw5]; clear hw5))
      obtain ⟨W5, hW5⟩ : ∃ W, W = W4.drew := ⟨_, rfl⟩
      have H5 : Hid (WAt B W5 wb (.slice (some ⟨gn, 0, none⟩) k cn) (.slice a4 (j + d) c4) (.slice ta nt tc) (.slice (some ⟨gw, 0, none⟩) k cw) bs { s with under := rm s.under j } ∧ Below B w W5) := Hid.mk (by rw [hW5]; exact ⟨H4.out.1.drew, H4.out.2.drew⟩)
      have HX5 : Hid (BoxU W5 mb (m1, m2)) := Hid.mk (by rw [hW5]; exact HX4.out)
      rw [← hW5]
      clear hW5 u0 u1 u2 u3 uf1 uf2 n2 b0 b1
      obtain ⟨u0, u1, u2, u3, uf1, uf2⟩ := H5.out.1.cells
      have HOT : Hid (W5.ownsRow B 3 1 (.slice ta nt tc) nt (s.tells.map natV)) := Hid.mk (by have := H5.out.1.ot; simp only at this; rw [HNT.out] at this ⊢; exact this)
      have hB5 := H5.out.1.size
      go_wp2_with (at_builtin; refine wpList_append_lies _ rfl _ _ _ rfl B 3 i1 _ 1 8 Try.underlying22 hi1 hy0 hy1 hy2 rfl (by decide) (.slice ta nt tc) _ _ (by rfl) (HOT.out.alloc _) ⟨W5.heap.size, 0, none⟩ 1 1 [.int .i64 (m1 : Int)] (by rfl) (by rfl) (World.news_of_block (cs := #[.int .i64 (m1 : Int)]) (t := 3) (fr := (0, 0)) (heap_alloc_new W5 _)) (by simp [Value.oneCell']) (by decide) (by unfold maxLen; omega) (by omega) (by simp; omega) (W5.heap.size + 1) (by simp) ?_)
      intro g cap w9 hown9 hgrow9 hat9 hlt9
      obtain ⟨W9, hW9⟩ : ∃ W, W = w9.setCell ⟨wb, 2, none⟩ (.slice (some ⟨g, 0, none⟩) (nt + 1) cap) := ⟨_, rfl⟩
      have H9 : Hid (WAt B W9 wb (.slice (some ⟨gn, 0, none⟩) k cn) (.slice a4 (j + d) c4) (.slice (some ⟨g, 0, none⟩) (nt + 1) cap) (.slice (some ⟨gw, 0, none⟩) k cw) bs { s with under := rm s.under j, tells := s.tells ++ [m1] } ∧ Below B w W9) := Hid.mk (by
        have hgr : Grew W5 w9 (.slice ta nt tc) (.slice (some ⟨g, 0, none⟩) (nt + 1) cap) := Grew.lies ((Below.refl _ _).alloc (Nat.le_refl _) _) hgrow9 (by simpa using hat9)
        have ho9 : w9.ownsRow B 3 1 (.slice (some ⟨g, 0, none⟩) (nt + 1) cap) (s.tells ++ [m1]).length ((s.tells ++ [m1]).map natV) := by
          rw [List.map_append, List.length_append, List.length_singleton, ← HNT.out]; exact hown9
        obtain ⟨a1, a2⟩ := H5.out.1.tells_ hgr ho9
        rw [hW9]
        exact ⟨a1, H5.out.2.trans a2⟩)
      have HX9 : Hid (BoxU W9 mb (m1, m2)) := Hid.mk (by
        have hlt := lt_of_block HX5.out
        have e1 : w9.heap[mb]? = W5.heap[mb]? := by
          rw [hgrow9.block mb (by simp; omega) (fun e => own_ne HOT.out e.symm HX5.out (by decide) rfl), heap_alloc_old _ _ hlt]
        rw [hW9]
        exact (Below.heap_setCell w9 ⟨wb, 2, none⟩ _ mb hmbw).trans (e1.trans HX5.out))
      obtain ⟨⟨c2v, c2'⟩, fr2'⟩ : (∃ v, w9.cell? ⟨wb, 2, none⟩ = some v) ∧ w9.frozen? ⟨wb, 2, none⟩ = false := by
        have hb9 : w9.heap[wb]? = W5.heap[wb]? := by
          have hlt := lt_of_block H5.out.1.blk
          rw [hgrow9.block wb (by simp; omega) (fun e => own_ne HOT.out e.symm H5.out.1.blk (by decide) rfl), heap_alloc_old _ _ hlt]
        have hb9' := hb9.trans H5.out.1.blk
        exact ⟨⟨_, (five_cells hb9').1.2.2.1⟩, (five_cells hb9').2.2.2.1⟩
      clear hown9 hgrow9 hat9 hlt9 u0 u1 u2 u3 uf1 uf2
      have HS : Hid (∀ x, { s with under := rm s.under j, tells := s.tells ++ [m1], work := upd s.work m2 (s.work m2 + x) } = s.comeB j x (m1, m2)) := Hid.mk (fun _ => rfl)
      have HC1 : Hid (s.come1 j more (m1, m2) = s.comeB j more (m1, m2)) := Hid.mk (if_pos hws)
      go_wp2_with fail
      rw [← hW9]
      clear hW9 c2' fr2'
      obtain ⟨u0, u1, u2, u3, uf1, uf2⟩ := H9.out.1.cells
      obtain ⟨b0, b1⟩ := HX9.out.cells
      simp only at b0 b1
      obtain ⟨k0, k1⟩ := H9.out.1.workAt (i := m2) (by show m2 < s.k; rw [← HK.out]; exact tk2)
      simp only at k0
      obtain ⟨y, hy⟩ : ∃ y : Int, y = (s.work m2 : Int) := ⟨_, rfl⟩
      rw [← hy] at k0
      have hy0' : 0 ≤ y := by omega
      have hy1' : y ≤ 1000000 := by omega
      have hmI : (more : Int) ≤ 3 := by omega
      have hgwm : ¬ gw = mb := own_ne H9.out.1.ow rfl HX9.out (by decide)
      have hmgw : ¬ mb = gw := fun e => hgwm e.symm
      obtain ⟨WA, hWA⟩ : ∃ W, W = (W9.setCell ⟨gw, m2, none⟩ (.int .i64 (y + (more : Int)))).drew := ⟨_, rfl⟩
      have HA : Hid (WOk B WA wb (s.come1 j more (m1, m2)) ∧ Below B w WA) := Hid.mk (by
        have hh := H9.out.1.work_ HK.out m2 (s.work m2 + more)
        have e : natV (s.work m2 + more) = .int .i64 (y + (more : Int)) := by rw [hy]; rfl
        rw [e] at hh
        rw [hWA, HC1.out]
        exact ⟨by rw [← HS.out]; exact hh.1.drew.ok, (H9.out.2.trans hh.2).drew⟩)
      have HXA : Hid (BoxU WA mb (m1, m2)) := Hid.mk (by
        rw [hWA]
        exact (Below.heap_setCell W9 ⟨gw, m2, none⟩ _ mb hmgw).trans HX9.out)
      obtain ⟨ba0, ba1⟩ := HXA.out.cells
      simp only at ba0 ba1
      have CR := Hid.mk (rests_any HA.out.1 HTL.out (i := m2) (by rw [come1_k, ← HK.out]; exact tk2))
      clear hy
      go_region
      go_wp2_with fail
      rw [← hWA]
      clear hWA
      refine CR.out.mono ?_
      rintro e w6 ⟨rfl, h6, b6⟩
      have HFIN : Hid (CEnd B w wb s more (.returned (.tuple #[])) w6) := Hid.mk ⟨rfl, HA.out.2.trans b6, _, .inr ⟨j, (m1, m2), HM.out, rfl⟩, h6⟩
      clear h6 b6
      go_wp2
      go_end0
      exact HFIN.out
    | false =>
      go_enter Try.func9, Try.ntmps9
      go_wp2_with (at_builtin; rw [← HW1.out]; refine wpList_append_many rfl _ _ rfl Try.underlying26 hi0 hz0 hz1 hz2 rfl (by decide) (by rfl) (World.ownsRow_nil _ W1.heap.size _ _) aa ((s.under.flatMap csU).take (j * 2)) j cc (by rfl) HCA.out.len HCA.out.none_ HCA.out.reads (fun u hu => one_csU _ u (List.mem_of_mem_take hu)) ?c1 ?c2 (Nat.le_refl _) ?_)
      case c1 => unfold maxLen; omega
      case c2 => omega
      intro v3 w3 hown3 hgrow3
      have HB3 : Hid (Below W1.heap.size W1 w3) := Hid.mk (Below.grown (Below.refl _ _) hgrow3 (Nat.le_refl _) (fun k hk => by cases hk))
      obtain ⟨a3, c3, rfl⟩ := own_slice hown3
      have HO3 := Hid.mk hown3
      have HC3 := Hid.mk (HCB.out.below HB3.out)
      have H3 := Hid.mk (H1.out.below HB3.out)
      obtain ⟨p0, p1, p2, p3, q1, q2⟩ := H3.out.cells
      clear hown3 hgrow3 g0 g1 g2 g3 f1 f2 s1 c1 c2 hcut1
      go_wp2_with (at_builtin; refine wpList_append_many rfl _ _ rfl Try.underlying26 hi0 hz0 hz1 hz2 rfl (by decide) (by rfl) HO3.out ab ((s.under.flatMap csU).drop ((j + 1) * 2)) d cd (by rfl) HC3.out.len HC3.out.none_ HC3.out.reads (fun u hu => one_csU _ u (List.mem_of_mem_drop hu)) ?d1 ?d2 HB3.out.size ?_)
      case d1 => unfold maxLen; omega
      case d2 => omega
      intro v4 w4 hown4 hgrow4
      have HB4 : Hid (Below W1.heap.size W1 w4) := Hid.mk (HB3.out.grown hgrow4 HB3.out.size (fun k hk => (HO3.out.lt k hk).1))
      obtain ⟨a4, c4, rfl⟩ := own_slice hown4
      obtain ⟨W4, hW4⟩ : ∃ W, W = w4.setCell ⟨wb, 1, none⟩ (.slice a4 (j + d) c4) := ⟨_, rfl⟩
      have H4 : Hid (WAt B W4 wb (.slice (some ⟨gn, 0, none⟩) k cn) (.slice a4 (j + d) c4) (.slice ta nt tc) (.slice (some ⟨gw, 0, none⟩) k cw) bs { s with under := rm s.under j } ∧ Below B w W4) := Hid.mk (by
        have ho : w4.ownsRow W1.heap.size 50 2 (.slice a4 (j + d) c4) (rm s.under j).length ((rm s.under j).flatMap csU) := by
          have hlen : (rm s.under j).length = j + d := by rw [rm, List.length_append, List.length_take, List.length_drop, ← HN.out, ← HD.out, Nat.min_eq_left (by omega)]
          have ht : (s.under.take j).flatMap csU = (s.under.flatMap csU).take (j * 2) := flat_take s.under j
          have hdr : (s.under.drop (j + 1)).flatMap csU = (s.under.flatMap csU).drop ((j + 1) * 2) := flat_drop s.under (j + 1)
          rw [hlen, rm, List.flatMap_append, ht, hdr]
          simpa using hown4
        have := H1.out.under_ (Grew.anew HB4.out ho) (ownsRow_base ho HHB.out)
        rw [hW4]
        exact ⟨this.1, HBB.out.trans this.2⟩)
      have HX4 : Hid (BoxU W4 mb (m1, m2)) := Hid.mk (by
        have := (HB4.out.block mb HMB.out.2).trans HX1.out
        rw [hW4]
        exact (Below.heap_setCell w4 ⟨wb, 1, none⟩ _ mb hmbw).trans this)
      have H4b := Hid.mk (H1.out.below HB4.out)
      obtain ⟨r0, r1, r2, r3, t1, t2⟩ := H4b.out.cells
      clear hown4 hgrow4 p0 p1 p2 p3 q1 q2 hcut2
      go_wp2_with fail
      rw [← hW4, ← HMB2.out]
      clear r0 r1 r2 r3 t1 t2
      clear hW4
      obtain ⟨u0, u1, u2, u3, uf1, uf2⟩ := H4.out.1.cells
      have n2 := H4.out.1.nodeAt (i := m2) (by show m2 < s.k; rw [← HK.out]; exact tk2)
      obtain ⟨b0, b1⟩ := HX4.out.cells
      simp only at b0 b1
      have hm20 := hroot hws
      have CT := Hid.mk (takeW_any (w := W4.drew) (b := bs m2) (nodes := s.k) (n := s.nd m2) (by have := (H4.out.1.drew.nd m2 (by show m2 < s.k; rw [← HK.out]; exact tk2)).1; rw [decide_eq_false hm20] at this; exact this) (m := m1) (by rw [← HK.out]; exact tk1) hws)
      have HBS := Hid.mk (H4.out.1.nd m2 (by show m2 < s.k; rw [← HK.out]; exact tk2))
      have hnb1 : ¬ wb = bs m2 := blk_ne H4.out.1.blk HBS.out.1 (by decide)
      have hnb2 : ¬ gn = bs m2 := own_ne H4.out.1.on rfl HBS.out.1 (by decide)
      have hnb3 : ¬ mb = bs m2 := blk_ne HX4.out HBS.out.1 (by decide)
      have HKEEP : Hid (∀ u : World, Only (bs m2) W4.drew u → u.cell? ⟨wb, 0, none⟩ = some (.slice (some ⟨gn, 0, none⟩) k cn) ∧ u.cell? ⟨gn, m2, none⟩ = some (.pointer (some ⟨bs m2, 0, none⟩)) ∧ u.cell? ⟨mb, 0, none⟩ = some (.int .i64 (m1 : Int)) ∧ u.cell? ⟨mb, 1, none⟩ = some (.int .i64 (m2 : Int))) := Hid.mk (fun u hu => by
        have e1 : u.heap[wb]? = W4.heap[wb]? := hu.block wb hnb1
        have e2 : u.heap[gn]? = W4.heap[gn]? := hu.block gn hnb2
        have e3 : u.heap[mb]? = W4.heap[mb]? := hu.block mb hnb3
        simp only [World.cell?, e1, e2, e3] at u0 n2 b0 b1 ⊢
        exact ⟨u0, n2, b0, b1⟩)
      have KD : W4.drew.cell? ⟨wb, 0, none⟩ = some (.slice (some ⟨gn, 0, none⟩) k cn) ∧ W4.drew.cell? ⟨gn, m2, none⟩ = some (.pointer (some ⟨bs m2, 0, none⟩)) ∧ W4.drew.cell? ⟨mb, 0, none⟩ = some (.int .i64 (m1 : Int)) ∧ W4.drew.cell? ⟨mb, 1, none⟩ = some (.int .i64 (m2 : Int)) := ⟨u0, n2, b0, b1⟩
      have HKD := Hid.mk KD
      clear KD
      go_region_held3 (fun u => u.cell? ⟨wb, 0, none⟩ = some (.slice (some ⟨gn, 0, none⟩) k cn) ∧ u.cell? ⟨gn, m2, none⟩ = some (.pointer (some ⟨bs m2, 0, none⟩)) ∧ u.cell? ⟨mb, 0, none⟩ = some (.int .i64 (m1 : Int)) ∧ u.cell? ⟨mb, 1, none⟩ = some (.int .i64 (m2 : Int)))
        (first | with_reducible exact HKEEP.out _ ho5 | with_reducible exact HKD.out)
        (first | (go_at_call 15; with_reducible refine CT.out.mono ?_; rintro e w5 ⟨rfl, hn5, ho5⟩))
      obtain ⟨W9, hW9⟩ : ∃ W, W = w5 := ⟨_, rfl⟩
      have H9 : Hid (WAt B W9 wb (.slice (some ⟨gn, 0, none⟩) k cn) (.slice a4 (j + d) c4) (.slice ta nt tc) (.slice (some ⟨gw, 0, none⟩) k cw) bs { s with under := rm s.under j, nd := upd s.nd m2 ⟨(s.nd m2).owes, true, m1⟩ } ∧ Below B w W9) := Hid.mk (by
        rw [hW9]
        refine ⟨H4.out.1.drew.node (by show m2 < s.k; rw [← HK.out]; exact tk2) (by rw [decide_eq_false hm20]; exact hn5) ho5, H4.out.2.drew.trans (ho5.below HBS.out.2)⟩)
      have HX9 : Hid (BoxU W9 mb (m1, m2)) := Hid.mk (by rw [hW9]; exact (ho5.block mb hnb3).trans HX4.out)
      rw [← hW9]
      clear hW9 hn5 ho5 u0 u1 u2 u3 uf1 uf2 n2 b0 b1
      have HS : Hid (∀ x, WOk B x wb { s with under := rm s.under j, nd := upd s.nd m2 ⟨(s.nd m2).owes, true, m1⟩, work := upd s.work m2 (s.work m2 + more) } → WOk B x wb (s.comeW j more (m1, m2))) := Hid.mk (fun x hx => by
        obtain ⟨a, b, c, d, e, f⟩ := hx
        exact ⟨a, b, c, d, e, f.blk, f.lo, f.on, f.ou, f.ot, f.ow, f.ne, f.nd, f.inj⟩)
      have HC1 : Hid (s.come1 j more (m1, m2) = s.comeW j more (m1, m2)) := Hid.mk (if_neg (by rw [hws]; decide))
      go_wp2_with fail
      obtain ⟨u0, u1, u2, u3, uf1, uf2⟩ := H9.out.1.cells
      obtain ⟨b0, b1⟩ := HX9.out.cells
      simp only at b0 b1
      obtain ⟨k0, k1⟩ := H9.out.1.workAt (i := m2) (by show m2 < s.k; rw [← HK.out]; exact tk2)
      simp only at k0
      obtain ⟨y, hy⟩ : ∃ y : Int, y = (s.work m2 : Int) := ⟨_, rfl⟩
      rw [← hy] at k0
      have hy0' : 0 ≤ y := by omega
      have hy1' : y ≤ 1000000 := by omega
      have hmI : (more : Int) ≤ 3 := by omega
      have hgwm : ¬ gw = mb := own_ne H9.out.1.ow rfl HX9.out (by decide)
      have hmgw : ¬ mb = gw := fun e => hgwm e.symm
      obtain ⟨WA, hWA⟩ : ∃ W, W = (W9.setCell ⟨gw, m2, none⟩ (.int .i64 (y + (more : Int)))).drew := ⟨_, rfl⟩
      have HA : Hid (WOk B WA wb (s.come1 j more (m1, m2)) ∧ Below B w WA) := Hid.mk (by
        have hh := H9.out.1.work_ HK.out m2 (s.work m2 + more)
        have e : natV (s.work m2 + more) = .int .i64 (y + (more : Int)) := by rw [hy]; rfl
        rw [e] at hh
        rw [hWA, HC1.out]
        exact ⟨HS.out _ hh.1.drew.ok, (H9.out.2.trans hh.2).drew⟩)
      have HXA : Hid (BoxU WA mb (m1, m2)) := Hid.mk (by
        rw [hWA]
        exact (Below.heap_setCell W9 ⟨gw, m2, none⟩ _ mb hmgw).trans HX9.out)
      obtain ⟨ba0, ba1⟩ := HXA.out.cells
      simp only at ba0 ba1
      have CR := Hid.mk (rests_any HA.out.1 HTL.out (i := m2) (by rw [come1_k, ← HK.out]; exact tk2))
      clear hy
      go_region
      go_wp2_with fail
      rw [← hWA]
      clear hWA
      refine CR.out.mono ?_
      rintro e w6 ⟨rfl, h6, b6⟩
      have HFIN : Hid (CEnd B w wb s more (.returned (.tuple #[])) w6) := Hid.mk ⟨rfl, HA.out.2.trans b6, _, .inr ⟨j, (m1, m2), HM.out, rfl⟩, h6⟩
      clear h6 b6
      go_wp2
      go_end0
      exact HFIN.out
end Go.Proofs.Ytdbnbgpbbfckfaa
