/- The document's New. -/
import Derived.Test.YtfocpjplokabgaaPRef
import Derived.Test.YtfocpjplokabgaaPRefA
namespace Go.Proofs.Ytfocpjplokabgaa
open Go.RowKit Go.Shelf

/-- The document's index, as a value. -/
abbrev xV (o : R3) (v : Value) : Value := .agg #[.int .i64 o.a, .int .i64 o.b, .int .i64 o.c, v]
theorem four_cells {w : World} {b : Nat} {c0 c1 c2 c3 : Value} {t : TypeId} (h : w.heap[b]? = some (.cells #[c0, c1, c2, c3] t (0, 0))) :
    (w.cell? ⟨b, 0, none⟩ = some c0 ∧ w.cell? ⟨b, 1, none⟩ = some c1 ∧ w.cell? ⟨b, 2, none⟩ = some c2 ∧ w.cell? ⟨b, 3, none⟩ = some c3) ∧
    (w.frozen? ⟨b, 0, none⟩ = false ∧ w.frozen? ⟨b, 1, none⟩ = false ∧ w.frozen? ⟨b, 2, none⟩ = false ∧ w.frozen? ⟨b, 3, none⟩ = false) := by
  simp [World.cell?, World.frozen?, h]
abbrev set4 (w : World) (b : Nat) (u0 u1 u2 u3 : Value) : World := (((w.setCell ⟨b, 0, none⟩ u0).setCell ⟨b, 1, none⟩ u1).setCell ⟨b, 2, none⟩ u2).setCell ⟨b, 3, none⟩ u3
theorem set4_block {w : World} {b : Nat} {c0 c1 c2 c3 : Value} {t : TypeId} (h : w.heap[b]? = some (.cells #[c0, c1, c2, c3] t (0, 0))) (u0 u1 u2 u3 : Value) : (set4 w b u0 u1 u2 u3).heap[b]? = some (.cells #[u0, u1, u2, u3] t (0, 0)) := by
  simp [set4, World.setCell, Array.getElem?_modify, h]
theorem set4_below {a w : World} {B b : Nat} (h : Below B a w) (hb : B ≤ b) (u0 u1 u2 u3 : Value) : Below B a (set4 w b u0 u1 u2 u3) :=
  (((h.setCell (p := ⟨b, 0, none⟩) hb _).setCell (p := ⟨b, 1, none⟩) hb _).setCell (p := ⟨b, 2, none⟩) hb _).setCell (p := ⟨b, 3, none⟩) hb _
theorem set4_other {w : World} {b g : Nat} (hg : g ≠ b) (u0 u1 u2 u3 : Value) : (set4 w b u0 u1 u2 u3).heap[g]? = w.heap[g]? := by
  unfold set4
  rw [Below.heap_setCell _ ⟨b, 3, none⟩ _ g hg, Below.heap_setCell _ ⟨b, 2, none⟩ _ g hg, Below.heap_setCell _ ⟨b, 1, none⟩ _ g hg, Below.heap_setCell _ ⟨b, 0, none⟩ _ g hg]
theorem two_blocks (w : World) (o0 o1 : Obj) : ((w.alloc o0).alloc o1).heap[w.heap.size]? = some o0 ∧ ((w.alloc o0).alloc o1).heap[w.heap.size + 1]? = some o1 ∧ Below w.heap.size w ((w.alloc o0).alloc o1) := by
  have s1 : (w.alloc o0).heap.size = w.heap.size + 1 := by simp
  have g0 := box_at w o0
  have g1 := box_at (w.alloc o0) o1
  rw [s1] at g1
  exact ⟨(Below.heap_alloc _ o1 _ (lt_of_block g0)).trans g0, g1, ((Below.refl _ _).alloc (Nat.le_refl _) _).alloc (by omega) _⟩

set_option maxHeartbeats 2000000 in
set_option maxRecDepth 100000 in
theorem rNew_bad (r : R3) (hr : isOB r = false) (v : Value) (w : World) : Calls Try.prog 11 #[v, agg3 r] w fun e w' => e = .returned (.tuple #[xV ⟨0, 0, 0⟩ (.slice none 0 0), .int .i64 1]) ∧ Below w.heap.size w w' := by
  obtain ⟨t0, t1, t2⟩ := two_blocks w (.cells #[.int .i64 r.a, .int .i64 r.b, .int .i64 r.c] 23) (.cells #[.int .i64 0, .int .i64 0, .int .i64 0, .slice none 0 0] 30)
  obtain ⟨W1, hW1⟩ : ∃ W1, W1 = (w.alloc (.cells #[.int .i64 r.a, .int .i64 r.b, .int .i64 r.c] 23)).alloc (.cells #[.int .i64 0, .int .i64 0, .int .i64 0, .slice none 0 0] 30) := ⟨_, rfl⟩
  rw [← hW1] at t0 t1 t2
  have HW := Hid.mk hW1
  have T1 := Hid.mk t1
  have T2 := Hid.mk t2
  have C := Hid.mk (rIs_any r W1)
  rw [hr] at C
  clear hW1 t0 t1 t2 hr
  go_enter Try.func11, Try.ntmps11
  go_wp2_with fail
  rw [← HW.out]
  refine C.out.mono ?_
  rintro e w2 ⟨rfl, hb2⟩
  have e1 := (hb2.block _ (lt_of_block T1.out)).trans T1.out
  obtain ⟨⟨k0, k1, k2, k3⟩, ⟨j0, j1, j2, j3⟩⟩ := four_cells e1
  obtain ⟨⟨z0, z1, z2, z3⟩, _⟩ := four_cells (set4_block e1 (.int .i64 0) (.int .i64 0) (.int .i64 0) (.slice none 0 0))
  have Z0 := Hid.mk z0
  have Z1 := Hid.mk z1
  have Z2 := Hid.mk z2
  have Z3 := Hid.mk z3
  have BF := Hid.mk (set4_below (b := w.heap.size + 1) (T2.out.trans (hb2.mono T2.out.size)) (by omega) (.int .i64 0) (.int .i64 0) (.int .i64 0) (.slice none 0 0))
  clear z0 z1 z2 z3 hb2 e1 C
  go_wp2
  refine bodyPost_ret (v := .tuple #[xV ⟨0, 0, 0⟩ (.slice none 0 0), .int .i64 1]) ?_ rfl ⟨rfl, BF.out⟩
  simp [results, Try.results11, go_sem, Z0.out, Z1.out, Z2.out, Z3.out]
set_option maxHeartbeats 8000000 in
set_option maxRecDepth 100000 in
theorem rNew_any {o : Od} (ho : o.ok) {w : World} {v : Value} {d : List R3} (h : RowsAt w v d) : Calls Try.prog 11 #[v, agg3 o.r3] w fun e w' => ∃ ao cap L, e = .returned (.tuple #[xV o.r3 (.slice ao L.length cap), .int .i64 0]) ∧ RowsAt w' (.slice ao L.length cap) L ∧ IdxOf o d L ∧ Below w.heap.size w w' := by
  obtain ⟨t0, t1, t2⟩ := two_blocks w (.cells #[.int .i64 o.r3.a, .int .i64 o.r3.b, .int .i64 o.r3.c] 23) (.cells #[.int .i64 0, .int .i64 0, .int .i64 0, .slice none 0 0] 30)
  obtain ⟨W1, hW1⟩ : ∃ W1, W1 = (w.alloc (.cells #[.int .i64 o.r3.a, .int .i64 o.r3.b, .int .i64 o.r3.c] 23)).alloc (.cells #[.int .i64 0, .int .i64 0, .int .i64 0, .slice none 0 0] 30) := ⟨_, rfl⟩
  rw [← hW1] at t0 t1 t2
  have HW := Hid.mk hW1
  have T0 : Hid (RowB W1 w.heap.size o.r3) := Hid.mk t0
  have T1 := Hid.mk t1
  have T2 := Hid.mk t2
  have C := Hid.mk (rIs_any o.r3 W1)
  rw [isOB_od ho] at C
  have HO := Hid.mk ho
  have HV := Hid.mk h
  obtain ⟨hl, hwf, ao, cap, rfl, hcs⟩ := h
  have HWF := Hid.mk hwf
  have HCS := Hid.mk hcs
  obtain ⟨N, hN⟩ : ∃ N, N = d.length := ⟨_, rfl⟩
  have HN := Hid.mk hN
  rw [← hN] at hl ⊢
  clear hW1 t0 t1 t2 ho hwf hcs hN HV
  go_enter Try.func11, Try.ntmps11
  go_wp2_with fail
  rw [← HW.out]
  refine C.out.mono ?_
  rintro e w2 ⟨rfl, hb2⟩
  have HR2 := Hid.mk (T0.out.below hb2)
  have HX2 := Hid.mk ((hb2.block _ (lt_of_block T1.out)).trans T1.out)
  have HB2 := Hid.mk (T2.out.trans (hb2.mono T2.out.size))
  clear hb2 C
  obtain ⟨i0, hi0, hz0, hz1, hz2⟩ := info_parts infoR
  go_wp2
  obtain ⟨W, hW⟩ : ∃ W, W = w2 := ⟨_, rfl⟩
  subst hW
  go_loopw [6, 7] (fun s6 s7 wr => ∃ (i : Nat) (out : List R3), s7 = .int .i64 i ∧ i ≤ N ∧ IdxOf o (d.take i) out ∧ wr.ownsRow W.heap.size 23 3 s6 out.length (rowCs out) ∧ Below W.heap.size W wr) (fun _ s7 _ => N - (intOf s7).toNat)
  case atStart => exact ⟨0, [], rfl, by omega, idxOf_nil o, World.ownsRow_nil _ W.heap.size _ _, Below.refl _ _⟩
  case round =>
    obtain ⟨i, out, rfl, hi, hidx, hown, hbw⟩ := hrel
    obtain ⟨n, hn⟩ : ∃ n, n = out.length := ⟨_, rfl⟩
    rw [← hn] at hown
    obtain ⟨a5, c5, rfl⟩ := own_slice hown
    have hni : n ≤ i := by have := hidx.len; rw [List.length_take] at this; omega
    have HOWN := Hid.mk hown
    have HBW := Hid.mk hbw
    have HIDX := Hid.mk hidx
    have HN2 := Hid.mk hn
    have HBWW : Hid (Below w.heap.size w wr) := Hid.mk (HB2.out.trans (hbw.mono HB2.out.size))
    clear hown hbw hidx hn
    by_cases hlt : i < N
    · have hltI : (i : Int) < (N : Int) := by omega
      obtain ⟨r, hr⟩ : ∃ r, d[i]? = some r := ⟨_, List.getElem?_eq_getElem (by rw [← HN.out]; exact hlt)⟩
      rcases HCS.out with h0 | ⟨g6, off6, rfl, _, hg6, hcs6⟩
      · rw [h0] at hr; simp at hr
      have HRI : Hid (∀ w5, Below w.heap.size w w5 → w5.cell? ⟨g6, off6 + i * 3, none⟩ = some (.int .i64 r.a) ∧ w5.cell? ⟨g6, off6 + i * 3 + 1, none⟩ = some (.int .i64 r.b) ∧ w5.cell? ⟨g6, off6 + i * 3 + 2, none⟩ = some (.int .i64 r.c)) := Hid.mk (fun w5 hb5 => by
        obtain ⟨x0, x1, x2⟩ := hcs6 i r hr
        exact ⟨(hb5.cell (p := ⟨g6, off6 + i * 3, none⟩) hg6).trans x0, (hb5.cell (p := ⟨g6, off6 + i * 3 + 1, none⟩) hg6).trans x1, (hb5.cell (p := ⟨g6, off6 + i * 3 + 2, none⟩) hg6).trans x2⟩)
      have HRO : Hid (∀ w5, Below W.heap.size W w5 → w5.cell? ⟨w.heap.size, 0, none⟩ = some (.int .i64 o.r3.a) ∧ w5.cell? ⟨w.heap.size, 1, none⟩ = some (.int .i64 o.r3.b) ∧ w5.cell? ⟨w.heap.size, 2, none⟩ = some (.int .i64 o.r3.c)) := Hid.mk (fun w5 hb5 => by
        have h5 := HR2.out.below hb5
        exact ⟨(h5.cell (p := 0) (by omega)).1, (h5.cell (p := 1) (by omega)).1, (h5.cell (p := 2) (by omega)).1⟩)
      have HTK : Hid (d.take (i + 1) = d.take i ++ [r]) := Hid.mk (take_snoc hr)
      clear hr hcs6
      go_wp2
      obtain ⟨WR, hWR⟩ : ∃ WR, WR = wr := ⟨_, rfl⟩
      subst hWR
      go_loopw [8] (fun c wx => ∃ k : Nat, c = .int .i64 k ∧ k ≤ n ∧ (∀ j s, j < k → out[j]? = some s → lt o s r) ∧ Below WR.heap.size WR wx) (fun c _ => n - (intOf c).toNat)
      case atStart => exact ⟨0, rfl, by omega, fun j s hj => absurd hj (by omega), Below.refl _ _⟩
      case round =>
        obtain ⟨wx, hwx⟩ : ∃ wx, wx = wr := ⟨_, rfl⟩
        subst hwx
        obtain ⟨k, rfl, hk, hall, hbx⟩ := hrel
        have HA := Hid.mk hall
        have HBX := Hid.mk hbx
        have HXW : Hid (Below w.heap.size w wx) := Hid.mk (HBWW.out.trans (hbx.mono HBWW.out.size))
        have HXWW : Hid (Below W.heap.size W wx) := Hid.mk (HBW.out.trans (hbx.mono HBW.out.size))
        have HOX := Hid.mk (ownsRow_below HOWN.out hbx)
        clear hall hbx
        obtain ⟨⟨aH, cH, slH, hcutH⟩, ⟨aT, cT, slT, hcutT⟩⟩ := rows_cut HOX.out hk
        have CUTH := Hid.mk hcutH
        have CUTT := Hid.mk hcutT
        clear hcutH hcutT
        obtain ⟨e0, e1, e2⟩ := HRI.out wx HXW.out
        obtain ⟨s1, s2, s3⟩ := HRO.out wx HXWW.out
        by_cases hkn : k < n
        · have hknI : (k : Int) < (n : Int) := by omega
          obtain ⟨s, hs⟩ : ∃ s, out[k]? = some s := ⟨_, List.getElem?_eq_getElem (by rw [← HN2.out]; exact hkn)⟩
          obtain ⟨g5, cap5, ho5, hg5, hg5l⟩ := HOX.out.form (by omega)
          injection ho5 with ho5 _ ho6
          subst ho5 ho6
          have hrow := (grow_of_own HOX.out HN2.out).row hs
          obtain ⟨cs0, cs1, cs2⟩ := hrow
          rw [Nat.zero_add] at cs0 cs1 cs2
          have CB : Hid (∀ w5, Below wx.heap.size wx w5 → Calls Try.prog 34 #[agg3 s, agg3 r, agg3 o.r3] w5 fun e w' => e = .returned (.bool (ltB o s r)) ∧ Below wx.heap.size wx w') := Hid.mk (fun w5 hb5 => (before_any HO.out s r w5).mono (fun e w' ⟨h1, h2⟩ => ⟨h1, hb5.trans (h2.mono hb5.size)⟩))
          have HC9 : Hid (∀ w5, Below wx.heap.size wx w5 → (w5.cell? ⟨g5, k * 3, none⟩ = some (.int .i64 s.a) ∧ w5.cell? ⟨g5, k * 3 + 1, none⟩ = some (.int .i64 s.b) ∧ w5.cell? ⟨g5, k * 3 + 2, none⟩ = some (.int .i64 s.c)) ∧ (w5.cell? ⟨g6, off6 + i * 3, none⟩ = some (.int .i64 r.a) ∧ w5.cell? ⟨g6, off6 + i * 3 + 1, none⟩ = some (.int .i64 r.b) ∧ w5.cell? ⟨g6, off6 + i * 3 + 2, none⟩ = some (.int .i64 r.c)) ∧ (w5.cell? ⟨w.heap.size, 0, none⟩ = some (.int .i64 o.r3.a) ∧ w5.cell? ⟨w.heap.size, 1, none⟩ = some (.int .i64 o.r3.b) ∧ w5.cell? ⟨w.heap.size, 2, none⟩ = some (.int .i64 o.r3.c))) := Hid.mk (fun w5 hb5 => ⟨⟨(hb5.cell (p := ⟨g5, k * 3, none⟩) hg5l).trans cs0, (hb5.cell (p := ⟨g5, k * 3 + 1, none⟩) hg5l).trans cs1, (hb5.cell (p := ⟨g5, k * 3 + 2, none⟩) hg5l).trans cs2⟩, HRI.out w5 (HXW.out.trans (hb5.mono HXW.out.size)), HRO.out w5 (HXWW.out.trans (hb5.mono HXWW.out.size))⟩)
          have HD1 : Hid (Below wx.heap.size wx wx.drew) := Hid.mk (Below.refl _ _).drew
          cases hB : ltB o s r with
          | true =>
            rw [hB] at CB
            have HA2 : Hid (∀ j s, j < k + 1 → out[j]? = some s → lt o s r) := Hid.mk (fun j s' hj hs' => by
              by_cases e : j = k
              · subst e; rw [hs] at hs'; obtain rfl := Option.some.inj hs'; exact ltB_iff.1 hB
              · exact HA.out j s' (by omega) hs')
            clear hs hB slH slT
            go_wp2_with fail
            go_region_held3 (fun w' => (w'.cell? ⟨g5, k * 3, none⟩ = some (.int .i64 s.a) ∧ w'.cell? ⟨g5, k * 3 + 1, none⟩ = some (.int .i64 s.b) ∧ w'.cell? ⟨g5, k * 3 + 2, none⟩ = some (.int .i64 s.c)) ∧ (w'.cell? ⟨g6, off6 + i * 3, none⟩ = some (.int .i64 r.a) ∧ w'.cell? ⟨g6, off6 + i * 3 + 1, none⟩ = some (.int .i64 r.b) ∧ w'.cell? ⟨g6, off6 + i * 3 + 2, none⟩ = some (.int .i64 r.c)) ∧ (w'.cell? ⟨w.heap.size, 0, none⟩ = some (.int .i64 o.r3.a) ∧ w'.cell? ⟨w.heap.size, 1, none⟩ = some (.int .i64 o.r3.b) ∧ w'.cell? ⟨w.heap.size, 2, none⟩ = some (.int .i64 o.r3.c)))
              (first | exact ⟨⟨cs0, cs1, cs2⟩, ⟨e0, e1, e2⟩, ⟨s1, s2, s3⟩⟩ | exact ⟨⟨by assumption, by assumption, by assumption⟩, ⟨by assumption, by assumption, by assumption⟩, ⟨by assumption, by assumption, by assumption⟩⟩)
              (first | (go_at_call 34; refine (CB.out _ HD1.out).mono ?_; rintro e w4 ⟨rfl, hb4⟩; obtain ⟨⟨m0, m1, m2⟩, ⟨m3, m4, m5⟩, ⟨m6, m7, m8⟩⟩ := HC9.out w4 hb4; have HB4 := Hid.mk hb4; clear hb4))
            have HBN : Hid (Below WR.heap.size WR w4) := Hid.mk (HBX.out.trans (HB4.out.mono HBX.out.size))
            go_wp2
            go_roundw
            case rel => exact ⟨k + 1, by go_num, by omega, HA2.out, HBN.out⟩
            case measure => simp [intOf]; omega
          | false =>
            rw [hB] at CB
            have HNL : Hid (¬ lt o s r) := Hid.mk (fun h => by rw [ltB_iff.2 h] at hB; cases hB)
            have HS := Hid.mk hs
            clear hs hB
            go_wp2_with fail
            go_region_held3 (fun w' => (w'.cell? ⟨g5, k * 3, none⟩ = some (.int .i64 s.a) ∧ w'.cell? ⟨g5, k * 3 + 1, none⟩ = some (.int .i64 s.b) ∧ w'.cell? ⟨g5, k * 3 + 2, none⟩ = some (.int .i64 s.c)) ∧ (w'.cell? ⟨g6, off6 + i * 3, none⟩ = some (.int .i64 r.a) ∧ w'.cell? ⟨g6, off6 + i * 3 + 1, none⟩ = some (.int .i64 r.b) ∧ w'.cell? ⟨g6, off6 + i * 3 + 2, none⟩ = some (.int .i64 r.c)) ∧ (w'.cell? ⟨w.heap.size, 0, none⟩ = some (.int .i64 o.r3.a) ∧ w'.cell? ⟨w.heap.size, 1, none⟩ = some (.int .i64 o.r3.b) ∧ w'.cell? ⟨w.heap.size, 2, none⟩ = some (.int .i64 o.r3.c)))
              (first | exact ⟨⟨cs0, cs1, cs2⟩, ⟨e0, e1, e2⟩, ⟨s1, s2, s3⟩⟩ | exact ⟨⟨by assumption, by assumption, by assumption⟩, ⟨by assumption, by assumption, by assumption⟩, ⟨by assumption, by assumption, by assumption⟩⟩)
              (first | (go_at_call 34; refine (CB.out _ HD1.out).mono ?_; rintro e w4 ⟨rfl, hb4⟩; obtain ⟨⟨m0, m1, m2⟩, ⟨m3, m4, m5⟩, ⟨m6, m7, m8⟩⟩ := HC9.out w4 hb4; have HB4 := Hid.mk hb4; clear hb4))
            have HBN : Hid (Below WR.heap.size WR w4) := Hid.mk (HBX.out.trans (HB4.out.mono HBX.out.size))
            have heq := eqIn3 s r
            by_cases hsr : s = r
            · subst hsr
              rw [decide_eq_true rfl] at heq
              clear slH slT
              go_wp2_with fail
              go_region
              have HSK : Hid (IdxOf o (d.take (i + 1)) out) := Hid.mk (by rw [HTK.out]; exact HIDX.out.skip (List.mem_of_getElem? HS.out))
              have HO4 : Hid (w4.ownsRow W.heap.size 23 3 (.slice (some ⟨g5, 0, none⟩) n c5) out.length (rowCs out)) := Hid.mk (by rw [← HN2.out]; exact ownsRow_below HOX.out HB4.out)
              have HBF : Hid (Below W.heap.size W w4) := Hid.mk (HXWW.out.trans (HB4.out.mono HXWW.out.size))
              go_wp2
              go_roundw
              case rel => exact ⟨i + 1, out, by go_num, by omega, HSK.out, HO4.out, HBF.out.drew⟩
              case measure => simp [intOf]; omega
            · rw [decide_eq_false hsr] at heq
              have CUTHY := Hid.mk (CUTH.out.below HB4.out)
              have CUTTY := Hid.mk (CUTT.out.below HB4.out)
              obtain ⟨wy, hwy⟩ : ∃ wy, wy = w4 := ⟨_, rfl⟩
              subst hwy
              have HYW : Hid (Below w.heap.size w wy) := Hid.mk (HXW.out.trans (HB4.out.mono HXW.out.size))
              have HBY := HBN
              have HINS : Hid (IdxOf o (d.take (i + 1)) (out.take k ++ r :: out.drop k)) := Hid.mk (by
                rw [HTK.out]
                exact HIDX.out.ins HO.out (by rw [← HN2.out]; exact hk) HA.out (fun s' hs' => by
                  rw [HS.out] at hs'; obtain rfl := Option.some.inj hs'; exact ⟨HNL.out, hsr⟩))
              go_wp2_with fail
              go_region
              go_wp2_with (at_builtin; refine wpList_append_many rfl _ _ rfl Try.underlying22 hi0 hz0 hz1 hz2 rfl (by decide) (by rfl) (World.ownsRow_nil _ wy.heap.size _ _) aH (rowCs (out.take k)) k cH (by rfl) CUTHY.out.len CUTHY.out.none_ CUTHY.out.reads (rowCs_one _) ?c1 ?c2 (Nat.le_refl _) ?_)
              case c1 => unfold maxLen; omega
              case c2 => omega
              intro v1 w1 hown1 hgrow1
              have HB1 : Hid (Below wy.heap.size wy w1) := Hid.mk (Below.grown (Below.refl _ _).drew hgrow1 (Nat.le_refl _) (fun k hk => by cases hk))
              obtain ⟨a7, c7, rfl⟩ := own_slice hown1
              have HO1 := Hid.mk hown1
              have HXX := Hid.mk (HYW.out.trans (HB1.out.mono HYW.out.size))
              obtain ⟨y0, y1, y2⟩ := HRI.out w1 HXX.out
              clear hown1 hgrow1 slH
              go_wp2_with (at_builtin; refine wpList_append_lies _ rfl _ _ _ rfl wy.heap.size 23 i0 _ 3 24 Try.underlying22 hi0 hz0 hz1 hz2 rfl (by decide) (.slice a7 k c7) _ _ (by rfl) (HO1.out.alloc _) ⟨w1.heap.size, 0, none⟩ 1 1 (enc3 r) (by rfl) (by rfl) ?d1 ?d2 (by decide) ?d3 ?d4 ?d5 (w1.heap.size + 1) (by simp) ?_)
              case d1 => exact World.news_of_block (cs := #[.int .i64 r.a, .int .i64 r.b, .int .i64 r.c]) (t := 23) (fr := (0, 0)) (heap_alloc_new w1 _)
              case d2 => intro u hu; simp [enc3] at hu; rcases hu with rfl | rfl | rfl <;> rfl
              case d3 => unfold maxLen; omega
              case d4 => omega
              case d5 => have := HB1.out.size; simp; omega
              intro gg cap8 w8 hown8 hgrow8 _ _
              have HB8 : Hid (Below wy.heap.size wy w8) := Hid.mk ((HB1.out.alloc HB1.out.size _).grown hgrow8 (by have := HB1.out.size; simp; omega) (fun k hk => (HO1.out.lt k hk).1))
              have HO8 := Hid.mk hown8
              have CUTT8 := Hid.mk (CUTTY.out.below HB8.out)
              clear hown8 hgrow8 y0 y1 y2
              go_wp2_with (at_builtin; refine wpList_append_many rfl _ _ rfl Try.underlying22 hi0 hz0 hz1 hz2 rfl (by decide) (by rfl) HO8.out aT (rowCs (out.drop k)) (n - k) cT (by rfl) CUTT8.out.len CUTT8.out.none_ CUTT8.out.reads (rowCs_one _) ?f1 ?f2 HB8.out.size ?_)
              case f1 => unfold maxLen; omega
              case f2 => omega
              intro v9 w9 hown9 hgrow9
              have HB9 : Hid (Below wy.heap.size wy w9) := Hid.mk (HB8.out.grown hgrow9 HB8.out.size (fun k hk => (HO8.out.lt k hk).1))
              have HO9 : Hid (w9.ownsRow W.heap.size 23 3 v9 (out.take k ++ r :: out.drop k).length (rowCs (out.take k ++ r :: out.drop k))) := Hid.mk (by
                have e1 : rowCs (out.take k ++ r :: out.drop k) = rowCs (out.take k) ++ (enc3 r ++ rowCs (out.drop k)) := by
                  rw [rowCs_append]; rfl
                have e2 : (out.take k ++ r :: out.drop k).length = k + 1 + (n - k) := by
                  rw [List.length_append, List.length_cons, List.length_take, List.length_drop, ← HN2.out]; omega
                rw [e1, e2]
                exact ownsRow_base hown9 (Nat.le_trans HBW.out.size HBY.out.size))
              have HBF : Hid (Below W.heap.size W w9) := Hid.mk (HBW.out.trans ((HBY.out.trans (HB9.out.mono HBY.out.size)).mono HBW.out.size))
              clear hown9 hgrow9
              go_wp2
              go_roundw
              case rel => exact ⟨i + 1, out.take k ++ r :: out.drop k, by go_num, by omega, HINS.out, HO9.out, HBF.out⟩
              case measure => simp [intOf]; omega
        · have hknI : ¬ (k : Int) < (n : Int) := by omega
          have CUTHY := CUTH
          have CUTTY := CUTT
          obtain ⟨wy, hwy⟩ : ∃ wy, wy = wx := ⟨_, rfl⟩
          subst hwy
          have HYW := HXW
          have HBY := HBX
          have HINS : Hid (IdxOf o (d.take (i + 1)) (out.take k ++ r :: out.drop k)) := Hid.mk (by
            rw [HTK.out]
            exact HIDX.out.ins HO.out (by rw [← HN2.out]; exact hk) HA.out (fun s' hs' => by
              rw [List.getElem?_eq_none (by rw [← HN2.out]; omega)] at hs'; cases hs'))
          go_wp2_with fail
          go_region
          go_wp2_with fail
          go_region
          go_wp2_with (at_builtin; refine wpList_append_many rfl _ _ rfl Try.underlying22 hi0 hz0 hz1 hz2 rfl (by decide) (by rfl) (World.ownsRow_nil _ wy.heap.size _ _) aH (rowCs (out.take k)) k cH (by rfl) CUTHY.out.len CUTHY.out.none_ CUTHY.out.reads (rowCs_one _) ?c1 ?c2 (Nat.le_refl _) ?_)
          case c1 => unfold maxLen; omega
          case c2 => omega
          intro v1 w1 hown1 hgrow1
          have HB1 : Hid (Below wy.heap.size wy w1) := Hid.mk (Below.grown (Below.refl _ _).drew.drew hgrow1 (Nat.le_refl _) (fun k hk => by cases hk))
          obtain ⟨a7, c7, rfl⟩ := own_slice hown1
          have HO1 := Hid.mk hown1
          have HXX := Hid.mk (HYW.out.trans (HB1.out.mono HYW.out.size))
          obtain ⟨y0, y1, y2⟩ := HRI.out w1 HXX.out
          clear hown1 hgrow1 slH
          go_wp2_with (at_builtin; refine wpList_append_lies _ rfl _ _ _ rfl wy.heap.size 23 i0 _ 3 24 Try.underlying22 hi0 hz0 hz1 hz2 rfl (by decide) (.slice a7 k c7) _ _ (by rfl) (HO1.out.alloc _) ⟨w1.heap.size, 0, none⟩ 1 1 (enc3 r) (by rfl) (by rfl) ?d1 ?d2 (by decide) ?d3 ?d4 ?d5 (w1.heap.size + 1) (by simp) ?_)
          case d1 => exact World.news_of_block (cs := #[.int .i64 r.a, .int .i64 r.b, .int .i64 r.c]) (t := 23) (fr := (0, 0)) (heap_alloc_new w1 _)
          case d2 => intro u hu; simp [enc3] at hu; rcases hu with rfl | rfl | rfl <;> rfl
          case d3 => unfold maxLen; omega
          case d4 => omega
          case d5 => have := HB1.out.size; simp; omega
          intro gg cap8 w8 hown8 hgrow8 _ _
          have HB8 : Hid (Below wy.heap.size wy w8) := Hid.mk ((HB1.out.alloc HB1.out.size _).grown hgrow8 (by have := HB1.out.size; simp; omega) (fun k hk => (HO1.out.lt k hk).1))
          have HO8 := Hid.mk hown8
          have CUTT8 := Hid.mk (CUTTY.out.below HB8.out)
          clear hown8 hgrow8 y0 y1 y2
          go_wp2_with (at_builtin; refine wpList_append_many rfl _ _ rfl Try.underlying22 hi0 hz0 hz1 hz2 rfl (by decide) (by rfl) HO8.out aT (rowCs (out.drop k)) (n - k) cT (by rfl) CUTT8.out.len CUTT8.out.none_ CUTT8.out.reads (rowCs_one _) ?f1 ?f2 HB8.out.size ?_)
          case f1 => unfold maxLen; omega
          case f2 => omega
          intro v9 w9 hown9 hgrow9
          have HB9 : Hid (Below wy.heap.size wy w9) := Hid.mk (HB8.out.grown hgrow9 HB8.out.size (fun k hk => (HO8.out.lt k hk).1))
          have HO9 : Hid (w9.ownsRow W.heap.size 23 3 v9 (out.take k ++ r :: out.drop k).length (rowCs (out.take k ++ r :: out.drop k))) := Hid.mk (by
            have e1 : rowCs (out.take k ++ r :: out.drop k) = rowCs (out.take k) ++ (enc3 r ++ rowCs (out.drop k)) := by
              rw [rowCs_append]; rfl
            have e2 : (out.take k ++ r :: out.drop k).length = k + 1 + (n - k) := by
              rw [List.length_append, List.length_cons, List.length_take, List.length_drop, ← HN2.out]; omega
            rw [e1, e2]
            exact ownsRow_base hown9 (Nat.le_trans HBW.out.size HBY.out.size))
          have HBF : Hid (Below W.heap.size W w9) := Hid.mk (HBW.out.trans ((HBY.out.trans (HB9.out.mono HBY.out.size)).mono HBW.out.size))
          clear hown9 hgrow9
          go_wp2
          go_roundw
          case rel => exact ⟨i + 1, out.take k ++ r :: out.drop k, by go_num, by omega, HINS.out, HO9.out, HBF.out⟩
          case measure => simp [intOf]; omega
    · have hnI : ¬ (i : Int) < (N : Int) := by omega
      have hiN : i = d.length := by rw [← HN.out]; omega
      have HFI : Hid (IdxOf o d out) := Hid.mk (by have := HIDX.out; rw [hiN, List.take_of_length_le (Nat.le_refl _)] at this; exact this)
      have HRX := Hid.mk (HR2.out.below HBW.out)
      have e1 := (HBW.out.block _ (lt_of_block HX2.out)).trans HX2.out
      obtain ⟨⟨k0, k1, k2, k3⟩, ⟨j0, j1, j2, j3⟩⟩ := four_cells e1
      have r0 := (HRX.out.cell (p := 0) (by omega)).1
      have r1 := (HRX.out.cell (p := 1) (by omega)).1
      have r2 := (HRX.out.cell (p := 2) (by omega)).1
      simp only [R3.at] at r0 r1 r2
      obtain ⟨⟨z0, z1, z2, z3⟩, _⟩ := four_cells (set4_block e1 (.int .i64 o.r3.a) (.int .i64 o.r3.b) (.int .i64 o.r3.c) (.slice a5 n c5))
      have Z0 := Hid.mk z0
      have Z1 := Hid.mk z1
      have Z2 := Hid.mk z2
      have Z3 := Hid.mk z3
      have BF := Hid.mk (set4_below (b := w.heap.size + 1) HBWW.out (by omega) (.int .i64 o.r3.a) (.int .i64 o.r3.b) (.int .i64 o.r3.c) (.slice a5 n c5))
      have HRW : Hid (RowsAt (set4 wr (w.heap.size + 1) (.int .i64 o.r3.a) (.int .i64 o.r3.b) (.int .i64 o.r3.c) (.slice a5 n c5)) (.slice a5 out.length c5) out) := Hid.mk (by
        have hlt1 := lt_of_block HX2.out
        refine own_rows (B := W.heap.size) (owns_key (w := wr) (by rw [← HN2.out]; exact HOWN.out) (fun g o' hg ho' => ?_)) (by rw [← HN2.out]; omega) (fun r hr => HWF.out r ((HFI.out.mem r).1 hr))
        rw [← HN2.out] at hg
        have := (HOWN.out.lt g hg).1
        rw [set4_other (by omega)]
        exact ho')
      have HE : Hid (RowsAt (set4 wr (w.heap.size + 1) (.int .i64 o.r3.a) (.int .i64 o.r3.b) (.int .i64 o.r3.c) (.slice a5 n c5)) (.slice a5 n c5) out) := Hid.mk (by have := HRW.out; rw [← HN2.out] at this; exact this)
      clear z0 z1 z2 z3 e1 hiN
      go_wp2
      refine bodyPost_ret (v := .tuple #[xV o.r3 (.slice a5 n c5), .int .i64 0]) ?_ rfl ⟨a5, c5, out, by rw [← HN2.out], by rw [← HN2.out]; exact HE.out, HFI.out, BF.out⟩
      simp [results, Try.results11, go_sem, Z0.out, Z1.out, Z2.out, Z3.out]
end Go.Proofs.Ytfocpjplokabgaa
