/- The statement of a walk that stands where the document's does. -/
import Derived.Test.YtfocpjplokabgaaPWalksM
namespace Go.Proofs.Ytfocpjplokabgaa
open Go.RowKit Go.Shelf

set_option maxHeartbeats 16000000 in
set_option maxRecDepth 100000 in
theorem permWalks_walk (v : Value) (rs : List R3) (z : R3) (vs : Value) (ss : List StepD) (w : World) (hv : RowsAt w v rs) (_hz : z.wf) (hst : StepsAt w vs ss) :
    Calls Try.prog 4 #[v, agg3 z, vs] w fun e w' => e = .returned (.bool true) ∧ Below w.heap.size w w' := by
  obtain ⟨W1, hW1⟩ : ∃ W1, W1 = w.alloc (.cells #[.int .i64 z.a, .int .i64 z.b, .int .i64 z.c] 23) := ⟨_, rfl⟩
  have hb1 : Below w.heap.size w W1 := by rw [hW1]; exact (Below.refl _ _).alloc (Nat.le_refl _) _
  have hblk : RowB W1 w.heap.size z := by rw [hW1]; exact box_at w _
  have HV := Hid.mk (hv.below hb1)
  have HRB := Hid.mk hblk
  have HW1 := Hid.mk hW1
  have HB1 := Hid.mk hb1
  obtain ⟨_, _, ao, cap, rfl, _⟩ := hv
  obtain ⟨hsl, asl, cs, rfl, hsc⟩ := hst
  have HSC := Hid.mk hsc
  obtain ⟨N, hN⟩ : ∃ N, N = rs.length := ⟨_, rfl⟩
  obtain ⟨M, hM⟩ : ∃ M, M = ss.length := ⟨_, rfl⟩
  have HN := Hid.mk hN
  have HM := Hid.mk hM
  rw [← hN] at HV ⊢
  rw [← hM] at hsl ⊢
  clear hN hM hb1 hblk hW1 hsc
  have HC : Hid (∀ w5, RowB w5 w.heap.size z → w5.cell? ⟨w.heap.size, 0, none⟩ = some (.int .i64 z.a) ∧ w5.cell? ⟨w.heap.size, 1, none⟩ = some (.int .i64 z.b) ∧ w5.cell? ⟨w.heap.size, 2, none⟩ = some (.int .i64 z.c)) := Hid.mk (fun w5 h5 => ⟨(h5.cell (p := 0) (by omega)).1, (h5.cell (p := 1) (by omega)).1, (h5.cell (p := 2) (by omega)).1⟩)
  cases hz : isOB z with
  | false =>
    have C1 := Hid.mk (new_bad z hz (.slice ao N cap) W1)
    have HZ := Hid.mk hz
    clear hz
    go_enter Try.func4, Try.ntmps4
    go_wp2_with fail
    rw [← HW1.out]
    refine C1.out.mono ?_
    rintro e w2 ⟨rfl, hb2⟩
    have HB2 : Hid (Below w.heap.size w w2) := Hid.mk (HB1.out.trans (hb2.mono HB1.out.size))
    obtain ⟨c0, c1, c2⟩ := HC.out w2 (HRB.out.below hb2)
    have C2 := Hid.mk (rIs_any z w2)
    rw [HZ.out] at C2
    clear hb2 C1
    go_wp2_with fail
    refine C2.out.mono ?_
    rintro e w3 ⟨rfl, hb3⟩
    have HB3 : Hid (Below w.heap.size w w3) := Hid.mk (HB2.out.trans (hb3.mono HB2.out.size))
    clear hb3 C2 c0 c1 c2
    go_wp2_with fail
    refine (awake_any _).mono ?_
    rintro e w4 ⟨rfl, hb4⟩
    have HF : Hid (Below w.heap.size w w4) := Hid.mk (HB3.out.trans (hb4.mono HB3.out.size))
    clear hb4
    go_wp2
    go_ret
    exact ⟨rfl, HF.out⟩
  | true =>
    obtain ⟨o, ho, rfl⟩ := (isOB_iff z).1 hz
    have HO := Hid.mk ho
    have HZ := Hid.mk hz
    have C1 := Hid.mk (indx_new (w := w) HO.out HV.out HB1.out)
    clear hz ho
    by_cases hbig : 60 < N
    · have hbigI : (60 : Int) < (N : Int) := by omega
      go_enter Try.func4, Try.ntmps4
      go_wp2_with fail
      rw [← HW1.out]
      refine C1.out.mono ?_
      rintro e w2 ⟨xx, vx, L, rfl, hix, hdx, hb2⟩
      have HB2 : Hid (Below w.heap.size w w2) := Hid.mk hix.2
      obtain ⟨c0, c1, c2⟩ := HC.out w2 (HRB.out.below hb2)
      have C2 := Hid.mk (rIs_any o.r3 w2)
      rw [HZ.out] at C2
      clear hix hdx hb2 C1
      go_wp2_with fail
      refine C2.out.mono ?_
      rintro e w3 ⟨rfl, hb3⟩
      have HB3 : Hid (Below w.heap.size w w3) := Hid.mk (HB2.out.trans (hb3.mono HB2.out.size))
      clear hb3 C2 c0 c1 c2
      go_wp2_with fail
      refine (awake_any _).mono ?_
      rintro e w4 ⟨rfl, hb4⟩
      have HF : Hid (Below w.heap.size w w4) := Hid.mk (HB3.out.trans (hb4.mono HB3.out.size))
      clear hb4
      go_wp2
      go_ret
      exact ⟨rfl, HF.out⟩
    · have hbigI : ¬ (60 : Int) < (N : Int) := by omega
      go_enter Try.func4, Try.ntmps4
      go_wp2_with fail
      rw [← HW1.out]
      refine C1.out.mono ?_
      rintro e w2 ⟨xx, vx, L, rfl, hix, hdx, hb2⟩
      have HIX := Hid.mk hix
      have HDX := Hid.mk hdx
      obtain ⟨c0, c1, c2⟩ := HC.out w2 (HRB.out.below hb2)
      have C2 := Hid.mk (rNew_any HO.out (HV.out.below hb2))
      clear hix hdx hb2 C1
      go_wp2_with fail
      refine C2.out.mono ?_
      rintro e w3 ⟨aq, cq, Lq, rfl, hrq, hdq, hb3⟩
      have HLQ : Lq = L := hdq.unique HDX.out (fun _ => Iff.rfl)
      subst HLQ
      obtain ⟨K, hK⟩ : ∃ K, K = Lq.length := ⟨_, rfl⟩
      have HI3 := Hid.mk (HIX.out.below hb3)
      have HRQ := Hid.mk hrq
      rw [← hK] at HRQ ⊢
      obtain ⟨W4, hW4⟩ : ∃ W4, W4 = w3.alloc (.cells #[.int .i64 o.r3.a, .int .i64 o.r3.b, .int .i64 o.r3.c, .slice aq K cq] 30) := ⟨_, rfl⟩
      have hal4 : Below w3.heap.size w3 W4 := by rw [hW4]; exact (Below.refl _ _).alloc (Nat.le_refl _) _
      have hbx4 : W4.heap[w3.heap.size]? = some (.cells #[.int .i64 o.r3.a, .int .i64 o.r3.b, .int .i64 o.r3.c, .slice aq K cq] 30 (0, 0)) := by rw [hW4]; exact box_at w3 _
      have HI4 := Hid.mk (HI3.out.below hal4)
      have HRQ4 := Hid.mk (HRQ.out.below hal4)
      have HQ4 := Hid.mk hbx4
      have HW4 := Hid.mk hW4
      have CW := Hid.mk (walk_any HI4.out.1 (low_all W4))
      clear hK hW4 hrq hdq hb3 C2 c0 c1 c2 HIX HI3 HRQ hal4 hbx4
      obtain ⟨b, hb⟩ : ∃ b, b = W4.heap.size := ⟨_, rfl⟩
      rw [← hb] at CW
      have HBQ := Hid.mk hb
      clear hb
      go_wp2_with fail
      rw [← HW4.out]
      refine CW.out.mono ?_
      rintro e w5 ⟨rfl, hw5, hb5, hz5⟩
      have hb5' : Below W4.heap.size W4 w5 := by rw [← HBQ.out]; exact hb5
      have HZ5 := Hid.mk hz5
      have hq5 := (hb5'.block _ (lt_of_block HQ4.out)).trans HQ4.out
      obtain ⟨⟨q0, q1, q2, q3⟩, _⟩ := four_cells hq5
      have HST0 : Hid (WkS w b xx vx (.slice aq K cq) (.slice none 0 0) o Lq ⟨[], false⟩ (w5.alloc (.cells #[.int .i64 o.r3.a, .int .i64 o.r3.b, .int .i64 o.r3.c, .slice aq K cq, .slice none 0 0, .bool false] 43))) := Hid.mk (by
        have hal : Below w5.heap.size w5 (w5.alloc (.cells #[.int .i64 o.r3.a, .int .i64 o.r3.b, .int .i64 o.r3.c, .slice aq K cq, .slice none 0 0, .bool false] 43)) := (Below.refl _ _).alloc (Nat.le_refl _) _
        have hbx := box_at w5 (.cells #[.int .i64 o.r3.a, .int .i64 o.r3.b, .int .i64 o.r3.c, .slice aq K cq, .slice none 0 0, .bool false] 43)
        rw [hz5] at hbx
        have hbel : Below w.heap.size w w5 := HI4.out.2.trans (hb5'.mono HI4.out.2.size)
        have hlow : w.heap.size ≤ b := by rw [HBQ.out]; exact HI4.out.2.size
        refine ⟨hlow, hw5.below hal, hbx, ⟨?_, IntsS.nil _ _⟩, hbel.trans (hal.mono hbel.size)⟩
        have hr6 := ((HRQ4.out.sub (T := fun k => k < b) (fun k _ hl => by rw [HBQ.out]; exact hl)).below hb5').below hal
        exact hr6.sub (fun k hk _ => ⟨by omega, by omega⟩))
      clear hw5 hb5 hb5' hz5 CW HI4 HRQ4 HQ4 hq5
      have HSTR := Hid.mk HDX.out.strict
      go_wp2
      rw [HZ5.out]
      go_loopw [13] (fun c wr => ∃ (i : Nat) (s : Wk) (va : Value), c = .int .i64 i ∧ i ≤ 200 ∧ WkS w b xx vx (.slice aq K cq) va o Lq s wr) (fun c _ => 200 - (intOf c).toNat)
      case atStart => exact ⟨0, ⟨[], false⟩, _, rfl, by omega, HST0.out⟩
      case round =>
        obtain ⟨i, s, va, rfl, hi, hks⟩ := hrel
        clear HST0
        by_cases him : i < M
        · have himI : (i : Int) < (M : Int) := by omega
          by_cases hi2 : i < 200
          · have hi2I : (i : Int) < 200 := by omega
            obtain ⟨st, hst⟩ : ∃ st, ss[i]? = some st := ⟨_, List.getElem?_eq_getElem (by rw [← HM.out]; exact him)⟩
            rcases HSC.out with h0 | ⟨gs, offs, rfl, hgs, hcs⟩
            · rw [h0] at hst; simp at hst
            obtain ⟨x0, x1⟩ := hcs i st hst
            obtain ⟨kd, hkd⟩ : ∃ kd, kd = st.kind := ⟨_, rfl⟩
            obtain ⟨sn, hsn⟩ : ∃ sn, sn = st.n := ⟨_, rfl⟩
            rw [← hkd] at x0
            rw [← hsn] at x1
            have HX : Hid (∀ w9, Below w.heap.size w w9 → w9.cell? ⟨gs, offs + i * 2, none⟩ = some (.int .i64 kd) ∧ w9.cell? ⟨gs, offs + i * 2 + 1, none⟩ = some (.int .i64 sn)) := Hid.mk (fun w9 hb9 => ⟨(hb9.cell (p := ⟨gs, offs + i * 2, none⟩) hgs).trans x0, (hb9.cell (p := ⟨gs, offs + i * 2 + 1, none⟩) hgs).trans x1⟩)
            obtain ⟨aa, ca, hva, _, _, _⟩ := id hks.d.at_
            obtain ⟨m, hm⟩ : ∃ m, m = s.p.length := ⟨_, rfl⟩
            rw [← hm] at hva
            subst hva
            have HKS := Hid.mk hks
            have HN0 := Hid.mk hks.start
            obtain ⟨⟨v0, v1, v2, v3, v4, v5⟩, _⟩ := six_cells hks.v_
            have hgv : b + 1 < wr.heap.size := lt_of_block hks.v_
            obtain ⟨gn, hgn⟩ : ∃ gn, gn = wr.heap.size := ⟨_, rfl⟩
            rw [← hgn] at HN0 hgv
            have HGN := Hid.mk hgn
            obtain ⟨W6, hW6⟩ : ∃ W6, W6 = wr.alloc (.cells #[.int .i64 o.r3.a, .int .i64 o.r3.b, .int .i64 o.r3.c, .slice aq K cq, .slice aa m ca, .bool s.bh] 43) := ⟨_, rfl⟩
            rw [← hW6] at HN0
            have HW6 := Hid.mk hW6
            have HWK := Hid.mk hks.wk.ok
            obtain ⟨bh, hbh⟩ : ∃ bh, bh = s.bh := ⟨_, rfl⟩
            have HBH := Hid.mk hbh
            rw [← hbh] at v5 HW6
            obtain ⟨y0, y1⟩ := HX.out wr hks.bel
            have z01 := HX.out W6 HN0.out.bel
            obtain ⟨z0, z1⟩ := z01
            rw [hW6, ← hbh] at z0 z1
            obtain ⟨⟨u0, u1, u2, u3, u4, u5⟩, _⟩ := six_cells HN0.out.v_
            rw [hW6, ← hbh] at u0 u1 u2 u3 u4 u5
            clear hks hst hcs x0 x1 hkd hsn hm hgn hW6 hbh
            by_cases hk1 : kd = 1
            · subst hk1
              have CO := Hid.mk (HN0.out.open)
              obtain ⟨s2, hs2⟩ : ∃ s2, s2 = (wOpen o Lq s).1 := ⟨_, rfl⟩
              obtain ⟨E, hE⟩ : ∃ E, E = (wOpen o Lq s).2 := ⟨_, rfl⟩
              rw [← hs2, ← hE] at CO
              have HS2 := Hid.mk hs2
              have HE := Hid.mk hE
              clear hs2 hE
              go_wp2_with fail
              rw [← HW6.out, ← HGN.out]
              refine CO.out.mono ?_
              rintro e w7 ⟨rfl, h7⟩
              obtain ⟨⟨p0, p1, p2, p3, p4, p5⟩, _⟩ := six_cells h7.v_
              rw [← HBH.out] at p5
              have CD := Hid.mk (h7.doc (fun S hd => rOpen_any HO.out HSTR.out hd HWK.out))
              rw [← HS2.out, ← HE.out, ← HBH.out] at CD
              clear h7 CO u0 u1 u2 u3 u4 u5 v0 v1 v2 v3 v4 v5 y0 y1 z0 z1 HN0
              go_wp2_with fail
              refine CD.out.mono ?_
              rintro e w8 ⟨aa2, ca2, rfl, h8, hd8⟩
              obtain ⟨m2, hm2⟩ : ∃ m2, m2 = s2.p.length := ⟨_, rfl⟩
              obtain ⟨bh2, hbh2⟩ : ∃ bh2, bh2 = s2.bh := ⟨_, rfl⟩
              rw [← hm2] at hd8 ⊢
              rw [← hbh2]
              have HM2 := Hid.mk hm2
              have HBH2 := Hid.mk hbh2
              have hwks := h8.put hd8
              rw [← hbh2] at hwks
              obtain ⟨_, ⟨n0, n1, n2, n3, n4, n5⟩⟩ := six_cells h8.n_
              obtain ⟨⟨j0, j1, j2, j3, j4, j5⟩, _⟩ := six_cells h8.n_
              obtain ⟨⟨a0, a1, a2, a3, a4, a5⟩, _⟩ := six_cells (set6_block h8.n_ (.int .i64 o.r3.a) (.int .i64 o.r3.b) (.int .i64 o.r3.c) (.slice aq K cq) (.slice aa2 m2 ca2) (.bool bh2))
              obtain ⟨⟨d0, d1, d2, d3, d4, d5⟩, ⟨f0, f1, f2, f3, f4, f5⟩⟩ := six_cells ((set6_other (show b + 1 ≠ gn by omega) (.int .i64 o.r3.a) (.int .i64 o.r3.b) (.int .i64 o.r3.c) (.slice aq K cq) (.slice aa2 m2 ca2) (.bool bh2)).trans h8.v_)
              obtain ⟨WS, hWS⟩ : ∃ WS, WS = set6 (set6 w8 gn (.int .i64 o.r3.a) (.int .i64 o.r3.b) (.int .i64 o.r3.c) (.slice aq K cq) (.slice aa2 m2 ca2) (.bool bh2)) (b + 1) (.int .i64 o.r3.a) (.int .i64 o.r3.b) (.int .i64 o.r3.c) (.slice aq K cq) (.slice aa2 m2 ca2) (.bool bh2) := ⟨_, rfl⟩
              rw [← hWS] at hwks
              have hWS' := hWS
              unfold set6 at hWS'
              have HWS := Hid.mk hWS'
              clear hWS'
              have T8 := Hid.mk hwks
              have CK := Hid.mk hwks.key
              obtain ⟨k1, hk1'⟩ : ∃ k1, k1 = (wKey s2).1 := ⟨_, rfl⟩
              obtain ⟨k2, hk2'⟩ : ∃ k2, k2 = (wKey s2).2 := ⟨_, rfl⟩
              have HK1 := Hid.mk hk1'
              have HK2 := Hid.mk hk2'
              rw [← hk1', ← hk2'] at CK
              clear h8 hd8 hm2 hbh2 hwks hWS hk1' hk2' CD
              go_wp2_with fail
              rw [← HWS.out]
              refine CK.out.mono ?_
              rintro e w9 ⟨rfl, h9⟩
              obtain ⟨⟨g0, g1, g2, g3, g4, g5⟩, _⟩ := six_cells h9.v_
              rw [← HBH2.out] at g5
              have CR := Hid.mk h9.rkey
              rw [← HK1.out, ← HK2.out, ← HBH2.out] at CR
              clear h9 CK T8 n0 n1 n2 n3 n4 n5 j0 j1 j2 j3 j4 j5 a0 a1 a2 a3 a4 a5 d0 d1 d2 d3 d4 d5 f0 f1 f2 f3 f4 f5
              go_wp2_with fail
              refine CR.out.mono ?_
              rintro e w10 ⟨rfl, h10⟩
              obtain ⟨⟨_, _, _, _, l4, _⟩, _⟩ := six_cells h10.v_
              have hdr : Below w10.heap.size w10 w10.drew := (Below.refl _ _).drew
              have CP := Hid.mk (h10.below hdr).depth
              rw [← HM2.out] at CP
              clear h10 hdr CR g0 g1 g2 g3 g4 g5
              go_wp2_with fail
              go_region_held3 (fun w' => w'.cell? ⟨b + 1, 4, none⟩ = some (.slice aa2 m2 ca2))
                (first | exact l4 | assumption)
                (first | (go_at_call 27; refine CP.out.mono ?_; rintro e w11 ⟨rfl, h11⟩; obtain ⟨⟨_, _, _, _, l5, _⟩, _⟩ := six_cells h11.v_; have T11 := Hid.mk h11; clear h11))
              go_wp2
              go_roundw
              case rel => exact ⟨i + 1, s2, .slice aa2 m2 ca2, by go_num, by omega, T11.out⟩
              case measure => simp [intOf]; omega
            · by_cases hk2 : kd = 2
              · subst hk2
                have CO := Hid.mk (HN0.out.up)
                obtain ⟨s2, hs2⟩ : ∃ s2, s2 = (wUp s).1 := ⟨_, rfl⟩
                obtain ⟨E, hE⟩ : ∃ E, E = (wUp s).2 := ⟨_, rfl⟩
                rw [← hs2, ← hE] at CO
                have HS2 := Hid.mk hs2
                have HE := Hid.mk hE
                clear hs2 hE
                go_wp2_with fail
                rw [← HW6.out, ← HGN.out]
                refine CO.out.mono ?_
                rintro e w7 ⟨rfl, h7⟩
                obtain ⟨⟨p0, p1, p2, p3, p4, p5⟩, _⟩ := six_cells h7.v_
                rw [← HBH.out] at p5
                have CD := Hid.mk (h7.doc (fun S hd => rUp_any hd HWK.out.len))
                rw [← HS2.out, ← HE.out, ← HBH.out] at CD
                clear h7 CO u0 u1 u2 u3 u4 u5 v0 v1 v2 v3 v4 v5 y0 y1 z0 z1 HN0
                go_wp2_with fail
                refine CD.out.mono ?_
                rintro e w8 ⟨aa2, ca2, rfl, h8, hd8⟩
                obtain ⟨m2, hm2⟩ : ∃ m2, m2 = s2.p.length := ⟨_, rfl⟩
                obtain ⟨bh2, hbh2⟩ : ∃ bh2, bh2 = s2.bh := ⟨_, rfl⟩
                rw [← hm2] at hd8 ⊢
                rw [← hbh2]
                have HM2 := Hid.mk hm2
                have HBH2 := Hid.mk hbh2
                have hwks := h8.put hd8
                rw [← hbh2] at hwks
                obtain ⟨_, ⟨n0, n1, n2, n3, n4, n5⟩⟩ := six_cells h8.n_
                obtain ⟨⟨j0, j1, j2, j3, j4, j5⟩, _⟩ := six_cells h8.n_
                obtain ⟨⟨a0, a1, a2, a3, a4, a5⟩, _⟩ := six_cells (set6_block h8.n_ (.int .i64 o.r3.a) (.int .i64 o.r3.b) (.int .i64 o.r3.c) (.slice aq K cq) (.slice aa2 m2 ca2) (.bool bh2))
                obtain ⟨⟨d0, d1, d2, d3, d4, d5⟩, ⟨f0, f1, f2, f3, f4, f5⟩⟩ := six_cells ((set6_other (show b + 1 ≠ gn by omega) (.int .i64 o.r3.a) (.int .i64 o.r3.b) (.int .i64 o.r3.c) (.slice aq K cq) (.slice aa2 m2 ca2) (.bool bh2)).trans h8.v_)
                obtain ⟨WS, hWS⟩ : ∃ WS, WS = set6 (set6 w8 gn (.int .i64 o.r3.a) (.int .i64 o.r3.b) (.int .i64 o.r3.c) (.slice aq K cq) (.slice aa2 m2 ca2) (.bool bh2)) (b + 1) (.int .i64 o.r3.a) (.int .i64 o.r3.b) (.int .i64 o.r3.c) (.slice aq K cq) (.slice aa2 m2 ca2) (.bool bh2) := ⟨_, rfl⟩
                rw [← hWS] at hwks
                have hWS' := hWS
                unfold set6 at hWS'
                have HWS := Hid.mk hWS'
                clear hWS'
                have T8 := Hid.mk hwks
                have CK := Hid.mk hwks.key
                obtain ⟨k1, hk1'⟩ : ∃ k1, k1 = (wKey s2).1 := ⟨_, rfl⟩
                obtain ⟨k2, hk2'⟩ : ∃ k2, k2 = (wKey s2).2 := ⟨_, rfl⟩
                have HK1 := Hid.mk hk1'
                have HK2 := Hid.mk hk2'
                rw [← hk1', ← hk2'] at CK
                clear h8 hd8 hm2 hbh2 hwks hWS hk1' hk2' CD
                go_wp2_with fail
                rw [← HWS.out]
                refine CK.out.mono ?_
                rintro e w9 ⟨rfl, h9⟩
                obtain ⟨⟨g0, g1, g2, g3, g4, g5⟩, _⟩ := six_cells h9.v_
                rw [← HBH2.out] at g5
                have CR := Hid.mk h9.rkey
                rw [← HK1.out, ← HK2.out, ← HBH2.out] at CR
                clear h9 CK T8 n0 n1 n2 n3 n4 n5 j0 j1 j2 j3 j4 j5 a0 a1 a2 a3 a4 a5 d0 d1 d2 d3 d4 d5 f0 f1 f2 f3 f4 f5
                go_wp2_with fail
                refine CR.out.mono ?_
                rintro e w10 ⟨rfl, h10⟩
                obtain ⟨⟨_, _, _, _, l4, _⟩, _⟩ := six_cells h10.v_
                have hdr : Below w10.heap.size w10 w10.drew := (Below.refl _ _).drew
                have CP := Hid.mk (h10.below hdr).depth
                rw [← HM2.out] at CP
                clear h10 hdr CR g0 g1 g2 g3 g4 g5
                go_wp2_with fail
                go_region_held3 (fun w' => w'.cell? ⟨b + 1, 4, none⟩ = some (.slice aa2 m2 ca2))
                  (first | exact l4 | assumption)
                  (first | (go_at_call 27; refine CP.out.mono ?_; rintro e w11 ⟨rfl, h11⟩; obtain ⟨⟨_, _, _, _, l5, _⟩, _⟩ := six_cells h11.v_; have T11 := Hid.mk h11; clear h11))
                go_wp2
                go_roundw
                case rel => exact ⟨i + 1, s2, .slice aa2 m2 ca2, by go_num, by omega, T11.out⟩
                case measure => simp [intOf]; omega
              · by_cases hk3 : kd = 3
                · subst hk3
                  have CO := Hid.mk (HN0.out.next)
                  obtain ⟨s2, hs2⟩ : ∃ s2, s2 = (wNext o Lq s).1 := ⟨_, rfl⟩
                  obtain ⟨E, hE⟩ : ∃ E, E = (wNext o Lq s).2 := ⟨_, rfl⟩
                  rw [← hs2, ← hE] at CO
                  have HS2 := Hid.mk hs2
                  have HE := Hid.mk hE
                  clear hs2 hE
                  go_wp2_with fail
                  rw [← HW6.out, ← HGN.out]
                  refine CO.out.mono ?_
                  rintro e w7 ⟨rfl, h7⟩
                  obtain ⟨⟨p0, p1, p2, p3, p4, p5⟩, _⟩ := six_cells h7.v_
                  rw [← HBH.out] at p5
                  have CD := Hid.mk (h7.doc (fun S hd => rNext_any HO.out HSTR.out hd HWK.out))
                  rw [← HS2.out, ← HE.out, ← HBH.out] at CD
                  clear h7 CO u0 u1 u2 u3 u4 u5 v0 v1 v2 v3 v4 v5 y0 y1 z0 z1 HN0
                  go_wp2_with fail
                  refine CD.out.mono ?_
                  rintro e w8 ⟨aa2, ca2, rfl, h8, hd8⟩
                  obtain ⟨m2, hm2⟩ : ∃ m2, m2 = s2.p.length := ⟨_, rfl⟩
                  obtain ⟨bh2, hbh2⟩ : ∃ bh2, bh2 = s2.bh := ⟨_, rfl⟩
                  rw [← hm2] at hd8 ⊢
                  rw [← hbh2]
                  have HM2 := Hid.mk hm2
                  have HBH2 := Hid.mk hbh2
                  have hwks := h8.put hd8
                  rw [← hbh2] at hwks
                  obtain ⟨_, ⟨n0, n1, n2, n3, n4, n5⟩⟩ := six_cells h8.n_
                  obtain ⟨⟨j0, j1, j2, j3, j4, j5⟩, _⟩ := six_cells h8.n_
                  obtain ⟨⟨a0, a1, a2, a3, a4, a5⟩, _⟩ := six_cells (set6_block h8.n_ (.int .i64 o.r3.a) (.int .i64 o.r3.b) (.int .i64 o.r3.c) (.slice aq K cq) (.slice aa2 m2 ca2) (.bool bh2))
                  obtain ⟨⟨d0, d1, d2, d3, d4, d5⟩, ⟨f0, f1, f2, f3, f4, f5⟩⟩ := six_cells ((set6_other (show b + 1 ≠ gn by omega) (.int .i64 o.r3.a) (.int .i64 o.r3.b) (.int .i64 o.r3.c) (.slice aq K cq) (.slice aa2 m2 ca2) (.bool bh2)).trans h8.v_)
                  obtain ⟨WS, hWS⟩ : ∃ WS, WS = set6 (set6 w8 gn (.int .i64 o.r3.a) (.int .i64 o.r3.b) (.int .i64 o.r3.c) (.slice aq K cq) (.slice aa2 m2 ca2) (.bool bh2)) (b + 1) (.int .i64 o.r3.a) (.int .i64 o.r3.b) (.int .i64 o.r3.c) (.slice aq K cq) (.slice aa2 m2 ca2) (.bool bh2) := ⟨_, rfl⟩
                  rw [← hWS] at hwks
                  have hWS' := hWS
                  unfold set6 at hWS'
                  have HWS := Hid.mk hWS'
                  clear hWS'
                  have T8 := Hid.mk hwks
                  have CK := Hid.mk hwks.key
                  obtain ⟨k1, hk1'⟩ : ∃ k1, k1 = (wKey s2).1 := ⟨_, rfl⟩
                  obtain ⟨k2, hk2'⟩ : ∃ k2, k2 = (wKey s2).2 := ⟨_, rfl⟩
                  have HK1 := Hid.mk hk1'
                  have HK2 := Hid.mk hk2'
                  rw [← hk1', ← hk2'] at CK
                  clear h8 hd8 hm2 hbh2 hwks hWS hk1' hk2' CD
                  go_wp2_with fail
                  rw [← HWS.out]
                  refine CK.out.mono ?_
                  rintro e w9 ⟨rfl, h9⟩
                  obtain ⟨⟨g0, g1, g2, g3, g4, g5⟩, _⟩ := six_cells h9.v_
                  rw [← HBH2.out] at g5
                  have CR := Hid.mk h9.rkey
                  rw [← HK1.out, ← HK2.out, ← HBH2.out] at CR
                  clear h9 CK T8 n0 n1 n2 n3 n4 n5 j0 j1 j2 j3 j4 j5 a0 a1 a2 a3 a4 a5 d0 d1 d2 d3 d4 d5 f0 f1 f2 f3 f4 f5
                  go_wp2_with fail
                  refine CR.out.mono ?_
                  rintro e w10 ⟨rfl, h10⟩
                  obtain ⟨⟨_, _, _, _, l4, _⟩, _⟩ := six_cells h10.v_
                  have hdr : Below w10.heap.size w10 w10.drew := (Below.refl _ _).drew
                  have CP := Hid.mk (h10.below hdr).depth
                  rw [← HM2.out] at CP
                  clear h10 hdr CR g0 g1 g2 g3 g4 g5
                  go_wp2_with fail
                  go_region_held3 (fun w' => w'.cell? ⟨b + 1, 4, none⟩ = some (.slice aa2 m2 ca2))
                    (first | exact l4 | assumption)
                    (first | (go_at_call 27; refine CP.out.mono ?_; rintro e w11 ⟨rfl, h11⟩; obtain ⟨⟨_, _, _, _, l5, _⟩, _⟩ := six_cells h11.v_; have T11 := Hid.mk h11; clear h11))
                  go_wp2
                  go_roundw
                  case rel => exact ⟨i + 1, s2, .slice aa2 m2 ca2, by go_num, by omega, T11.out⟩
                  case measure => simp [intOf]; omega
                · have CO := Hid.mk (HN0.out.seek sn)
                  obtain ⟨s2, hs2⟩ : ∃ s2, s2 = (wSeek o Lq s sn).1 := ⟨_, rfl⟩
                  obtain ⟨E, hE⟩ : ∃ E, E = (wSeek o Lq s sn).2 := ⟨_, rfl⟩
                  rw [← hs2, ← hE] at CO
                  have HS2 := Hid.mk hs2
                  have HE := Hid.mk hE
                  clear hs2 hE
                  go_wp2_with fail
                  rw [← HW6.out, ← HGN.out]
                  refine CO.out.mono ?_
                  rintro e w7 ⟨rfl, h7⟩
                  obtain ⟨⟨p0, p1, p2, p3, p4, p5⟩, _⟩ := six_cells h7.v_
                  rw [← HBH.out] at p5
                  have x7 := (HX.out w7 h7.bel).2
                  have hdr : Below w7.heap.size w7 w7.drew := (Below.refl _ _).drew
                  have CD := Hid.mk ((h7.below hdr).doc (fun S hd => rSeek_any HO.out HSTR.out hd HWK.out sn))
                  rw [← HS2.out, ← HE.out, ← HBH.out] at CD
                  clear h7 CO u0 u1 u2 u3 u4 u5 v0 v1 v2 v3 v4 v5 y0 y1 z0 z1 HN0 hdr
                  go_wp2_with fail
                  go_region_held3 (fun w' => (w'.cell? ⟨b + 1, 0, none⟩ = some (.int .i64 o.r3.a) ∧ w'.cell? ⟨b + 1, 1, none⟩ = some (.int .i64 o.r3.b) ∧ w'.cell? ⟨b + 1, 2, none⟩ = some (.int .i64 o.r3.c)) ∧ (w'.cell? ⟨b + 1, 3, none⟩ = some (.slice aq K cq) ∧ w'.cell? ⟨b + 1, 4, none⟩ = some (.slice aa m ca) ∧ w'.cell? ⟨b + 1, 5, none⟩ = some (.bool bh)) ∧ w'.cell? ⟨gs, offs + i * 2 + 1, none⟩ = some (.int .i64 sn))
                    (first | with_reducible exact ⟨⟨d0, d1, d2⟩, ⟨d3, d4, d5⟩, xs8⟩ | with_reducible exact ⟨⟨o0, o1, o2⟩, ⟨o3, o4, o5⟩, x8⟩ | exact ⟨⟨p0, p1, p2⟩, ⟨p3, p4, p5⟩, x7⟩)
                    (first | (go_at_call 24; refine CD.out.mono ?_; rintro e w8 ⟨aa2, ca2, rfl, h8, hd8⟩; obtain ⟨⟨o0, o1, o2, o3, o4, o5⟩, _⟩ := six_cells h8.v_; rw [← HBH.out] at o5; have x8 := (HX.out w8 h8.bel).2; obtain ⟨m2, hm2⟩ : ∃ m2, m2 = s2.p.length := ⟨_, rfl⟩; obtain ⟨bh2, hbh2⟩ : ∃ bh2, bh2 = s2.bh := ⟨_, rfl⟩; rw [← hm2] at hd8 ⊢; rw [← hbh2]; have HM2 := Hid.mk hm2; have HBH2 := Hid.mk hbh2; have hwks := h8.put hd8; rw [← hbh2] at hwks; obtain ⟨_, ⟨n0, n1, n2, n3, n4, n5⟩⟩ := six_cells h8.n_; obtain ⟨⟨j0, j1, j2, j3, j4, j5⟩, _⟩ := six_cells h8.n_; obtain ⟨⟨a0, a1, a2, a3, a4, a5⟩, _⟩ := six_cells (set6_block h8.n_ (.int .i64 o.r3.a) (.int .i64 o.r3.b) (.int .i64 o.r3.c) (.slice aq K cq) (.slice aa2 m2 ca2) (.bool bh2)); obtain ⟨⟨d0, d1, d2, d3, d4, d5⟩, ⟨f0, f1, f2, f3, f4, f5⟩⟩ := six_cells ((set6_other (show b + 1 ≠ gn by omega) (.int .i64 o.r3.a) (.int .i64 o.r3.b) (.int .i64 o.r3.c) (.slice aq K cq) (.slice aa2 m2 ca2) (.bool bh2)).trans h8.v_); obtain ⟨WS, hWS⟩ : ∃ WS, WS = set6 (set6 w8 gn (.int .i64 o.r3.a) (.int .i64 o.r3.b) (.int .i64 o.r3.c) (.slice aq K cq) (.slice aa2 m2 ca2) (.bool bh2)) (b + 1) (.int .i64 o.r3.a) (.int .i64 o.r3.b) (.int .i64 o.r3.c) (.slice aq K cq) (.slice aa2 m2 ca2) (.bool bh2) := ⟨_, rfl⟩; rw [← hWS] at hwks; have hWS' := hWS; unfold set6 at hWS'; have HWS := Hid.mk hWS'; clear hWS'; have T8 := Hid.mk hwks; have CK := Hid.mk hwks.key; obtain ⟨k1, hk1'⟩ : ∃ k1, k1 = (wKey s2).1 := ⟨_, rfl⟩; obtain ⟨k2, hk2'⟩ : ∃ k2, k2 = (wKey s2).2 := ⟨_, rfl⟩; have HK1 := Hid.mk hk1'; have HK2 := Hid.mk hk2'; rw [← hk1', ← hk2'] at CK; rw [← HBH.out] at d5; have xs8 := (HX.out _ (set6_below (b := gn) h8.bel (by have := h8.low; omega) (.int .i64 o.r3.a) (.int .i64 o.r3.b) (.int .i64 o.r3.c) (.slice aq K cq) (.slice aa2 m2 ca2) (.bool bh2))).2; clear h8 hd8 hm2 hbh2 hwks hWS hk1' hk2'))
                  go_wp2_with fail
                  rw [← HWS.out]
                  refine CK.out.mono ?_
                  rintro e w9 ⟨rfl, h9⟩
                  obtain ⟨⟨g0, g1, g2, g3, g4, g5⟩, _⟩ := six_cells h9.v_
                  rw [← HBH2.out] at g5
                  have CR := Hid.mk h9.rkey
                  rw [← HK1.out, ← HK2.out, ← HBH2.out] at CR
                  clear h9 CK T8 n0 n1 n2 n3 n4 n5 j0 j1 j2 j3 j4 j5 a0 a1 a2 a3 a4 a5 d0 d1 d2 d3 d4 d5 f0 f1 f2 f3 f4 f5
                  go_wp2_with fail
                  refine CR.out.mono ?_
                  rintro e w10 ⟨rfl, h10⟩
                  obtain ⟨⟨_, _, _, _, l4, _⟩, _⟩ := six_cells h10.v_
                  have hdr : Below w10.heap.size w10 w10.drew := (Below.refl _ _).drew
                  have CP := Hid.mk (h10.below hdr).depth
                  rw [← HM2.out] at CP
                  clear h10 hdr CR g0 g1 g2 g3 g4 g5
                  go_wp2_with fail
                  go_region_held3 (fun w' => w'.cell? ⟨b + 1, 4, none⟩ = some (.slice aa2 m2 ca2))
                    (first | exact l4 | assumption)
                    (first | (go_at_call 27; refine CP.out.mono ?_; rintro e w11 ⟨rfl, h11⟩; obtain ⟨⟨_, _, _, _, l5, _⟩, _⟩ := six_cells h11.v_; have T11 := Hid.mk h11; clear h11))
                  go_wp2
                  go_roundw
                  case rel => exact ⟨i + 1, s2, .slice aa2 m2 ca2, by go_num, by omega, T11.out⟩
                  case measure => simp [intOf]; omega
          · have hi2I : ¬ (i : Int) < 200 := by omega
            have HB5 := Hid.mk hks.bel
            clear hks
            go_wp2_with fail
            refine (awake_any _).mono ?_
            rintro e w4 ⟨rfl, hb4⟩
            have HF : Hid (Below w.heap.size w w4) := Hid.mk (HB5.out.trans (hb4.mono HB5.out.size))
            clear hb4
            go_wp2
            go_ret
            exact ⟨rfl, HF.out⟩
        · have himI : ¬ (i : Int) < (M : Int) := by omega
          have HB5 := Hid.mk hks.bel
          clear hks
          go_wp2_with fail
          refine (awake_any _).mono ?_
          rintro e w4 ⟨rfl, hb4⟩
          have HF : Hid (Below w.heap.size w w4) := Hid.mk (HB5.out.trans (hb4.mono HB5.out.size))
          clear hb4
          go_wp2
          go_ret
          exact ⟨rfl, HF.out⟩
end Go.Proofs.Ytfocpjplokabgaa
