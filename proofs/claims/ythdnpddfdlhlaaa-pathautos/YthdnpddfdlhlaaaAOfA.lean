/- of of the document, of one or the other, and as often as one will. (Written by a program.) -/
import Derived.Test.YthdnpddfdlhlaaaAOfW
namespace Go.Proofs.Ythdnpddfdlhlaaa
open Go.RowKit Go.Shelf

set_option maxHeartbeats 40000000 in
set_option maxRecDepth 100000 in
theorem rOf_oth {k : Int} (hk3 : k = 3 ∨ k = 4 ∨ k = 5 ∨ k = 6) {N : Nat} (hN : N ≤ 1000000) {wd : Wd} {v : Value} {l : List Vt} (hk : ∀ x ∈ l, OfC (N + 1000) x) (f : Nat → Prt) (hf0 : f 0 = prt0 false) (hfs : ∀ i x, l[i]? = some x → f (i + 1) = altC (f i) (prtOf x.pt)) (hfl : ∀ i, i ≤ l.length → LimP (f i)) (hkl : ∀ x ∈ l, LimP (prtOf x.pt)) (P : Prt) (hP : finK k (f l.length) = P) (hPE : (prtOf (Vt.pt ⟨k, wd, v, l⟩)) = P) : OfC N ⟨k, wd, v, l⟩ := by
  intro w n hn hok
  rw [hPE]
  obtain ⟨PE, hPEe⟩ : ∃ b, b = P.empty := ⟨_, rfl⟩
  rw [← hPEe]
  have HPEE := Hid.mk hPEe
  have HP := Hid.mk hP
  have HF0 := Hid.mk hf0
  have HFS := Hid.mk hfs
  have HFL := Hid.mk hfl
  have HKL := Hid.mk hkl
  have HK := Hid.mk hk
  obtain ⟨i0, hi0, hz0, hz1, hz2⟩ := info_parts infoP
  obtain ⟨i1, hi1, hy0, hy1, hy2⟩ := info_parts infoQS
  have hok2 := hok.parts
  obtain ⟨ao, cap, hv⟩ := hok2.1.slice
  dsimp only at hok2 hv
  have HOK := Hid.mk hok2
  obtain ⟨m, hm⟩ : ∃ n, n = l.length := ⟨_, rfl⟩
  rw [← hm] at hv
  subst hv
  have hml : (m : Int) ≤ 9223372036854775807 := by have := hok2.2.2.1; omega
  have HM := Hid.mk hm
  clear hok hok2 hPE hP hf0 hfs hfl hkl hk hPEe hm
  have k1 : ¬ k = 1 := by omega
  have k2 : ¬ k = 2 := by omega
  obtain ⟨a1, b1⟩ := not_both k1
  obtain ⟨a2, b2⟩ := not_both k2
  have b2' : (k != 2) = true := by simp [a2]
  have HK3 := Hid.mk hk3
  clear k1 k2 hk3
  have HX0 : Hid (XS w (((w.alloc (.cells #[.int .i64 k, .string ⟨wd.toArray⟩, .slice ao m cap] 24)).alloc (.cells #[.slice none 0 0, .slice none 0 0, .slice none 0 0, .slice none 0 0, .bool false] 68)).alloc (.cells #[.slice none 0 0, .slice none 0 0, .slice none 0 0, .slice none 0 0, .bool false] 68)) k wd (.slice ao m cap) (.slice none 0 0) (.slice none 0 0) (.slice none 0 0) (.slice none 0 0) false ⟨.slice none 0 0, .slice none 0 0, .slice none 0 0, .slice none 0 0, [], [], [], []⟩) := Hid.mk (xs_start w k wd _ false)
  go_enter Try.func33, Try.ntmps33
  go_wp2_with fail
  go_loopw [6] (fun c wr => ∃ (i : Nat) (r : R4), i ≤ m ∧ c = .int .i64 i ∧ RP r (shift n (f i)) ∧ XS w wr k wd (.slice ao m cap) r.wv r.fv r.lv r.pv (f i).empty r) (fun c _ => m - (intOf c).toNat)
  case atStart => exact ⟨0, ⟨.slice none 0 0, .slice none 0 0, .slice none 0 0, .slice none 0 0, [], [], [], []⟩, Nat.zero_le _, rfl, by rw [HF0.out]; exact ⟨rfl, rfl, rfl, rfl⟩, by rw [HF0.out]; exact HX0.out⟩
  case round =>
    obtain ⟨i, r, hi, rfl, hrp, hxs⟩ := hrel
    obtain ⟨wx, hwx⟩ : ∃ wx, wx = wr := ⟨_, rfl⟩
    subst hwx
    obtain ⟨wv, fv, lv, pv, ws, fs, ls, ps⟩ := r
    obtain ⟨wa, wc, hv⟩ := own_slice hxs.own.w
    obtain ⟨fa, fc, hv2⟩ := own_slice hxs.own.f
    obtain ⟨la, lc, hv3⟩ := own_slice hxs.own.l
    obtain ⟨pa, pc, hv4⟩ := own_slice hxs.own.p
    dsimp only at hv hv2 hv3 hv4 hxs
    subst hv hv2 hv3 hv4
    obtain ⟨e, he⟩ : ∃ b, b = (f i).empty := ⟨_, rfl⟩
    rw [← he] at hxs
    have HE := Hid.mk he
    have HX := Hid.mk hxs
    have HRP := Hid.mk hrp
    have hlm := HFL.out i (by rw [← HM.out]; exact hi)
    have hb1 : ws.length ≤ 1000 := by rw [show ws = (f i).words from hrp.1]; exact hlm.1
    have hb2 : fs.length ≤ 1000 := by rw [show fs = up n (f i).first from hrp.2.1, up_len]; exact hlm.2.1
    have hb3 : ls.length ≤ 1000 := by rw [show ls = up n (f i).last from hrp.2.2.1, up_len]; exact hlm.2.2.1
    have hb4 : ps.length ≤ 100000 := by rw [show ps = upP n (f i).pairs from hrp.2.2.2, upP_len]; exact hlm.2.2.2
    obtain ⟨nw, hnw⟩ : ∃ n, n = ws.length := ⟨_, rfl⟩
    obtain ⟨nf, hnf⟩ : ∃ n, n = fs.length := ⟨_, rfl⟩
    obtain ⟨nl, hnl⟩ : ∃ n, n = ls.length := ⟨_, rfl⟩
    obtain ⟨np, hnp⟩ : ∃ n, n = ps.length := ⟨_, rfl⟩
    rw [← hnw, ← hnf, ← hnl, ← hnp] at HX hxs
    have HNW := Hid.mk hnw
    have HNF := Hid.mk hnf
    have HNL := Hid.mk hnl
    have HNP := Hid.mk hnp
    have hsx : w.heap.size + 3 ≤ wx.heap.size := hxs.lt
    have hbx := Hid.mk (three_cellsO hxs.box)
    have hcx := Hid.mk (five_cells hxs.x)
    obtain ⟨⟨p0, p1, p2⟩, _⟩ := three_cellsO hxs.box
    obtain ⟨⟨x0, x1, x2, x3, x4⟩, ⟨y0, y1, y2, y3, y4⟩⟩ := five_cells hxs.x
    clear hxs hrp he hlm hnw hnf hnl hnp
    by_cases hlt : i < m
    · have hltI : (i : Int) < (m : Int) := by omega
      obtain ⟨x, hx⟩ : ∃ x, l[i]? = some x := ⟨_, List.getElem?_eq_getElem (by rw [← HM.out]; exact hlt)⟩
      have hxm := List.mem_of_getElem? hx
      have HFI := Hid.mk (HFS.out i x hx)
      have hly := HKL.out x hxm
      obtain ⟨Y, hY⟩ : ∃ Y, Y = prtOf x.pt := ⟨_, rfl⟩
      rw [← hY] at HFI hly
      obtain ⟨g, off, hao, _, hgl, hcell⟩ := (HOK.out.1.below HX.out.bel).get hx
      subst hao
      obtain ⟨q0, q1, q2⟩ := getN hcell
      obtain ⟨z, hz⟩ : ∃ z : Nat, z = n + nw := ⟨_, rfl⟩
      have hnw1 : nw ≤ 1000 := by rw [HNW.out]; exact hb1
      have hnf1 : nf ≤ 1000 := by rw [HNF.out]; exact hb2
      have hnl1 : nl ≤ 1000 := by rw [HNL.out]; exact hb3
      have hnp1 : np ≤ 100000 := by rw [HNP.out]; exact hb4
      have hwz : IntKind.i64.wrap ((n : Int) + (nw : Int)) = (z : Int) := by rw [IntKind.wrap_i64]; omega
      have hokx := (HOK.out.2.2.2 x hxm).below HX.out.bel
      have C0 : Hid (∀ u, Below wx.heap.size wx u → Calls Try.prog 33 #[encN x, .int .i64 (z : Int)] u fun e w' => ∃ r : R4, e = .returned (.agg #[r.wv, r.fv, r.lv, r.pv, .bool Y.empty]) ∧ RP r (shift z Y) ∧ Own4 u.heap.size w' r ∧ Below u.heap.size u w') := Hid.mk (fun u hu => by rw [hY]; exact HK.out x hxm u z (by omega) (hokx.below hu))
      obtain ⟨xa, xc, hxv⟩ := hokx.parts.1.slice
      obtain ⟨xn, hxn⟩ : ∃ n, n = x.kids.length := ⟨_, rfl⟩
      rw [← hxn] at hxv
      have HZ := Hid.mk hz
      obtain ⟨ye, hye⟩ : ∃ b, b = Y.empty := ⟨_, rfl⟩
      rw [← hye] at C0
      have HYEM := Hid.mk hye
      have HLY := Hid.mk hly
      obtain ⟨xk, xw, xv, xl⟩ := x
      dsimp only at q0 q1 q2 hxv
      subst hxv
      clear hx hxm hY hcell hokx hxn hz hye hly
      have KC : Hid (∀ u, Below wx.heap.size wx u → (u.cell? ⟨w.heap.size, 2, none⟩ = some (.slice (some ⟨g, off, none⟩) m cap)) ∧ (u.cell? ⟨g, off + i * 3, none⟩ = some (.int .i64 xk) ∧ u.cell? ⟨g, off + i * 3 + 1, none⟩ = some (.string ⟨xw.toArray⟩) ∧ u.cell? ⟨g, off + i * 3 + 2, none⟩ = some (.slice xa xn xc)) ∧ u.cell? ⟨w.heap.size + 1 + 1, 0, none⟩ = some (.slice wa nw wc)) := Hid.mk (fun u hu => ⟨(hu.cell (p := ⟨w.heap.size, 2, none⟩) (show w.heap.size < _ by omega)).trans p2, ⟨(hu.cell (p := ⟨g, off + i * 3, none⟩) hgl).trans q0, (hu.cell (p := ⟨g, off + i * 3 + 1, none⟩) hgl).trans q1, (hu.cell (p := ⟨g, off + i * 3 + 2, none⟩) hgl).trans q2⟩, (hu.cell (p := ⟨w.heap.size + 1 + 1, 0, none⟩) (show w.heap.size + 1 + 1 < _ by omega)).trans x0⟩)
      have HPA : Hid (Below wx.heap.size wx wx.drew) := Hid.mk (Below.refl _ _).drew
      have HPB : Hid (Below wx.heap.size wx (wx.alloc (.cells #[.slice none 0 0, .slice none 0 0, .slice none 0 0, .slice none 0 0, .bool false] 68)).drew) := Hid.mk (((Below.refl _ _).alloc (Nat.le_refl _) _).drew)
      have HZB : Hid ((wx.alloc (.cells #[.slice none 0 0, .slice none 0 0, .slice none 0 0, .slice none 0 0, .bool false] 68)).drew.heap[wx.heap.size]? = some (.cells #[.slice none 0 0, .slice none 0 0, .slice none 0 0, .slice none 0 0, .bool false] 68 (0, 0))) := Hid.mk (heap_alloc_new wx _)
      have hgx : g < wx.heap.size := hgl
      clear x1 x2 x3 x4 y0 y1 y2 y3 y4 p0 p1
      go_wp2_with fail
      go_region_held3 (fun u => (u.cell? ⟨w.heap.size, 2, none⟩ = some (.slice (some ⟨g, off, none⟩) m cap)) ∧ (u.cell? ⟨g, off + i * 3, none⟩ = some (.int .i64 xk) ∧ u.cell? ⟨g, off + i * 3 + 1, none⟩ = some (.string ⟨xw.toArray⟩) ∧ u.cell? ⟨g, off + i * 3 + 2, none⟩ = some (.slice xa xn xc)) ∧ u.cell? ⟨w.heap.size + 1 + 1, 0, none⟩ = some (.slice wa nw wc))
        (first | with_reducible exact KC.out _ HPA.out | with_reducible exact KC.out _ HPB.out | with_reducible exact KC.out _ h7 | with_reducible exact KC.out _ (h7.alloc h7.size _) | with_reducible exact KC.out _ (((((h7.setCell (p := ⟨wx.heap.size, 0, none⟩) (Nat.le_refl _) _).setCell (p := ⟨wx.heap.size, 1, none⟩) (Nat.le_refl _) _).setCell (p := ⟨wx.heap.size, 2, none⟩) (Nat.le_refl _) _).setCell (p := ⟨wx.heap.size, 3, none⟩) (Nat.le_refl _) _).setCell (p := ⟨wx.heap.size, 4, none⟩) (Nat.le_refl _) _))
        (first
          | (go_at_call 33; with_reducible refine (C0.out _ HPB.out).mono ?_; rintro e7 w7 ⟨⟨yw, yf, yl, yp, yws, yfs, yls, yps⟩, rfl, hyr, hyo, hb7⟩; obtain ⟨ya, yc, hv⟩ := own_slice hyo.w; obtain ⟨yfa, yfc, hv2⟩ := own_slice hyo.f; obtain ⟨yla, ylc, hv3⟩ := own_slice hyo.l; obtain ⟨ypa, ypc, hv4⟩ := own_slice hyo.p; dsimp only at hv hv2 hv3 hv4; subst hv hv2 hv3 hv4; have h7 := HPB.out.trans (hb7.mono HPB.out.size); have hz7 := (hb7.block wx.heap.size (lt_of_block HZB.out)).trans HZB.out; obtain ⟨_, ⟨g0, g1, g2, g3, g4⟩⟩ := five_cells hz7; have hl7 : wx.heap.size < w7.heap.size := lt_of_block hz7)
          | (go_at_call 33; with_reducible refine (C0.out _ HPA.out).mono ?_; rintro e7 w7 ⟨⟨yw, yf, yl, yp, yws, yfs, yls, yps⟩, rfl, hyr, hyo, hb7⟩; obtain ⟨ya, yc, hv⟩ := own_slice hyo.w; obtain ⟨yfa, yfc, hv2⟩ := own_slice hyo.f; obtain ⟨yla, ylc, hv3⟩ := own_slice hyo.l; obtain ⟨ypa, ypc, hv4⟩ := own_slice hyo.p; dsimp only at hv hv2 hv3 hv4; subst hv hv2 hv3 hv4; have h7 := HPA.out.trans (hb7.mono HPA.out.size)))
      · obtain ⟨W, yb, hW, hyb, hXW, hYW, hYO⟩ : ∃ (W : World) (yb : Nat), w7.alloc (.cells #[.slice ya yws.length yc, .slice yfa yfs.length yfc, .slice yla yls.length ylc, .slice ypa yps.length ypc, .bool ye] 68) = W ∧ w7.heap.size = yb ∧ XS w W k wd (.slice (some ⟨g, off, none⟩) m cap) (.slice wa nw wc) (.slice fa nf fc) (.slice la nl lc) (.slice pa np pc) e ⟨.slice wa nw wc, .slice fa nf fc, .slice la nl lc, .slice pa np pc, ws, fs, ls, ps⟩ ∧ YS W wx.heap.size yb ye ⟨.slice ya yws.length yc, .slice yfa yfs.length yfc, .slice yla yls.length ylc, .slice ypa yps.length ypc, yws, yfs, yls, yps⟩ ∧ W.ownsRow wx.heap.size 9 1 (.slice ya yws.length yc) yws.length (yws.flatMap csT) := by
          refine ⟨_, _, rfl, rfl, HX.out.below (h7.alloc h7.size _), ⟨heap_alloc_new _ _, h7.size, hyo.f.alloc _, hyo.l.alloc _, hyo.p.alloc _⟩, hyo.w.alloc _⟩
        rw [hW]
        simp only [hyb]
        clear hW hyb hyo hb7 h7 x0 p2 q0 q1 q2
        have HXW := Hid.mk hXW
        have HYW := Hid.mk hYW
        have HYO := Hid.mk hYO
        have HYR := Hid.mk hyr
        have hlY := HLY.out
        have hc1 : yws.length ≤ 1000 := by rw [show yws = Y.words from hyr.1]; exact hlY.1
        have hc2 : yfs.length ≤ 1000 := by rw [show yfs = up z Y.first from hyr.2.1, up_len]; exact hlY.2.1
        have hc3 : yls.length ≤ 1000 := by rw [show yls = up z Y.last from hyr.2.2.1, up_len]; exact hlY.2.2.1
        have hc4 : yps.length ≤ 100000 := by rw [show yps = upP z Y.pairs from hyr.2.2.2, upP_len]; exact hlY.2.2.2
        have HOW : Hid (W.ownsRow (w.heap.size + 3) 9 1 (.slice wa nw wc) nw (ws.flatMap csT)) := Hid.mk (by
          have h := hXW.own.w
          dsimp only at h
          rw [← HNW.out] at h
          exact h)
        have hsW : w.heap.size + 3 ≤ W.heap.size := hXW.lt
        clear hXW hYW hYO hyr hlY
        obtain ⟨⟨x0, x1, x2, x3, x4⟩, ⟨y0, y1, y2, y3, y4⟩⟩ := five_cells HXW.out.x
        obtain ⟨⟨p0, p1, p2⟩, _⟩ := three_cellsO HXW.out.box
        obtain ⟨⟨d0, d1, d2, d3, d4⟩, _⟩ := five_cells HYW.out.y
        go_wp2_with (at_builtin; refine wpList_append_many rfl _ _ rfl Try.underlying27 hi1 hy0 hy1 hy2 rfl (by decide) (by rfl) HOW.out ya (yws.flatMap csT) yws.length yc (by rfl) (by rw [flat_len csT_lenO]) (fun e => (Src.own csT_lenO HYO.out rfl).no _ _ (by rw [e])) ((Src.own csT_lenO HYO.out rfl).cells csT_lenO (by decide)) (one_csTO _) (by unfold maxLen; omega) (by omega) hsW ?_)
        intro v3 w3 hown3 hgrow3
        obtain ⟨a3, c3, hv⟩ := own_slice hown3
        subst hv
        obtain ⟨n3, hn3⟩ : ∃ n, n = nw + yws.length := ⟨_, rfl⟩
        rw [← hn3] at hown3 ⊢
        have HX3 : Hid (XS w w3 k wd (.slice (some ⟨g, off, none⟩) m cap) (.slice wa nw wc) (.slice fa nf fc) (.slice la nl lc) (.slice pa np pc) e ⟨.slice a3 n3 c3, .slice fa nf fc, .slice la nl lc, .slice pa np pc, ws ++ yws, fs, ls, ps⟩) := Hid.mk (HXW.out.growW hgrow3 (by
          rw [List.length_append, ← HNW.out, ← hn3, List.flatMap_append]
          exact hown3))
        have HY3 : Hid (YS w3 wx.heap.size yb ye ⟨.slice ya yws.length yc, .slice yfa yfs.length yfc, .slice yla yls.length ylc, .slice ypa yps.length ypc, yws, yfs, yls, yps⟩) := Hid.mk (HYW.out.growW HXW.out.own.w hgrow3)
        clear x0 x1 x2 x3 x4 y0 y1 y2 y3 y4 p0 p1 p2 d0 d1 d2 d3 d4
        clear hown3 hgrow3 hn3 HOW
        have HX4 : Hid (XS w (w3.setCell ⟨w.heap.size + 1 + 1, 0, none⟩ (.slice a3 n3 c3)) k wd (.slice (some ⟨g, off, none⟩) m cap) (.slice a3 n3 c3) (.slice fa nf fc) (.slice la nl lc) (.slice pa np pc) e ⟨.slice a3 n3 c3, .slice fa nf fc, .slice la nl lc, .slice pa np pc, ws ++ yws, fs, ls, ps⟩) := Hid.mk (HX3.out.set0 (.slice a3 n3 c3))
        have HY4 : Hid (YS (w3.setCell ⟨w.heap.size + 1 + 1, 0, none⟩ (.slice a3 n3 c3)) wx.heap.size yb ye ⟨.slice ya yws.length yc, .slice yfa yfs.length yfc, .slice yla yls.length ylc, .slice ypa yps.length ypc, yws, yfs, yls, yps⟩) := Hid.mk (HY3.out.set (b := w.heap.size + 1 + 1) (i := 0) (by omega) (.slice a3 n3 c3))
        obtain ⟨⟨x0, x1, x2, x3, x4⟩, ⟨y0, y1, y2, y3, y4⟩⟩ := five_cells HX3.out.x
        obtain ⟨⟨p0, p1, p2⟩, _⟩ := three_cellsO HX3.out.box
        obtain ⟨⟨d0, d1, d2, d3, d4⟩, _⟩ := five_cells HY3.out.y
        obtain ⟨⟨s0, s1, s2, s3, s4⟩, ⟨t0, t1, t2, t3, t4⟩⟩ := five_cells HX4.out.x
        obtain ⟨⟨o0, o1, o2⟩, _⟩ := three_cellsO HX4.out.box
        obtain ⟨⟨u0, u1, u2, u3, u4⟩, _⟩ := five_cells HY4.out.y
        have HDIS : Hid ((Value.slice ypa yps.length ypc).ownBlock = none ∨ (Value.slice ypa yps.length ypc).ownBlock ≠ (Value.slice pa np pc).ownBlock) := Hid.mk (by
          cases hb : (Value.slice ypa yps.length ypc).ownBlock with
          | none => exact .inl rfl
          | some g2 =>
            refine .inr (fun e9 => ?_)
            have h1 := (HYW.out.p.lt g2 hb).1
            have h2 := (HX.out.own.p.lt g2 e9.symm).2
            omega)
        go_wp2_with fail
        go_loopw [8, 9] (fun vl c wy => ∃ (j : Nat) (u : Value), u = vl ∧ j ≤ yps.length ∧ c = .int .i64 j ∧ XS w wy k wd (.slice (some ⟨g, off, none⟩) m cap) (.slice a3 n3 c3) (.slice fa nf fc) (.slice la nl lc) (.slice pa np pc) e ⟨.slice a3 n3 c3, .slice fa nf fc, .slice la nl lc, u, ws ++ yws, fs, ls, ps ++ yps.take j⟩ ∧ YS wy wx.heap.size yb ye ⟨.slice ya yws.length yc, .slice yfa yfs.length yfc, .slice yla yls.length ylc, .slice ypa yps.length ypc, yws, yfs, yls, yps⟩ ∧ ((Value.slice ypa yps.length ypc).ownBlock = none ∨ (Value.slice ypa yps.length ypc).ownBlock ≠ u.ownBlock)) (fun _ c _ => yps.length - (intOf c).toNat)
        case atStart =>
          refine ⟨0, _, rfl, Nat.zero_le _, rfl, ?_, HY4.out, HDIS.out⟩
          rw [List.take_zero, List.append_nil]
          exact HX4.out
        case round =>
          clear x0 x1 x2 x3 x4 y0 y1 y2 y3 y4 p0 p1 p2 d0 d1 d2 d3 d4
          clear s0 s1 s2 s3 s4 t0 t1 t2 t3 t4 o0 o1 o2 u0 u1 u2 u3 u4
          obtain ⟨j, u, rfl, hj, rfl, hxi, hyi, hdi⟩ := hrel
          obtain ⟨wy, hwy⟩ : ∃ wy, wy = wr := ⟨_, rfl⟩
          subst hwy
          obtain ⟨ua, uc, hu⟩ := own_slice hxi.own.p
          obtain ⟨nu, hnu⟩ : ∃ n, n = (ps ++ yps.take j).length := ⟨_, rfl⟩
          rw [← hnu] at hu
          subst hu
          have hub : nu ≤ 200000 := by rw [hnu, List.length_append, List.length_take, ← HNP.out]; omega
          have HXI := Hid.mk hxi
          have HYI := Hid.mk hyi
          have HDI := Hid.mk hdi
          have HNU := Hid.mk hnu
          have hsy : w.heap.size + 3 ≤ wy.heap.size := hxi.lt
          obtain ⟨PX, hPX⟩ : ∃ l, l = (zp (ps ++ yps.take j)).flatMap csP := ⟨_, rfl⟩
          have HPX := Hid.mk hPX
          have HPR : Hid (wy.ownsRow (w.heap.size + 3) 71 2 (.slice ua nu uc) nu PX) := Hid.mk (by
            have h := hxi.own.p
            dsimp only at h
            rw [← hnu, ← hPX] at h
            exact h)
          clear hxi hyi hdi hnu hPX
          obtain ⟨⟨x0, x1, x2, x3, x4⟩, ⟨y0, y1, y2, y3, y4⟩⟩ := five_cells HXI.out.x
          obtain ⟨⟨p0, p1, p2⟩, _⟩ := three_cellsO HXI.out.box
          obtain ⟨⟨d0, d1, d2, d3, d4⟩, _⟩ := five_cells HYI.out.y
          by_cases hlj : j < yps.length
          · have hljI : (j : Int) < (yps.length : Int) := by omega
            obtain ⟨⟨za, zb⟩, hza⟩ : ∃ x, yps[j]? = some x := ⟨_, List.getElem?_eq_getElem hlj⟩
            have hzz : (zp yps)[j]? = some ((za : Int), (zb : Int)) := by rw [List.getElem?_map, hza]; rfl
            obtain ⟨gp, op, hyp, _, _, hcell⟩ := (Src.own csP_len HYI.out.p (zp_len _).symm).sl.get hzz
            subst hyp
            have r0 := hcell 0 _ rfl
            have r1 := hcell 1 _ rfl
            rw [Nat.add_zero] at r0
            have HTK : Hid (yps.take (j + 1) = yps.take j ++ [(za, zb)]) := Hid.mk (by rw [List.take_add_one, hza]; rfl)
            clear hcell hzz hza
            go_wp2_with (at_builtin; refine wpList_append_lies _ rfl _ _ _ rfl (w.heap.size + 3) 71 i0 _ 2 16 Try.underlying66 hi0 hz0 hz1 hz2 rfl (by decide) (.slice ua nu uc) _ _ (by rfl) (HPR.out.alloc _) ⟨wy.heap.size, 0, none⟩ 1 1 (csP ((za : Int), (zb : Int))) (by rfl) (by rfl) (World.news_of_block (cs := #[.int .i64 (za : Int), .int .i64 (zb : Int)]) (t := 71) (fr := (0, 0)) (heap_alloc_new wy _)) (by simp [Value.oneCell']) (by decide) (by unfold maxLen; omega) (by omega) (by simp; omega) (wy.heap.size + 1) (by simp) ?_)
            intro gg cap2 w9 hown9 hgrow9 hat9 hlt9
            have ba : Below wy.heap.size wy (wy.alloc (.cells #[.int .i64 (za : Int), .int .i64 (zb : Int)] 71)) := (Below.refl _ _).alloc (Nat.le_refl _) _
            have HX9 : Hid (XS w w9 k wd (.slice (some ⟨g, off, none⟩) m cap) (.slice a3 n3 c3) (.slice fa nf fc) (.slice la nl lc) (.slice pa np pc) e ⟨.slice a3 n3 c3, .slice fa nf fc, .slice la nl lc, .slice (some ⟨gg, 0, none⟩) (nu + 1) cap2, ws ++ yws, fs, ls, ps ++ yps.take (j + 1)⟩) := Hid.mk ((HXI.out.below ba).growP hgrow9 (by
              rw [HTK.out, ← List.append_assoc, List.length_append, ← HNU.out, zp_append, List.flatMap_append, ← HPX.out]
              exact hown9))
            have HY9 : Hid (YS w9 wx.heap.size yb ye ⟨.slice ya yws.length yc, .slice yfa yfs.length yfc, .slice yla yls.length ylc, .slice (some ⟨gp, op, none⟩) yps.length ypc, yws, yfs, yls, yps⟩) := Hid.mk ((HYI.out.below ba).growP (HXI.out.below ba).own.p hgrow9 HDI.out)
            have HD9 : Hid ((Value.slice (some ⟨gp, op, none⟩) yps.length ypc).ownBlock = none ∨ (Value.slice (some ⟨gp, op, none⟩) yps.length ypc).ownBlock ≠ (Value.slice (some ⟨gg, 0, none⟩) (nu + 1) cap2).ownBlock) := Hid.mk (by
              rcases hat9 with h | h
              · rw [show (Value.slice (some ⟨gg, 0, none⟩) (nu + 1) cap2).ownBlock = some gg from rfl, ← h]
                exact HDI.out
              · refine .inr (fun e9 => ?_)
                have e8 : gp = gg := by simpa [Value.ownBlock] using e9
                have h2 := (HYI.out.p.lt gp rfl).2
                omega)
            clear hown9 hgrow9 hat9 hlt9 ba
            clear x0 x1 x2 x3 x4 y0 y1 y2 y3 y4 p0 p1 p2 d0 d1 d2 d3 d4
            clear r0 r1
            go_wp2
            go_roundw
            case rel => exact ⟨j + 1, _, rfl, by omega, by go_num, HX9.out, HY9.out, HD9.out⟩
            case measure => simp [intOf]; omega
          · have hljI : ¬ (j : Int) < (yps.length : Int) := by omega
            have HXJ : Hid (XS w wy k wd (.slice (some ⟨g, off, none⟩) m cap) (.slice a3 n3 c3) (.slice fa nf fc) (.slice la nl lc) (.slice pa np pc) e ⟨.slice a3 n3 c3, .slice fa nf fc, .slice la nl lc, .slice ua nu uc, ws ++ yws, fs, ls, ps ++ yps⟩) := Hid.mk (by
              have h := HXI.out
              rw [List.take_of_length_le (by omega)] at h
              exact h)
            have HX6 : Hid (XS w (wy.setCell ⟨w.heap.size + 1 + 1, 3, none⟩ (.slice ua nu uc)) k wd (.slice (some ⟨g, off, none⟩) m cap) (.slice a3 n3 c3) (.slice fa nf fc) (.slice la nl lc) (.slice ua nu uc) e ⟨.slice a3 n3 c3, .slice fa nf fc, .slice la nl lc, .slice ua nu uc, ws ++ yws, fs, ls, ps ++ yps⟩) := Hid.mk (HXJ.out.set3 (.slice ua nu uc))
            have HY6 : Hid (YS (wy.setCell ⟨w.heap.size + 1 + 1, 3, none⟩ (.slice ua nu uc)) wx.heap.size yb ye ⟨.slice ya yws.length yc, .slice yfa yfs.length yfc, .slice yla yls.length ylc, .slice ypa yps.length ypc, yws, yfs, yls, yps⟩) := Hid.mk (HYI.out.set (b := w.heap.size + 1 + 1) (i := 3) (by omega) (.slice ua nu uc))
            obtain ⟨⟨s0, s1, s2, s3, s4⟩, ⟨t0, t1, t2, t3, t4⟩⟩ := five_cells HX6.out.x
            obtain ⟨⟨o0, o1, o2⟩, _⟩ := three_cellsO HX6.out.box
            obtain ⟨⟨u0, u1, u2, u3, u4⟩, _⟩ := five_cells HY6.out.y
            go_wp2_with fail
            refine (both_any (L1 := zs (fs)) (L2 := zs yfs) (Src.own csZ_len HX6.out.own.f (zs_len _).symm) (Src.own csZ_len HY6.out.f (zs_len _).symm) (by rw [zs_len]; omega) (by rw [zs_len]; omega)).mono ?_
            rintro eA wA ⟨vA, rfl, hoA, hbA⟩
            obtain ⟨nA, hnA⟩ : ∃ n, n = (zs (fs) ++ zs yfs).length := ⟨_, rfl⟩
            rw [← hnA] at hoA
            obtain ⟨aA, cA, hvA⟩ := own_slice hoA
            subst hvA
            have HXA : Hid (XS w wA k wd (.slice (some ⟨g, off, none⟩) m cap) (.slice a3 n3 c3) (.slice fa nf fc) (.slice la nl lc) (.slice ua nu uc) e ⟨.slice a3 n3 c3, .slice aA nA cA, .slice la nl lc, .slice ua nu uc, ws ++ yws, fs ++ yfs, ls, ps ++ yps⟩) := Hid.mk ((HX6.out.below hbA).rowF (zrow hoA hnA (by have := HX6.out.lt; omega)))
            have HYA : Hid (YS wA wx.heap.size yb ye ⟨.slice ya yws.length yc, .slice yfa yfs.length yfc, .slice yla yls.length ylc, .slice ypa yps.length ypc, yws, yfs, yls, yps⟩) := Hid.mk (HY6.out.below hbA)
            clear hoA hbA hnA
            clear x0 x1 x2 x3 x4 y0 y1 y2 y3 y4 p0 p1 p2 d0 d1 d2 d3 d4
            clear s0 s1 s2 s3 s4 t0 t1 t2 t3 t4 o0 o1 o2 u0 u1 u2 u3 u4
            have HXB : Hid (XS w (wA.setCell ⟨w.heap.size + 1 + 1, 1, none⟩ (.slice aA nA cA)) k wd (.slice (some ⟨g, off, none⟩) m cap) (.slice a3 n3 c3) (.slice aA nA cA) (.slice la nl lc) (.slice ua nu uc) e ⟨.slice a3 n3 c3, .slice aA nA cA, .slice la nl lc, .slice ua nu uc, ws ++ yws, fs ++ yfs, ls, ps ++ yps⟩) := Hid.mk (HXA.out.set1 (.slice aA nA cA))
            have HYB : Hid (YS (wA.setCell ⟨w.heap.size + 1 + 1, 1, none⟩ (.slice aA nA cA)) wx.heap.size yb ye ⟨.slice ya yws.length yc, .slice yfa yfs.length yfc, .slice yla yls.length ylc, .slice ypa yps.length ypc, yws, yfs, yls, yps⟩) := Hid.mk (HYA.out.set (b := w.heap.size + 1 + 1) (i := 1) (by omega) (.slice aA nA cA))
            obtain ⟨⟨x0, x1, x2, x3, x4⟩, ⟨y0, y1, y2, y3, y4⟩⟩ := five_cells HXA.out.x
            obtain ⟨⟨p0, p1, p2⟩, _⟩ := three_cellsO HXA.out.box
            obtain ⟨⟨d0, d1, d2, d3, d4⟩, _⟩ := five_cells HYA.out.y
            obtain ⟨⟨s0, s1, s2, s3, s4⟩, ⟨t0, t1, t2, t3, t4⟩⟩ := five_cells HXB.out.x
            obtain ⟨⟨o0, o1, o2⟩, _⟩ := three_cellsO HXB.out.box
            obtain ⟨⟨u0, u1, u2, u3, u4⟩, _⟩ := five_cells HYB.out.y
            go_wp2_with fail
            refine (both_any (L1 := zs (ls)) (L2 := zs yls) (Src.own csZ_len HXB.out.own.l (zs_len _).symm) (Src.own csZ_len HYB.out.l (zs_len _).symm) (by rw [zs_len]; omega) (by rw [zs_len]; omega)).mono ?_
            rintro eC wC ⟨vC, rfl, hoC, hbC⟩
            obtain ⟨nC, hnC⟩ : ∃ n, n = (zs (ls) ++ zs yls).length := ⟨_, rfl⟩
            rw [← hnC] at hoC
            obtain ⟨aC, cC, hvC⟩ := own_slice hoC
            subst hvC
            have HXC : Hid (XS w wC k wd (.slice (some ⟨g, off, none⟩) m cap) (.slice a3 n3 c3) (.slice aA nA cA) (.slice la nl lc) (.slice ua nu uc) e ⟨.slice a3 n3 c3, .slice aA nA cA, .slice aC nC cC, .slice ua nu uc, ws ++ yws, fs ++ yfs, ls ++ yls, ps ++ yps⟩) := Hid.mk ((HXB.out.below hbC).rowL (zrow hoC hnC (by have := HXB.out.lt; omega)))
            have HYC : Hid (YS wC wx.heap.size yb ye ⟨.slice ya yws.length yc, .slice yfa yfs.length yfc, .slice yla yls.length ylc, .slice ypa yps.length ypc, yws, yfs, yls, yps⟩) := Hid.mk (HYB.out.below hbC)
            clear hoC hbC hnC
            clear x0 x1 x2 x3 x4 y0 y1 y2 y3 y4 p0 p1 p2 d0 d1 d2 d3 d4
            clear s0 s1 s2 s3 s4 t0 t1 t2 t3 t4 o0 o1 o2 u0 u1 u2 u3 u4
            have HXD : Hid (XS w (wC.setCell ⟨w.heap.size + 1 + 1, 2, none⟩ (.slice aC nC cC)) k wd (.slice (some ⟨g, off, none⟩) m cap) (.slice a3 n3 c3) (.slice aA nA cA) (.slice aC nC cC) (.slice ua nu uc) e ⟨.slice a3 n3 c3, .slice aA nA cA, .slice aC nC cC, .slice ua nu uc, ws ++ yws, fs ++ yfs, ls ++ yls, ps ++ yps⟩) := Hid.mk (HXC.out.set2 (.slice aC nC cC))
            have HYD : Hid (YS (wC.setCell ⟨w.heap.size + 1 + 1, 2, none⟩ (.slice aC nC cC)) wx.heap.size yb ye ⟨.slice ya yws.length yc, .slice yfa yfs.length yfc, .slice yla yls.length ylc, .slice ypa yps.length ypc, yws, yfs, yls, yps⟩) := Hid.mk (HYC.out.set (b := w.heap.size + 1 + 1) (i := 2) (by omega) (.slice aC nC cC))
            obtain ⟨⟨x0, x1, x2, x3, x4⟩, ⟨y0, y1, y2, y3, y4⟩⟩ := five_cells HXC.out.x
            obtain ⟨⟨p0, p1, p2⟩, _⟩ := three_cellsO HXC.out.box
            obtain ⟨⟨d0, d1, d2, d3, d4⟩, _⟩ := five_cells HYC.out.y
            obtain ⟨⟨s0, s1, s2, s3, s4⟩, ⟨t0, t1, t2, t3, t4⟩⟩ := five_cells HXD.out.x
            obtain ⟨⟨o0, o1, o2⟩, _⟩ := three_cellsO HXD.out.box
            obtain ⟨⟨u0, u1, u2, u3, u4⟩, _⟩ := five_cells HYD.out.y
            cases e with
            | true =>
              have HXE : Hid (XS w ((wC.setCell ⟨w.heap.size + 1 + 1, 2, none⟩ (.slice aC nC cC)).setCell ⟨w.heap.size + 1 + 1, 4, none⟩ (.bool true)) k wd (.slice (some ⟨g, off, none⟩) m cap) (.slice a3 n3 c3) (.slice aA nA cA) (.slice aC nC cC) (.slice ua nu uc) true ⟨.slice a3 n3 c3, .slice aA nA cA, .slice aC nC cC, .slice ua nu uc, ws ++ yws, fs ++ yfs, ls ++ yls, ps ++ yps⟩) := Hid.mk (HXD.out.set4 true)
              have HEE : Hid ((f (i + 1)).empty = true) := Hid.mk (by rw [HFI.out]; show ((f i).empty || Y.empty) = _; rw [← HE.out]; rfl)
              have HRR : Hid (RP ⟨.slice a3 n3 c3, .slice aA nA cA, .slice aC nC cC, .slice ua nu uc, ws ++ yws, fs ++ yfs, ls ++ yls, ps ++ yps⟩ (shift n (f (i + 1)))) := Hid.mk (by
                have h1 := HRP.out
                have h2 := HYR.out
                have e1 : (f i).words.length = nw := by rw [HNW.out, show ws = (f i).words from h1.1]
                rw [HFI.out, shift_alt, e1, ← HZ.out]
                obtain ⟨r1, r2, r3, r4⟩ := h1
                obtain ⟨r5, r6, r7, r8⟩ := h2
                dsimp only [shift] at r1 r2 r3 r4 r5 r6 r7 r8
                subst r1 r2 r3 r4 r5 r6 r7 r8
                exact ⟨rfl, rfl, rfl, rfl⟩)
              go_wp2
              go_roundw
              case rel => exact ⟨i + 1, ⟨.slice a3 n3 c3, .slice aA nA cA, .slice aC nC cC, .slice ua nu uc, ws ++ yws, fs ++ yfs, ls ++ yls, ps ++ yps⟩, by omega, by go_num, HRR.out, by rw [HEE.out]; exact HXE.out⟩
              case measure => simp [intOf]; omega
            | false =>
              have HXE : Hid (XS w ((wC.setCell ⟨w.heap.size + 1 + 1, 2, none⟩ (.slice aC nC cC)).setCell ⟨w.heap.size + 1 + 1, 4, none⟩ (.bool ye)) k wd (.slice (some ⟨g, off, none⟩) m cap) (.slice a3 n3 c3) (.slice aA nA cA) (.slice aC nC cC) (.slice ua nu uc) ye ⟨.slice a3 n3 c3, .slice aA nA cA, .slice aC nC cC, .slice ua nu uc, ws ++ yws, fs ++ yfs, ls ++ yls, ps ++ yps⟩) := Hid.mk (HXD.out.set4 ye)
              have HEE : Hid ((f (i + 1)).empty = ye) := Hid.mk (by rw [HFI.out]; show ((f i).empty || Y.empty) = _; rw [← HE.out, ← HYEM.out]; rfl)
              have HRR : Hid (RP ⟨.slice a3 n3 c3, .slice aA nA cA, .slice aC nC cC, .slice ua nu uc, ws ++ yws, fs ++ yfs, ls ++ yls, ps ++ yps⟩ (shift n (f (i + 1)))) := Hid.mk (by
                have h1 := HRP.out
                have h2 := HYR.out
                have e1 : (f i).words.length = nw := by rw [HNW.out, show ws = (f i).words from h1.1]
                rw [HFI.out, shift_alt, e1, ← HZ.out]
                obtain ⟨r1, r2, r3, r4⟩ := h1
                obtain ⟨r5, r6, r7, r8⟩ := h2
                dsimp only [shift] at r1 r2 r3 r4 r5 r6 r7 r8
                subst r1 r2 r3 r4 r5 r6 r7 r8
                exact ⟨rfl, rfl, rfl, rfl⟩)
              go_wp2
              go_roundw
              case rel => exact ⟨i + 1, ⟨.slice a3 n3 c3, .slice aA nA cA, .slice aC nC cC, .slice ua nu uc, ws ++ yws, fs ++ yfs, ls ++ yls, ps ++ yps⟩, by omega, by go_num, HRR.out, by rw [HEE.out]; exact HXE.out⟩
              case measure => simp [intOf]; omega
      · obtain ⟨W, yb, hW, hyb, hXW, hYW, hYO⟩ : ∃ (W : World) (yb : Nat), ((((w7.setCell ⟨wx.heap.size, 0, none⟩ (.slice ya yws.length yc)).setCell ⟨wx.heap.size, 1, none⟩ (.slice yfa yfs.length yfc)).setCell ⟨wx.heap.size, 2, none⟩ (.slice yla yls.length ylc)).setCell ⟨wx.heap.size, 3, none⟩ (.slice ypa yps.length ypc)).setCell ⟨wx.heap.size, 4, none⟩ (.bool ye) = W ∧ wx.heap.size = yb ∧ XS w W k wd (.slice (some ⟨g, off, none⟩) m cap) (.slice wa nw wc) (.slice fa nf fc) (.slice la nl lc) (.slice pa np pc) e ⟨.slice wa nw wc, .slice fa nf fc, .slice la nl lc, .slice pa np pc, ws, fs, ls, ps⟩ ∧ YS W wx.heap.size yb ye ⟨.slice ya yws.length yc, .slice yfa yfs.length yfc, .slice yla yls.length ylc, .slice ypa yps.length ypc, yws, yfs, yls, yps⟩ ∧ W.ownsRow wx.heap.size 9 1 (.slice ya yws.length yc) yws.length (yws.flatMap csT) := by
          have hlo : wx.heap.size < (wx.alloc (.cells #[.slice none 0 0, .slice none 0 0, .slice none 0 0, .slice none 0 0, .bool false] 68)).drew.heap.size := lt_of_block HZB.out
          have key : ∀ {t : TypeId} {size n : Nat} {x : Value} {xs : List Value}, w7.ownsRow (wx.alloc (.cells #[.slice none 0 0, .slice none 0 0, .slice none 0 0, .slice none 0 0, .bool false] 68)).drew.heap.size t size x n xs → (set5P w7 wx.heap.size (.slice ya yws.length yc) (.slice yfa yfs.length yfc) (.slice yla yls.length ylc) (.slice ypa yps.length ypc) (.bool ye)).ownsRow wx.heap.size t size x n xs := fun h => own_mono (owns_key h (fun g o hg ho => (set5P_other (fun e => by have := (h.lt g hg).1; omega) _ _ _ _ _).trans ho)) (Nat.le_of_lt hlo)
          exact ⟨set5P w7 wx.heap.size (.slice ya yws.length yc) (.slice yfa yfs.length yfc) (.slice yla yls.length ylc) (.slice ypa yps.length ypc) (.bool ye), wx.heap.size, rfl, rfl, HX.out.below (Below.set5P h7 (Nat.le_refl _) _ _ _ _ _), ⟨set5P_at hz7, Nat.le_refl _, key hyo.f, key hyo.l, key hyo.p⟩, key hyo.w⟩
        rw [hW]
        simp only [hyb]
        clear hW hyb hyo hb7 h7 x0 p2 q0 q1 q2 hz7 g0 g1 g2 g3 g4 hl7
        have HXW := Hid.mk hXW
        have HYW := Hid.mk hYW
        have HYO := Hid.mk hYO
        have HYR := Hid.mk hyr
        have hlY := HLY.out
        have hc1 : yws.length ≤ 1000 := by rw [show yws = Y.words from hyr.1]; exact hlY.1
        have hc2 : yfs.length ≤ 1000 := by rw [show yfs = up z Y.first from hyr.2.1, up_len]; exact hlY.2.1
        have hc3 : yls.length ≤ 1000 := by rw [show yls = up z Y.last from hyr.2.2.1, up_len]; exact hlY.2.2.1
        have hc4 : yps.length ≤ 100000 := by rw [show yps = upP z Y.pairs from hyr.2.2.2, upP_len]; exact hlY.2.2.2
        have HOW : Hid (W.ownsRow (w.heap.size + 3) 9 1 (.slice wa nw wc) nw (ws.flatMap csT)) := Hid.mk (by
          have h := hXW.own.w
          dsimp only at h
          rw [← HNW.out] at h
          exact h)
        have hsW : w.heap.size + 3 ≤ W.heap.size := hXW.lt
        clear hXW hYW hYO hyr hlY
        obtain ⟨⟨x0, x1, x2, x3, x4⟩, ⟨y0, y1, y2, y3, y4⟩⟩ := five_cells HXW.out.x
        obtain ⟨⟨p0, p1, p2⟩, _⟩ := three_cellsO HXW.out.box
        obtain ⟨⟨d0, d1, d2, d3, d4⟩, _⟩ := five_cells HYW.out.y
        go_wp2_with (at_builtin; refine wpList_append_many rfl _ _ rfl Try.underlying27 hi1 hy0 hy1 hy2 rfl (by decide) (by rfl) HOW.out ya (yws.flatMap csT) yws.length yc (by rfl) (by rw [flat_len csT_lenO]) (fun e => (Src.own csT_lenO HYO.out rfl).no _ _ (by rw [e])) ((Src.own csT_lenO HYO.out rfl).cells csT_lenO (by decide)) (one_csTO _) (by unfold maxLen; omega) (by omega) hsW ?_)
        intro v3 w3 hown3 hgrow3
        obtain ⟨a3, c3, hv⟩ := own_slice hown3
        subst hv
        obtain ⟨n3, hn3⟩ : ∃ n, n = nw + yws.length := ⟨_, rfl⟩
        rw [← hn3] at hown3 ⊢
        have HX3 : Hid (XS w w3 k wd (.slice (some ⟨g, off, none⟩) m cap) (.slice wa nw wc) (.slice fa nf fc) (.slice la nl lc) (.slice pa np pc) e ⟨.slice a3 n3 c3, .slice fa nf fc, .slice la nl lc, .slice pa np pc, ws ++ yws, fs, ls, ps⟩) := Hid.mk (HXW.out.growW hgrow3 (by
          rw [List.length_append, ← HNW.out, ← hn3, List.flatMap_append]
          exact hown3))
        have HY3 : Hid (YS w3 wx.heap.size yb ye ⟨.slice ya yws.length yc, .slice yfa yfs.length yfc, .slice yla yls.length ylc, .slice ypa yps.length ypc, yws, yfs, yls, yps⟩) := Hid.mk (HYW.out.growW HXW.out.own.w hgrow3)
        clear x0 x1 x2 x3 x4 y0 y1 y2 y3 y4 p0 p1 p2 d0 d1 d2 d3 d4
        clear hown3 hgrow3 hn3 HOW
        have HX4 : Hid (XS w (w3.setCell ⟨w.heap.size + 1 + 1, 0, none⟩ (.slice a3 n3 c3)) k wd (.slice (some ⟨g, off, none⟩) m cap) (.slice a3 n3 c3) (.slice fa nf fc) (.slice la nl lc) (.slice pa np pc) e ⟨.slice a3 n3 c3, .slice fa nf fc, .slice la nl lc, .slice pa np pc, ws ++ yws, fs, ls, ps⟩) := Hid.mk (HX3.out.set0 (.slice a3 n3 c3))
        have HY4 : Hid (YS (w3.setCell ⟨w.heap.size + 1 + 1, 0, none⟩ (.slice a3 n3 c3)) wx.heap.size yb ye ⟨.slice ya yws.length yc, .slice yfa yfs.length yfc, .slice yla yls.length ylc, .slice ypa yps.length ypc, yws, yfs, yls, yps⟩) := Hid.mk (HY3.out.set (b := w.heap.size + 1 + 1) (i := 0) (by omega) (.slice a3 n3 c3))
        obtain ⟨⟨x0, x1, x2, x3, x4⟩, ⟨y0, y1, y2, y3, y4⟩⟩ := five_cells HX3.out.x
        obtain ⟨⟨p0, p1, p2⟩, _⟩ := three_cellsO HX3.out.box
        obtain ⟨⟨d0, d1, d2, d3, d4⟩, _⟩ := five_cells HY3.out.y
        obtain ⟨⟨s0, s1, s2, s3, s4⟩, ⟨t0, t1, t2, t3, t4⟩⟩ := five_cells HX4.out.x
        obtain ⟨⟨o0, o1, o2⟩, _⟩ := three_cellsO HX4.out.box
        obtain ⟨⟨u0, u1, u2, u3, u4⟩, _⟩ := five_cells HY4.out.y
        have HDIS : Hid ((Value.slice ypa yps.length ypc).ownBlock = none ∨ (Value.slice ypa yps.length ypc).ownBlock ≠ (Value.slice pa np pc).ownBlock) := Hid.mk (by
          cases hb : (Value.slice ypa yps.length ypc).ownBlock with
          | none => exact .inl rfl
          | some g2 =>
            refine .inr (fun e9 => ?_)
            have h1 := (HYW.out.p.lt g2 hb).1
            have h2 := (HX.out.own.p.lt g2 e9.symm).2
            omega)
        go_wp2_with fail
        go_loopw [8, 9] (fun vl c wy => ∃ (j : Nat) (u : Value), u = vl ∧ j ≤ yps.length ∧ c = .int .i64 j ∧ XS w wy k wd (.slice (some ⟨g, off, none⟩) m cap) (.slice a3 n3 c3) (.slice fa nf fc) (.slice la nl lc) (.slice pa np pc) e ⟨.slice a3 n3 c3, .slice fa nf fc, .slice la nl lc, u, ws ++ yws, fs, ls, ps ++ yps.take j⟩ ∧ YS wy wx.heap.size yb ye ⟨.slice ya yws.length yc, .slice yfa yfs.length yfc, .slice yla yls.length ylc, .slice ypa yps.length ypc, yws, yfs, yls, yps⟩ ∧ ((Value.slice ypa yps.length ypc).ownBlock = none ∨ (Value.slice ypa yps.length ypc).ownBlock ≠ u.ownBlock)) (fun _ c _ => yps.length - (intOf c).toNat)
        case atStart =>
          refine ⟨0, _, rfl, Nat.zero_le _, rfl, ?_, HY4.out, HDIS.out⟩
          rw [List.take_zero, List.append_nil]
          exact HX4.out
        case round =>
          clear x0 x1 x2 x3 x4 y0 y1 y2 y3 y4 p0 p1 p2 d0 d1 d2 d3 d4
          clear s0 s1 s2 s3 s4 t0 t1 t2 t3 t4 o0 o1 o2 u0 u1 u2 u3 u4
          obtain ⟨j, u, rfl, hj, rfl, hxi, hyi, hdi⟩ := hrel
          obtain ⟨wy, hwy⟩ : ∃ wy, wy = wr := ⟨_, rfl⟩
          subst hwy
          obtain ⟨ua, uc, hu⟩ := own_slice hxi.own.p
          obtain ⟨nu, hnu⟩ : ∃ n, n = (ps ++ yps.take j).length := ⟨_, rfl⟩
          rw [← hnu] at hu
          subst hu
          have hub : nu ≤ 200000 := by rw [hnu, List.length_append, List.length_take, ← HNP.out]; omega
          have HXI := Hid.mk hxi
          have HYI := Hid.mk hyi
          have HDI := Hid.mk hdi
          have HNU := Hid.mk hnu
          have hsy : w.heap.size + 3 ≤ wy.heap.size := hxi.lt
          obtain ⟨PX, hPX⟩ : ∃ l, l = (zp (ps ++ yps.take j)).flatMap csP := ⟨_, rfl⟩
          have HPX := Hid.mk hPX
          have HPR : Hid (wy.ownsRow (w.heap.size + 3) 71 2 (.slice ua nu uc) nu PX) := Hid.mk (by
            have h := hxi.own.p
            dsimp only at h
            rw [← hnu, ← hPX] at h
            exact h)
          clear hxi hyi hdi hnu hPX
          obtain ⟨⟨x0, x1, x2, x3, x4⟩, ⟨y0, y1, y2, y3, y4⟩⟩ := five_cells HXI.out.x
          obtain ⟨⟨p0, p1, p2⟩, _⟩ := three_cellsO HXI.out.box
          obtain ⟨⟨d0, d1, d2, d3, d4⟩, _⟩ := five_cells HYI.out.y
          by_cases hlj : j < yps.length
          · have hljI : (j : Int) < (yps.length : Int) := by omega
            obtain ⟨⟨za, zb⟩, hza⟩ : ∃ x, yps[j]? = some x := ⟨_, List.getElem?_eq_getElem hlj⟩
            have hzz : (zp yps)[j]? = some ((za : Int), (zb : Int)) := by rw [List.getElem?_map, hza]; rfl
            obtain ⟨gp, op, hyp, _, _, hcell⟩ := (Src.own csP_len HYI.out.p (zp_len _).symm).sl.get hzz
            subst hyp
            have r0 := hcell 0 _ rfl
            have r1 := hcell 1 _ rfl
            rw [Nat.add_zero] at r0
            have HTK : Hid (yps.take (j + 1) = yps.take j ++ [(za, zb)]) := Hid.mk (by rw [List.take_add_one, hza]; rfl)
            clear hcell hzz hza
            go_wp2_with (at_builtin; refine wpList_append_lies _ rfl _ _ _ rfl (w.heap.size + 3) 71 i0 _ 2 16 Try.underlying66 hi0 hz0 hz1 hz2 rfl (by decide) (.slice ua nu uc) _ _ (by rfl) (HPR.out.alloc _) ⟨wy.heap.size, 0, none⟩ 1 1 (csP ((za : Int), (zb : Int))) (by rfl) (by rfl) (World.news_of_block (cs := #[.int .i64 (za : Int), .int .i64 (zb : Int)]) (t := 71) (fr := (0, 0)) (heap_alloc_new wy _)) (by simp [Value.oneCell']) (by decide) (by unfold maxLen; omega) (by omega) (by simp; omega) (wy.heap.size + 1) (by simp) ?_)
            intro gg cap2 w9 hown9 hgrow9 hat9 hlt9
            have ba : Below wy.heap.size wy (wy.alloc (.cells #[.int .i64 (za : Int), .int .i64 (zb : Int)] 71)) := (Below.refl _ _).alloc (Nat.le_refl _) _
            have HX9 : Hid (XS w w9 k wd (.slice (some ⟨g, off, none⟩) m cap) (.slice a3 n3 c3) (.slice fa nf fc) (.slice la nl lc) (.slice pa np pc) e ⟨.slice a3 n3 c3, .slice fa nf fc, .slice la nl lc, .slice (some ⟨gg, 0, none⟩) (nu + 1) cap2, ws ++ yws, fs, ls, ps ++ yps.take (j + 1)⟩) := Hid.mk ((HXI.out.below ba).growP hgrow9 (by
              rw [HTK.out, ← List.append_assoc, List.length_append, ← HNU.out, zp_append, List.flatMap_append, ← HPX.out]
              exact hown9))
            have HY9 : Hid (YS w9 wx.heap.size yb ye ⟨.slice ya yws.length yc, .slice yfa yfs.length yfc, .slice yla yls.length ylc, .slice (some ⟨gp, op, none⟩) yps.length ypc, yws, yfs, yls, yps⟩) := Hid.mk ((HYI.out.below ba).growP (HXI.out.below ba).own.p hgrow9 HDI.out)
            have HD9 : Hid ((Value.slice (some ⟨gp, op, none⟩) yps.length ypc).ownBlock = none ∨ (Value.slice (some ⟨gp, op, none⟩) yps.length ypc).ownBlock ≠ (Value.slice (some ⟨gg, 0, none⟩) (nu + 1) cap2).ownBlock) := Hid.mk (by
              rcases hat9 with h | h
              · rw [show (Value.slice (some ⟨gg, 0, none⟩) (nu + 1) cap2).ownBlock = some gg from rfl, ← h]
                exact HDI.out
              · refine .inr (fun e9 => ?_)
                have e8 : gp = gg := by simpa [Value.ownBlock] using e9
                have h2 := (HYI.out.p.lt gp rfl).2
                omega)
            clear hown9 hgrow9 hat9 hlt9 ba
            clear x0 x1 x2 x3 x4 y0 y1 y2 y3 y4 p0 p1 p2 d0 d1 d2 d3 d4
            clear r0 r1
            go_wp2
            go_roundw
            case rel => exact ⟨j + 1, _, rfl, by omega, by go_num, HX9.out, HY9.out, HD9.out⟩
            case measure => simp [intOf]; omega
          · have hljI : ¬ (j : Int) < (yps.length : Int) := by omega
            have HXJ : Hid (XS w wy k wd (.slice (some ⟨g, off, none⟩) m cap) (.slice a3 n3 c3) (.slice fa nf fc) (.slice la nl lc) (.slice pa np pc) e ⟨.slice a3 n3 c3, .slice fa nf fc, .slice la nl lc, .slice ua nu uc, ws ++ yws, fs, ls, ps ++ yps⟩) := Hid.mk (by
              have h := HXI.out
              rw [List.take_of_length_le (by omega)] at h
              exact h)
            have HX6 : Hid (XS w (wy.setCell ⟨w.heap.size + 1 + 1, 3, none⟩ (.slice ua nu uc)) k wd (.slice (some ⟨g, off, none⟩) m cap) (.slice a3 n3 c3) (.slice fa nf fc) (.slice la nl lc) (.slice ua nu uc) e ⟨.slice a3 n3 c3, .slice fa nf fc, .slice la nl lc, .slice ua nu uc, ws ++ yws, fs, ls, ps ++ yps⟩) := Hid.mk (HXJ.out.set3 (.slice ua nu uc))
            have HY6 : Hid (YS (wy.setCell ⟨w.heap.size + 1 + 1, 3, none⟩ (.slice ua nu uc)) wx.heap.size yb ye ⟨.slice ya yws.length yc, .slice yfa yfs.length yfc, .slice yla yls.length ylc, .slice ypa yps.length ypc, yws, yfs, yls, yps⟩) := Hid.mk (HYI.out.set (b := w.heap.size + 1 + 1) (i := 3) (by omega) (.slice ua nu uc))
            obtain ⟨⟨s0, s1, s2, s3, s4⟩, ⟨t0, t1, t2, t3, t4⟩⟩ := five_cells HX6.out.x
            obtain ⟨⟨o0, o1, o2⟩, _⟩ := three_cellsO HX6.out.box
            obtain ⟨⟨u0, u1, u2, u3, u4⟩, _⟩ := five_cells HY6.out.y
            go_wp2_with fail
            refine (both_any (L1 := zs (fs)) (L2 := zs yfs) (Src.own csZ_len HX6.out.own.f (zs_len _).symm) (Src.own csZ_len HY6.out.f (zs_len _).symm) (by rw [zs_len]; omega) (by rw [zs_len]; omega)).mono ?_
            rintro eA wA ⟨vA, rfl, hoA, hbA⟩
            obtain ⟨nA, hnA⟩ : ∃ n, n = (zs (fs) ++ zs yfs).length := ⟨_, rfl⟩
            rw [← hnA] at hoA
            obtain ⟨aA, cA, hvA⟩ := own_slice hoA
            subst hvA
            have HXA : Hid (XS w wA k wd (.slice (some ⟨g, off, none⟩) m cap) (.slice a3 n3 c3) (.slice fa nf fc) (.slice la nl lc) (.slice ua nu uc) e ⟨.slice a3 n3 c3, .slice aA nA cA, .slice la nl lc, .slice ua nu uc, ws ++ yws, fs ++ yfs, ls, ps ++ yps⟩) := Hid.mk ((HX6.out.below hbA).rowF (zrow hoA hnA (by have := HX6.out.lt; omega)))
            have HYA : Hid (YS wA wx.heap.size yb ye ⟨.slice ya yws.length yc, .slice yfa yfs.length yfc, .slice yla yls.length ylc, .slice ypa yps.length ypc, yws, yfs, yls, yps⟩) := Hid.mk (HY6.out.below hbA)
            clear hoA hbA hnA
            clear x0 x1 x2 x3 x4 y0 y1 y2 y3 y4 p0 p1 p2 d0 d1 d2 d3 d4
            clear s0 s1 s2 s3 s4 t0 t1 t2 t3 t4 o0 o1 o2 u0 u1 u2 u3 u4
            have HXB : Hid (XS w (wA.setCell ⟨w.heap.size + 1 + 1, 1, none⟩ (.slice aA nA cA)) k wd (.slice (some ⟨g, off, none⟩) m cap) (.slice a3 n3 c3) (.slice aA nA cA) (.slice la nl lc) (.slice ua nu uc) e ⟨.slice a3 n3 c3, .slice aA nA cA, .slice la nl lc, .slice ua nu uc, ws ++ yws, fs ++ yfs, ls, ps ++ yps⟩) := Hid.mk (HXA.out.set1 (.slice aA nA cA))
            have HYB : Hid (YS (wA.setCell ⟨w.heap.size + 1 + 1, 1, none⟩ (.slice aA nA cA)) wx.heap.size yb ye ⟨.slice ya yws.length yc, .slice yfa yfs.length yfc, .slice yla yls.length ylc, .slice ypa yps.length ypc, yws, yfs, yls, yps⟩) := Hid.mk (HYA.out.set (b := w.heap.size + 1 + 1) (i := 1) (by omega) (.slice aA nA cA))
            obtain ⟨⟨x0, x1, x2, x3, x4⟩, ⟨y0, y1, y2, y3, y4⟩⟩ := five_cells HXA.out.x
            obtain ⟨⟨p0, p1, p2⟩, _⟩ := three_cellsO HXA.out.box
            obtain ⟨⟨d0, d1, d2, d3, d4⟩, _⟩ := five_cells HYA.out.y
            obtain ⟨⟨s0, s1, s2, s3, s4⟩, ⟨t0, t1, t2, t3, t4⟩⟩ := five_cells HXB.out.x
            obtain ⟨⟨o0, o1, o2⟩, _⟩ := three_cellsO HXB.out.box
            obtain ⟨⟨u0, u1, u2, u3, u4⟩, _⟩ := five_cells HYB.out.y
            go_wp2_with fail
            refine (both_any (L1 := zs (ls)) (L2 := zs yls) (Src.own csZ_len HXB.out.own.l (zs_len _).symm) (Src.own csZ_len HYB.out.l (zs_len _).symm) (by rw [zs_len]; omega) (by rw [zs_len]; omega)).mono ?_
            rintro eC wC ⟨vC, rfl, hoC, hbC⟩
            obtain ⟨nC, hnC⟩ : ∃ n, n = (zs (ls) ++ zs yls).length := ⟨_, rfl⟩
            rw [← hnC] at hoC
            obtain ⟨aC, cC, hvC⟩ := own_slice hoC
            subst hvC
            have HXC : Hid (XS w wC k wd (.slice (some ⟨g, off, none⟩) m cap) (.slice a3 n3 c3) (.slice aA nA cA) (.slice la nl lc) (.slice ua nu uc) e ⟨.slice a3 n3 c3, .slice aA nA cA, .slice aC nC cC, .slice ua nu uc, ws ++ yws, fs ++ yfs, ls ++ yls, ps ++ yps⟩) := Hid.mk ((HXB.out.below hbC).rowL (zrow hoC hnC (by have := HXB.out.lt; omega)))
            have HYC : Hid (YS wC wx.heap.size yb ye ⟨.slice ya yws.length yc, .slice yfa yfs.length yfc, .slice yla yls.length ylc, .slice ypa yps.length ypc, yws, yfs, yls, yps⟩) := Hid.mk (HYB.out.below hbC)
            clear hoC hbC hnC
            clear x0 x1 x2 x3 x4 y0 y1 y2 y3 y4 p0 p1 p2 d0 d1 d2 d3 d4
            clear s0 s1 s2 s3 s4 t0 t1 t2 t3 t4 o0 o1 o2 u0 u1 u2 u3 u4
            have HXD : Hid (XS w (wC.setCell ⟨w.heap.size + 1 + 1, 2, none⟩ (.slice aC nC cC)) k wd (.slice (some ⟨g, off, none⟩) m cap) (.slice a3 n3 c3) (.slice aA nA cA) (.slice aC nC cC) (.slice ua nu uc) e ⟨.slice a3 n3 c3, .slice aA nA cA, .slice aC nC cC, .slice ua nu uc, ws ++ yws, fs ++ yfs, ls ++ yls, ps ++ yps⟩) := Hid.mk (HXC.out.set2 (.slice aC nC cC))
            have HYD : Hid (YS (wC.setCell ⟨w.heap.size + 1 + 1, 2, none⟩ (.slice aC nC cC)) wx.heap.size yb ye ⟨.slice ya yws.length yc, .slice yfa yfs.length yfc, .slice yla yls.length ylc, .slice ypa yps.length ypc, yws, yfs, yls, yps⟩) := Hid.mk (HYC.out.set (b := w.heap.size + 1 + 1) (i := 2) (by omega) (.slice aC nC cC))
            obtain ⟨⟨x0, x1, x2, x3, x4⟩, ⟨y0, y1, y2, y3, y4⟩⟩ := five_cells HXC.out.x
            obtain ⟨⟨p0, p1, p2⟩, _⟩ := three_cellsO HXC.out.box
            obtain ⟨⟨d0, d1, d2, d3, d4⟩, _⟩ := five_cells HYC.out.y
            obtain ⟨⟨s0, s1, s2, s3, s4⟩, ⟨t0, t1, t2, t3, t4⟩⟩ := five_cells HXD.out.x
            obtain ⟨⟨o0, o1, o2⟩, _⟩ := three_cellsO HXD.out.box
            obtain ⟨⟨u0, u1, u2, u3, u4⟩, _⟩ := five_cells HYD.out.y
            cases e with
            | true =>
              have HXE : Hid (XS w ((wC.setCell ⟨w.heap.size + 1 + 1, 2, none⟩ (.slice aC nC cC)).setCell ⟨w.heap.size + 1 + 1, 4, none⟩ (.bool true)) k wd (.slice (some ⟨g, off, none⟩) m cap) (.slice a3 n3 c3) (.slice aA nA cA) (.slice aC nC cC) (.slice ua nu uc) true ⟨.slice a3 n3 c3, .slice aA nA cA, .slice aC nC cC, .slice ua nu uc, ws ++ yws, fs ++ yfs, ls ++ yls, ps ++ yps⟩) := Hid.mk (HXD.out.set4 true)
              have HEE : Hid ((f (i + 1)).empty = true) := Hid.mk (by rw [HFI.out]; show ((f i).empty || Y.empty) = _; rw [← HE.out]; rfl)
              have HRR : Hid (RP ⟨.slice a3 n3 c3, .slice aA nA cA, .slice aC nC cC, .slice ua nu uc, ws ++ yws, fs ++ yfs, ls ++ yls, ps ++ yps⟩ (shift n (f (i + 1)))) := Hid.mk (by
                have h1 := HRP.out
                have h2 := HYR.out
                have e1 : (f i).words.length = nw := by rw [HNW.out, show ws = (f i).words from h1.1]
                rw [HFI.out, shift_alt, e1, ← HZ.out]
                obtain ⟨r1, r2, r3, r4⟩ := h1
                obtain ⟨r5, r6, r7, r8⟩ := h2
                dsimp only [shift] at r1 r2 r3 r4 r5 r6 r7 r8
                subst r1 r2 r3 r4 r5 r6 r7 r8
                exact ⟨rfl, rfl, rfl, rfl⟩)
              go_wp2
              go_roundw
              case rel => exact ⟨i + 1, ⟨.slice a3 n3 c3, .slice aA nA cA, .slice aC nC cC, .slice ua nu uc, ws ++ yws, fs ++ yfs, ls ++ yls, ps ++ yps⟩, by omega, by go_num, HRR.out, by rw [HEE.out]; exact HXE.out⟩
              case measure => simp [intOf]; omega
            | false =>
              have HXE : Hid (XS w ((wC.setCell ⟨w.heap.size + 1 + 1, 2, none⟩ (.slice aC nC cC)).setCell ⟨w.heap.size + 1 + 1, 4, none⟩ (.bool ye)) k wd (.slice (some ⟨g, off, none⟩) m cap) (.slice a3 n3 c3) (.slice aA nA cA) (.slice aC nC cC) (.slice ua nu uc) ye ⟨.slice a3 n3 c3, .slice aA nA cA, .slice aC nC cC, .slice ua nu uc, ws ++ yws, fs ++ yfs, ls ++ yls, ps ++ yps⟩) := Hid.mk (HXD.out.set4 ye)
              have HEE : Hid ((f (i + 1)).empty = ye) := Hid.mk (by rw [HFI.out]; show ((f i).empty || Y.empty) = _; rw [← HE.out, ← HYEM.out]; rfl)
              have HRR : Hid (RP ⟨.slice a3 n3 c3, .slice aA nA cA, .slice aC nC cC, .slice ua nu uc, ws ++ yws, fs ++ yfs, ls ++ yls, ps ++ yps⟩ (shift n (f (i + 1)))) := Hid.mk (by
                have h1 := HRP.out
                have h2 := HYR.out
                have e1 : (f i).words.length = nw := by rw [HNW.out, show ws = (f i).words from h1.1]
                rw [HFI.out, shift_alt, e1, ← HZ.out]
                obtain ⟨r1, r2, r3, r4⟩ := h1
                obtain ⟨r5, r6, r7, r8⟩ := h2
                dsimp only [shift] at r1 r2 r3 r4 r5 r6 r7 r8
                subst r1 r2 r3 r4 r5 r6 r7 r8
                exact ⟨rfl, rfl, rfl, rfl⟩)
              go_wp2
              go_roundw
              case rel => exact ⟨i + 1, ⟨.slice a3 n3 c3, .slice aA nA cA, .slice aC nC cC, .slice ua nu uc, ws ++ yws, fs ++ yfs, ls ++ yls, ps ++ yps⟩, by omega, by go_num, HRR.out, by rw [HEE.out]; exact HXE.out⟩
              case measure => simp [intOf]; omega
    · have hltI : ¬ (i : Int) < (m : Int) := by omega
      have him : i = m := by omega
      have HIM : Hid (f i = f l.length) := Hid.mk (by rw [him, HM.out])
      clear him hlt hi
      clear a1 b1 a2 b2 b2'
      rcases HK3.out with hk3 | hk4 | hk5 | hk6
      · subst hk3
        have HFK : Hid (finK 3 (f l.length) = f l.length) := Hid.mk (by simp [finK])
        have e1 := HX.out.res
        obtain ⟨⟨j0, j1, j2, j3, j4⟩, ⟨k0, k1, k2, k3, k4⟩⟩ := five_cells e1
        obtain ⟨⟨z0, z1, z2, z3, z4⟩, _⟩ := five_cells (set5P_at (c0 := .slice wa nw wc) (c1 := .slice fa nf fc) (c2 := .slice la nl lc) (c3 := .slice pa np pc) (c4 := .bool e) e1)
        have HEN : Hid (∃ r : R4, Ending.returned (Value.agg #[.slice wa nw wc, .slice fa nf fc, .slice la nl lc, .slice pa np pc, .bool e]) = .returned (.agg #[r.wv, r.fv, r.lv, r.pv, .bool PE]) ∧ RP r (shift n P) ∧ Own4 w.heap.size (set5P wx (w.heap.size + 1) (.slice wa nw wc) (.slice fa nf fc) (.slice la nl lc) (.slice pa np pc) (.bool e)) r ∧ Below w.heap.size w (set5P wx (w.heap.size + 1) (.slice wa nw wc) (.slice fa nf fc) (.slice la nl lc) (.slice pa np pc) (.bool e))) := Hid.mk (by
          refine ⟨⟨.slice wa nw wc, .slice fa nf fc, .slice la nl lc, .slice pa np pc, ws, fs, ls, ps⟩, ?_, ?_, (HX.out.own.set5 (by omega) _ _ _ _ _).mono (by omega), Below.set5P HX.out.bel (by omega) _ _ _ _ _⟩
          · rw [HPEE.out, ← HP.out, HFK.out, ← HIM.out, ← HE.out]
          · rw [← HP.out, HFK.out, ← HIM.out]; exact HRP.out)
        have Z0 := Hid.mk z0
        have Z1 := Hid.mk z1
        have Z2 := Hid.mk z2
        have Z3 := Hid.mk z3
        have Z4 := Hid.mk z4
        clear z0 z1 z2 z3 z4 e1
        unfold set5P at HEN Z0 Z1 Z2 Z3 Z4
        go_wp2
        refine bodyPost_ret (v := .agg #[.slice wa nw wc, .slice fa nf fc, .slice la nl lc, .slice pa np pc, .bool e]) ?_ rfl HEN.out
        simp [results, Try.results33, go_sem, Z0.out, Z1.out, Z2.out, Z3.out, Z4.out]
      · subst hk4
        have HFK : Hid (finK 4 (f l.length) = mayC2 (loopC (f l.length))) := Hid.mk (by simp [finK])
        go_wp2_with fail
        refine (cross_any (L := zp (ps)) (A := zs (ls)) (B := zs (fs)) (Src.own csP_len HX.out.own.p (zp_len _).symm) (Src.own csZ_len HX.out.own.l (zs_len _).symm) (Src.own csZ_len HX.out.own.f (zs_len _).symm) (by rw [zp_len]; (try rw [List.length_append]); omega) (by rw [zs_len]; omega) (by rw [zs_len]; omega)).mono ?_
        rintro eA wA ⟨vA, rfl, hoA, hbA⟩
        obtain ⟨nA, hnA⟩ : ∃ n, n = (zp (ps) ++ crossI (zs (ls)) (zs (fs))).length := ⟨_, rfl⟩
        rw [← hnA] at hoA
        obtain ⟨aA, cA, hvA⟩ := own_slice hoA
        subst hvA
        have HXA : Hid (XS w wA 4 wd (.slice ao m cap) (.slice wa nw wc) (.slice fa nf fc) (.slice la nl lc) (.slice pa np pc) e ⟨.slice wa nw wc, .slice fa nf fc, .slice la nl lc, .slice aA nA cA, ws, fs, ls, ps ++ cross (ls) (fs)⟩) := Hid.mk ((HX.out.below hbA).rowP (prow hoA hnA (by have := HX.out.lt; omega)))
        clear hoA hbA hnA
        clear x0 x1 x2 x3 x4 y0 y1 y2 y3 y4 p0 p1 p2
        have HXB : Hid (XS w (wA.setCell ⟨w.heap.size + 1 + 1, 3, none⟩ (.slice aA nA cA)) 4 wd (.slice ao m cap) (.slice wa nw wc) (.slice fa nf fc) (.slice la nl lc) (.slice aA nA cA) e ⟨.slice wa nw wc, .slice fa nf fc, .slice la nl lc, .slice aA nA cA, ws, fs, ls, ps ++ cross (ls) (fs)⟩) := Hid.mk (HXA.out.set3 _)
        obtain ⟨⟨x0, x1, x2, x3, x4⟩, ⟨y0, y1, y2, y3, y4⟩⟩ := five_cells HXA.out.x
        obtain ⟨⟨p0, p1, p2⟩, _⟩ := three_cellsO HXA.out.box
        obtain ⟨⟨s0, s1, s2, s3, s4⟩, ⟨t0, t1, t2, t3, t4⟩⟩ := five_cells HXB.out.x
        obtain ⟨⟨o0, o1, o2⟩, _⟩ := three_cellsO HXB.out.box
        have HXC : Hid (XS w ((wA.setCell ⟨w.heap.size + 1 + 1, 3, none⟩ (.slice aA nA cA)).setCell ⟨w.heap.size + 1 + 1, 4, none⟩ (.bool true)) 4 wd (.slice ao m cap) (.slice wa nw wc) (.slice fa nf fc) (.slice la nl lc) (.slice aA nA cA) true ⟨.slice wa nw wc, .slice fa nf fc, .slice la nl lc, .slice aA nA cA, ws, fs, ls, ps ++ cross (ls) (fs)⟩) := Hid.mk (HXB.out.set4 true)
        obtain ⟨⟨v0, v1, v2, v3, v4⟩, ⟨g0, g1, g2, g3, g4⟩⟩ := five_cells HXC.out.x
        have e1 := HXC.out.res
        obtain ⟨⟨j0, j1, j2, j3, j4⟩, ⟨k0, k1, k2, k3, k4⟩⟩ := five_cells e1
        obtain ⟨⟨z0, z1, z2, z3, z4⟩, _⟩ := five_cells (set5P_at (c0 := .slice wa nw wc) (c1 := .slice fa nf fc) (c2 := .slice la nl lc) (c3 := .slice aA nA cA) (c4 := .bool true) e1)
        have HEN : Hid (∃ r : R4, Ending.returned (Value.agg #[.slice wa nw wc, .slice fa nf fc, .slice la nl lc, .slice aA nA cA, .bool true]) = .returned (.agg #[r.wv, r.fv, r.lv, r.pv, .bool PE]) ∧ RP r (shift n P) ∧ Own4 w.heap.size (set5P ((wA.setCell ⟨w.heap.size + 1 + 1, 3, none⟩ (.slice aA nA cA)).setCell ⟨w.heap.size + 1 + 1, 4, none⟩ (.bool true)) (w.heap.size + 1) (.slice wa nw wc) (.slice fa nf fc) (.slice la nl lc) (.slice aA nA cA) (.bool true)) r ∧ Below w.heap.size w (set5P ((wA.setCell ⟨w.heap.size + 1 + 1, 3, none⟩ (.slice aA nA cA)).setCell ⟨w.heap.size + 1 + 1, 4, none⟩ (.bool true)) (w.heap.size + 1) (.slice wa nw wc) (.slice fa nf fc) (.slice la nl lc) (.slice aA nA cA) (.bool true))) := Hid.mk (by
          refine ⟨⟨.slice wa nw wc, .slice fa nf fc, .slice la nl lc, .slice aA nA cA, ws, fs, ls, ps ++ cross (ls) (fs)⟩, ?_, ?_, (HXC.out.own.set5 (by omega) _ _ _ _ _).mono (by omega), Below.set5P HXC.out.bel (by omega) _ _ _ _ _⟩
          · rw [HPEE.out, ← HP.out, HFK.out]; rfl
          · rw [← HP.out, HFK.out, ← HIM.out]; obtain ⟨r1, r2, r3, r4⟩ := HRP.out; dsimp only [shift] at r1 r2 r3 r4; subst r1 r2 r3 r4; exact ⟨rfl, rfl, rfl, by simp [shift, loopC, mayC2, upP_append, cross_up]⟩)
        have Z0 := Hid.mk z0
        have Z1 := Hid.mk z1
        have Z2 := Hid.mk z2
        have Z3 := Hid.mk z3
        have Z4 := Hid.mk z4
        clear z0 z1 z2 z3 z4 e1
        unfold set5P at HEN Z0 Z1 Z2 Z3 Z4
        go_wp2
        refine bodyPost_ret (v := .agg #[.slice wa nw wc, .slice fa nf fc, .slice la nl lc, .slice aA nA cA, .bool true]) ?_ rfl HEN.out
        simp [results, Try.results33, go_sem, Z0.out, Z1.out, Z2.out, Z3.out, Z4.out]
      · subst hk5
        have HFK : Hid (finK 5 (f l.length) = loopC (f l.length)) := Hid.mk (by simp [finK])
        go_wp2_with fail
        refine (cross_any (L := zp (ps)) (A := zs (ls)) (B := zs (fs)) (Src.own csP_len HX.out.own.p (zp_len _).symm) (Src.own csZ_len HX.out.own.l (zs_len _).symm) (Src.own csZ_len HX.out.own.f (zs_len _).symm) (by rw [zp_len]; (try rw [List.length_append]); omega) (by rw [zs_len]; omega) (by rw [zs_len]; omega)).mono ?_
        rintro eA wA ⟨vA, rfl, hoA, hbA⟩
        obtain ⟨nA, hnA⟩ : ∃ n, n = (zp (ps) ++ crossI (zs (ls)) (zs (fs))).length := ⟨_, rfl⟩
        rw [← hnA] at hoA
        obtain ⟨aA, cA, hvA⟩ := own_slice hoA
        subst hvA
        have HXA : Hid (XS w wA 5 wd (.slice ao m cap) (.slice wa nw wc) (.slice fa nf fc) (.slice la nl lc) (.slice pa np pc) e ⟨.slice wa nw wc, .slice fa nf fc, .slice la nl lc, .slice aA nA cA, ws, fs, ls, ps ++ cross (ls) (fs)⟩) := Hid.mk ((HX.out.below hbA).rowP (prow hoA hnA (by have := HX.out.lt; omega)))
        clear hoA hbA hnA
        clear x0 x1 x2 x3 x4 y0 y1 y2 y3 y4 p0 p1 p2
        have HXB : Hid (XS w (wA.setCell ⟨w.heap.size + 1 + 1, 3, none⟩ (.slice aA nA cA)) 5 wd (.slice ao m cap) (.slice wa nw wc) (.slice fa nf fc) (.slice la nl lc) (.slice aA nA cA) e ⟨.slice wa nw wc, .slice fa nf fc, .slice la nl lc, .slice aA nA cA, ws, fs, ls, ps ++ cross (ls) (fs)⟩) := Hid.mk (HXA.out.set3 _)
        obtain ⟨⟨x0, x1, x2, x3, x4⟩, ⟨y0, y1, y2, y3, y4⟩⟩ := five_cells HXA.out.x
        obtain ⟨⟨p0, p1, p2⟩, _⟩ := three_cellsO HXA.out.box
        obtain ⟨⟨s0, s1, s2, s3, s4⟩, ⟨t0, t1, t2, t3, t4⟩⟩ := five_cells HXB.out.x
        obtain ⟨⟨o0, o1, o2⟩, _⟩ := three_cellsO HXB.out.box
        have e1 := HXB.out.res
        obtain ⟨⟨j0, j1, j2, j3, j4⟩, ⟨k0, k1, k2, k3, k4⟩⟩ := five_cells e1
        obtain ⟨⟨z0, z1, z2, z3, z4⟩, _⟩ := five_cells (set5P_at (c0 := .slice wa nw wc) (c1 := .slice fa nf fc) (c2 := .slice la nl lc) (c3 := .slice aA nA cA) (c4 := .bool e) e1)
        have HEN : Hid (∃ r : R4, Ending.returned (Value.agg #[.slice wa nw wc, .slice fa nf fc, .slice la nl lc, .slice aA nA cA, .bool e]) = .returned (.agg #[r.wv, r.fv, r.lv, r.pv, .bool PE]) ∧ RP r (shift n P) ∧ Own4 w.heap.size (set5P (wA.setCell ⟨w.heap.size + 1 + 1, 3, none⟩ (.slice aA nA cA)) (w.heap.size + 1) (.slice wa nw wc) (.slice fa nf fc) (.slice la nl lc) (.slice aA nA cA) (.bool e)) r ∧ Below w.heap.size w (set5P (wA.setCell ⟨w.heap.size + 1 + 1, 3, none⟩ (.slice aA nA cA)) (w.heap.size + 1) (.slice wa nw wc) (.slice fa nf fc) (.slice la nl lc) (.slice aA nA cA) (.bool e))) := Hid.mk (by
          refine ⟨⟨.slice wa nw wc, .slice fa nf fc, .slice la nl lc, .slice aA nA cA, ws, fs, ls, ps ++ cross (ls) (fs)⟩, ?_, ?_, (HXB.out.own.set5 (by omega) _ _ _ _ _).mono (by omega), Below.set5P HXB.out.bel (by omega) _ _ _ _ _⟩
          · rw [HPEE.out, ← HP.out, HFK.out, ← HIM.out]; show _ = Ending.returned (Value.agg #[_, _, _, _, Value.bool (f i).empty]); rw [← HE.out]
          · rw [← HP.out, HFK.out, ← HIM.out]; obtain ⟨r1, r2, r3, r4⟩ := HRP.out; dsimp only [shift] at r1 r2 r3 r4; subst r1 r2 r3 r4; exact ⟨rfl, rfl, rfl, by simp [shift, loopC, upP_append, cross_up]⟩)
        have Z0 := Hid.mk z0
        have Z1 := Hid.mk z1
        have Z2 := Hid.mk z2
        have Z3 := Hid.mk z3
        have Z4 := Hid.mk z4
        clear z0 z1 z2 z3 z4 e1
        unfold set5P at HEN Z0 Z1 Z2 Z3 Z4
        go_wp2
        refine bodyPost_ret (v := .agg #[.slice wa nw wc, .slice fa nf fc, .slice la nl lc, .slice aA nA cA, .bool e]) ?_ rfl HEN.out
        simp [results, Try.results33, go_sem, Z0.out, Z1.out, Z2.out, Z3.out, Z4.out]
      · subst hk6
        have HFK : Hid (finK 6 (f l.length) = mayC2 (f l.length)) := Hid.mk (by simp [finK])
        have HXC : Hid (XS w (wx.setCell ⟨w.heap.size + 1 + 1, 4, none⟩ (.bool true)) 6 wd (.slice ao m cap) (.slice wa nw wc) (.slice fa nf fc) (.slice la nl lc) (.slice pa np pc) true ⟨.slice wa nw wc, .slice fa nf fc, .slice la nl lc, .slice pa np pc, ws, fs, ls, ps⟩) := Hid.mk (HX.out.set4 true)
        obtain ⟨⟨v0, v1, v2, v3, v4⟩, ⟨g0, g1, g2, g3, g4⟩⟩ := five_cells HXC.out.x
        have e1 := HXC.out.res
        obtain ⟨⟨j0, j1, j2, j3, j4⟩, ⟨k0, k1, k2, k3, k4⟩⟩ := five_cells e1
        obtain ⟨⟨z0, z1, z2, z3, z4⟩, _⟩ := five_cells (set5P_at (c0 := .slice wa nw wc) (c1 := .slice fa nf fc) (c2 := .slice la nl lc) (c3 := .slice pa np pc) (c4 := .bool true) e1)
        have HEN : Hid (∃ r : R4, Ending.returned (Value.agg #[.slice wa nw wc, .slice fa nf fc, .slice la nl lc, .slice pa np pc, .bool true]) = .returned (.agg #[r.wv, r.fv, r.lv, r.pv, .bool PE]) ∧ RP r (shift n P) ∧ Own4 w.heap.size (set5P (wx.setCell ⟨w.heap.size + 1 + 1, 4, none⟩ (.bool true)) (w.heap.size + 1) (.slice wa nw wc) (.slice fa nf fc) (.slice la nl lc) (.slice pa np pc) (.bool true)) r ∧ Below w.heap.size w (set5P (wx.setCell ⟨w.heap.size + 1 + 1, 4, none⟩ (.bool true)) (w.heap.size + 1) (.slice wa nw wc) (.slice fa nf fc) (.slice la nl lc) (.slice pa np pc) (.bool true))) := Hid.mk (by
          refine ⟨⟨.slice wa nw wc, .slice fa nf fc, .slice la nl lc, .slice pa np pc, ws, fs, ls, ps⟩, ?_, ?_, (HXC.out.own.set5 (by omega) _ _ _ _ _).mono (by omega), Below.set5P HXC.out.bel (by omega) _ _ _ _ _⟩
          · rw [HPEE.out, ← HP.out, HFK.out]; rfl
          · rw [← HP.out, HFK.out, ← HIM.out]; exact HRP.out)
        have Z0 := Hid.mk z0
        have Z1 := Hid.mk z1
        have Z2 := Hid.mk z2
        have Z3 := Hid.mk z3
        have Z4 := Hid.mk z4
        clear z0 z1 z2 z3 z4 e1
        unfold set5P at HEN Z0 Z1 Z2 Z3 Z4
        go_wp2
        refine bodyPost_ret (v := .agg #[.slice wa nw wc, .slice fa nf fc, .slice la nl lc, .slice pa np pc, .bool true]) ?_ rfl HEN.out
        simp [results, Try.results33, go_sem, Z0.out, Z1.out, Z2.out, Z3.out, Z4.out]
end Go.Proofs.Ythdnpddfdlhlaaa
