/- A field holds what was sent. (Written by a program.) -/
import Derived.Test.YtnkgbinogblemaaDOpen
import Derived.Deep.CutRange
import Derived.Deep.DeepCutAuto
namespace Go.Proofs.Ytnkgbinogblemaa
open Go.RowKit

set_option maxRecDepth 100000 in
set_option maxHeartbeats 8000000 in
theorem fieldPlays_walk (kk : Int) (vs : Value) (os : List OpF) (w : World) (_hk : (Lit.int .i64 kk).wf = true) (hv : OpsF w vs os) :
    Calls Try.prog 3 #[.int .i64 kk, vs] w fun e w' => e = .returned (.bool true) ∧ Below w.heap.size w w' := by
  obtain ⟨hsl, hok, hml⟩ := hv
  obtain ⟨a2, c2, rfl⟩ := hsl.slice
  have H2 := Hid.mk hsl
  have HOK := Hid.mk hok
  obtain ⟨on, hn⟩ : ∃ n, n = os.length := ⟨_, rfl⟩
  rw [← hn] at H2 hml ⊢
  have HN := Hid.mk hn
  have hnl : on ≤ 9223372036854775807 := by unfold maxLen at hml; omega
  have CN : Hid (Calls Try.prog 7 #[.int .i64 kk] w (NewE kk w)) := Hid.mk (new_any kk w)
  unfold NewE at CN
  have CR : Hid (∀ X, Calls Try.prog 8 #[.int .i64 kk] X (RNewE kk X)) := Hid.mk (fun X => rNew_any kk X)
  unfold RNewE at CR
  have HL : Hid (Low (fun k => k < w.heap.size) w) := Hid.mk (fun k hk => hk)
  have CAW := Hid.mk (fun w => awake_any w)
  clear hsl hok hn hml _hk
  go_enter Try.func3, Try.ntmps3
  go_wp2_with fail
  refine CN.out.mono ?_
  rintro e w1 ⟨hb1, ⟨hno, rfl⟩ | ⟨b, rfl, n, hkn, hn1, hn2, hf⟩⟩
  · have HB1 := Hid.mk hb1
    have HNO := Hid.mk hno
    clear hb1 hno
    go_wp2_with fail
    refine (CR.out w1).mono ?_
    rintro e w2 ⟨hb2, ⟨-, rfl⟩ | ⟨hyes, -⟩⟩
    · have b3 : Below w2.heap.size w2 (w2.alloc zF) := (Below.refl _ _).alloc (Nat.le_refl _) _
      have hb3 := hb2.trans (b3.mono hb2.size)
      have HB3 : Hid (Below w.heap.size w (w2.alloc zF)) := Hid.mk (HB1.out.trans (hb3.mono HB1.out.size))
      have C := Hid.mk (CAW.out (w2.alloc zF))
      clear hb2 b3 hb3 CR CN
      go_wp2_with fail
      refine C.out.mono ?_
      rintro e w3 ⟨rfl, hb4⟩
      have HB4 : Hid (Below w.heap.size w w3) := Hid.mk (HB3.out.trans (hb4.mono HB3.out.size))
      clear hb4 C
      go_wp2
      go_ret
      exact ⟨rfl, HB4.out⟩
    · exact absurd hyes HNO.out
  have HF1 := Hid.mk (hf _ HL.out)
  have HB1 := Hid.mk hb1
  have HKN := Hid.mk hkn
  have HN12 := Hid.mk (And.intro hn1 hn2)
  clear hb1 hf hkn hn1 hn2 CN
  go_wp2_with fail
  refine (CR.out w1).mono ?_
  rintro e w2 ⟨hb2, ⟨hno, -⟩ | ⟨-, rfl⟩⟩
  · exact absurd (by have := HKN.out; have := HN12.out; omega) hno
  rw [HKN.out]
  have b3 : Below w2.heap.size w2 (w2.alloc (.cells #[.int .i64 (n : Int), .int .i64 0, .slice none 0 0] 29)) := (Below.refl _ _).alloc (Nat.le_refl _) _
  have hq3 := box_at w2 (.cells #[.int .i64 (n : Int), .int .i64 0, .slice none 0 0] 29)
  have hb3 := hb2.trans (b3.mono hb2.size)
  obtain ⟨W3, hW3⟩ : ∃ W3, W3 = w2.alloc (.cells #[.int .i64 (n : Int), .int .i64 0, .slice none 0 0] 29) := ⟨_, rfl⟩
  rw [← hW3] at b3 hq3 hb3
  obtain ⟨cq, hcq⟩ : ∃ cq, cq = w2.heap.size := ⟨_, rfl⟩
  rw [← hcq] at hq3
  have HST : Hid (ST w b cq W3 ⟨n, 0, []⟩ ⟨n, 0, []⟩ (.slice none 0 0) (Plus (fun k => k < w.heap.size) w1.heap.size W3.heap.size)) := Hid.mk
    { fb := HF1.out.plus hb3, q := hq3, dl := DL.nil _ _, sc := .inr ⟨by rw [hcq]; exact hb2.size, lt_of_block hq3⟩, low := (HL.out.below HB1.out).plus hb3.size, all := fun k hk => .inl hk, bel := HB1.out.trans (hb3.mono HB1.out.size), geq := by rw [hcq]; exact Nat.le_trans HB1.out.size hb2.size }
  have HW3 := Hid.mk hW3
  have HCQ := Hid.mk hcq
  clear hb2 b3 hq3 hb3 hW3 hcq CR HF1
  go_wp2_with fail
  rw [← HW3.out, ← HCQ.out]
  go_loopw [9] (fun ci wr => ∃ (i : Nat) (f : Fd) (vl : Value) (S : Nat → Prop), i ≤ 200 ∧ i ≤ on ∧ ci = .int .i64 (i : Int) ∧ f.last ≤ i ∧ ST w b cq wr f f vl S) (fun ci _ => 200 - (intOf ci).toNat)
  case atStart => exact ⟨0, _, _, _, by omega, by omega, rfl, Nat.le_refl _, HST.out⟩
  case round =>
    obtain ⟨i, f, vl, S, hi3, hin, rfl, hla, hst⟩ := hrel
    obtain ⟨wx, hwx⟩ : ∃ wx, wx = wr := ⟨_, rfl⟩
    subst hwx
    obtain ⟨va0, vc0, hvl⟩ := hst.dl.slice
    subst hvl
    obtain ⟨vl, hvl⟩ : ∃ vl : Value, vl = .slice va0 f.l.length vc0 := ⟨_, rfl⟩
    have HX : Hid (ST w b cq wx f f vl S) := Hid.mk (by rw [hvl]; exact hst)
    have HVL := Hid.mk hvl
    have HLA := Hid.mk hla
    clear hst hla HST hvl
    by_cases hlt : i < on
    · have hltI : (i : Int) < (on : Int) := by omega
      by_cases hlt3 : i < 200
      · have hlt3I : (i : Int) < 200 := by omega
        obtain ⟨o, ho⟩ : ∃ o, os[i]? = some o := ⟨_, List.getElem?_eq_getElem (by rw [← HN.out]; exact hlt)⟩
        obtain ⟨g, off, rfl, _, _, hc⟩ := (H2.out.below HX.out.bel).get ho
        have p0 := hc 0 _ rfl
        have p1 := hc 1 _ rfl
        have p2 := hc 2 _ rfl
        have p3 := hc 3 _ rfl
        rw [Nat.add_zero] at p0
        have HOO := Hid.mk (HOK.out o (List.mem_of_getElem? ho))
        obtain ⟨kd, hkd⟩ : ∃ x : Int, x = o.kind := ⟨_, rfl⟩
        obtain ⟨oa, hoa⟩ : ∃ x : Int, x = o.a := ⟨_, rfl⟩
        obtain ⟨ob, hob⟩ : ∃ x : Int, x = o.b := ⟨_, rfl⟩
        obtain ⟨bs, hbs⟩ : ∃ x : List UInt8, x = o.text := ⟨_, rfl⟩
        unfold OpFOk at HOO
        rw [← hkd] at p0
        rw [← hoa] at p1 HOO
        rw [← hob] at p2 HOO
        rw [← hbs] at p3 HOO
        obtain ⟨s, hs⟩ : ∃ s : ByteArray, s = ⟨bs.toArray⟩ := ⟨_, rfl⟩
        have hsz : s.size = bs.length := by rw [hs]; exact size_list _
        rw [← hs] at p3
        have HS := Hid.mk hs
        have HSZ := Hid.mk hsz
        clear hc ho hkd hoa hob hbs hs hsz
        obtain ⟨WO, hWO⟩ : ∃ WO, WO = wx.alloc (.cells #[.int .i64 kd, .int .i64 oa, .int .i64 ob, .string s] 34) := ⟨_, rfl⟩
        have bO : Below wx.heap.size wx WO := by rw [hWO]; exact (Below.refl _ _).alloc (Nat.le_refl _) _
        have qO : WO.heap[wx.heap.size]? = some (.cells #[.int .i64 kd, .int .i64 oa, .int .i64 ob, .string s] 34) := by rw [hWO]; exact box_at _ _
        obtain ⟨oo, hoo⟩ : ∃ oo, oo = wx.heap.size := ⟨_, rfl⟩
        obtain ⟨S1, hS1⟩ : ∃ S1, S1 = Plus S wx.heap.size WO.heap.size := ⟨_, rfl⟩
        have HO : Hid (ST w b cq WO f f vl S1) := Hid.mk (by rw [hS1]; exact HX.out.plus bO)
        have HQO : Hid (WO.heap[oo]? = some (.cells #[.int .i64 kd, .int .i64 oa, .int .i64 ob, .string s] 34)) := Hid.mk (by rw [hoo]; exact qO)
        have HSO : Hid (S1 oo) := Hid.mk (by rw [hS1, hoo]; exact .inr ⟨Nat.le_refl _, lt_of_block qO⟩)
        have HWO := Hid.mk hWO
        have HOE := Hid.mk hoo
        have hl9 : f.last < 10000 := by have := HLA.out; omega
        clear bO qO hS1 hoo hWO
        obtain ⟨⟨x0, x1, x2, x3⟩, -⟩ := four_cells HQO.out
        rw [HWO.out, HOE.out] at x0 x1 x2 x3
        rw [← HWO.out] at x0 x1 x2 x3
        go_upto_region 11 with fail
        rw [← HWO.out]
        go_cut [72] from 49 to 193 (fun c wz => c = .bool (decide (4096 < s.size ∧ s.size ≤ 1048640)) ∧ wz = WO)
        case first =>
          by_cases ht1 : 4096 < s.size
          · have ht1a : (4096 : Int) < (s.size : Int) := by omega
            by_cases ht2 : s.size ≤ 1048640
            · have ht1b : (s.size : Int) ≤ 1048640 := by omega
              have hd := decide_eq_true (show 4096 < s.size ∧ s.size ≤ 1048640 from ⟨ht1, ht2⟩)
              have HD := Hid.mk hd
              clear ht1 ht2 hd
              go_wp2_with fail
              go_meet
              exact ⟨congrArg Value.bool HD.out.symm, rfl⟩
            · have ht1b : ¬ (s.size : Int) ≤ 1048640 := by omega
              have hd := decide_eq_false (show ¬ (4096 < s.size ∧ s.size ≤ 1048640) from fun h => ht2 h.2)
              have HD := Hid.mk hd
              clear ht1 ht2 hd
              go_wp2_with fail
              go_meet
              exact ⟨congrArg Value.bool HD.out.symm, rfl⟩
          · have ht1a : ¬ (4096 : Int) < (s.size : Int) := by omega
            have hd := decide_eq_false (show ¬ (4096 < s.size ∧ s.size ≤ 1048640) from fun h => ht1 h.1)
            have HD := Hid.mk hd
            clear ht1 hd
            go_wp2_with fail
            go_meet
            exact ⟨congrArg Value.bool HD.out.symm, rfl⟩
        obtain ⟨rfl, hwc⟩ := hcut
        rw [hwc]
        clear hwc wc
        by_cases ht1 : 4096 < s.size ∧ s.size ≤ 1048640
        · rw [decide_eq_true ht1]
          have C := Hid.mk (CAW.out WO)
          clear ht1
          go_wp2_with fail
          refine C.out.mono ?_
          rintro e w3 ⟨rfl, hb4⟩
          have HB4 : Hid (Below w.heap.size w w3) := Hid.mk (HO.out.bel.trans (hb4.mono HO.out.bel.size))
          clear hb4 C
          go_wp2
          go_ret
          exact ⟨rfl, HB4.out⟩
        rw [decide_eq_false ht1]
        clear ht1
        by_cases hk1 : kd = 1
        · subst hk1
          by_cases hg : isN oa f.nodes ∧ isN ob f.nodes ∧ s.size ≤ 1048640
          · have hpk : PkOk f.nodes ⟨0, oa, ob, bs⟩ := ⟨hg.1.1, hg.1.2, hg.2.1.1, hg.2.1.2, by have := HSZ.out; have := hg.2.2; simp only; omega⟩
            have CS := Hid.mk (send_any HO.out.fb HO.out.low ⟨0, oa, ob, bs⟩ hpk rfl hl9)
            have CD : Hid (∀ X T, DL T X vl f.l → Calls Try.prog 11 #[encF f vl, .int .i64 oa, .int .i64 ob, .string ⟨bs.toArray⟩] X fun e w' => ∃ v', e = .returned (.tuple #[encF (f.add ⟨0, oa, ob, bs⟩) v', .int .i64 ((f.last + 1 : Nat) : Int), .int .i64 0]) ∧ DL (fun k => X.heap.size ≤ k ∧ k < w'.heap.size) w' v' (f.add ⟨0, oa, ob, bs⟩).l ∧ Below X.heap.size X w') := Hid.mk (fun X T hX => rSend_any hX _ hpk hl9 HO.out.fb.ok.len)
            simp only [← HS.out] at CS CD
            obtain ⟨f2, hf2⟩ : ∃ f2, f2 = f.add ⟨0, oa, ob, bs⟩ := ⟨_, rfl⟩
            have HLA2 : Hid (f2.last ≤ i + 1) := Hid.mk (by rw [hf2]; have := HLA.out; simp only [Fd.add]; omega)
            rw [← hf2] at CS CD
            obtain ⟨z, hz⟩ : ∃ z : Int, z = ((f.last + 1 : Nat) : Int) := ⟨_, rfl⟩
            rw [← hz] at CS CD
            unfold encF at CD
            clear hpk hg hf2 hz
            go_wp2_with fail
            refine CS.out.mono ?_
            rintro e w3 ⟨rfl, hf3, hr3⟩
            have HP3 := Hid.mk (HO.out.prog hf3 hr3)
            have q3 := (hr3.block _ HSO.out).trans HQO.out
            obtain ⟨⟨x0, x1, x2, x3⟩, -⟩ := four_cells q3
            rw [HOE.out] at x0 x1 x2 x3
            obtain ⟨⟨y0, y1, y2⟩, -⟩ := three_cells HP3.out.q
            have CD3 := Hid.mk (CD.out w3 _ HP3.out.dl)
            clear hf3 hr3 q3 CS CD
            go_wp2_with fail
            refine CD3.out.mono ?_
            rintro e w4 ⟨v2, rfl, hd4, hb4⟩
            obtain ⟨va, vc, rfl⟩ := hd4.slice
            obtain ⟨V2, hV2⟩ : ∃ V2 : Value, V2 = .slice va f2.l.length vc := ⟨_, rfl⟩
            obtain ⟨w5, hw5⟩ : ∃ w5, w5 = w4.alloc (.cells #[.int .i64 (f2.nodes : Int), .int .i64 (f2.last : Int), V2] 29) := ⟨_, rfl⟩
            have b5 : Below w4.heap.size w4 w5 := by rw [hw5]; exact (Below.refl _ _).alloc (Nat.le_refl _) _
            have n5 : w5.heap[w4.heap.size]? = some (.cells #[.int .i64 (f2.nodes : Int), .int .i64 (f2.last : Int), V2] 29) := by rw [hw5]; exact box_at _ _
            obtain ⟨S6, hS6⟩ : ∃ S6, S6 = Plus S1 w3.heap.size w5.heap.size := ⟨_, rfl⟩
            have h35 := hb4.trans (b5.mono hb4.size)
            have HP5 : Hid (ST w b cq w5 f2 f vl S6) := Hid.mk (by rw [hS6]; exact HP3.out.plus h35)
            have hd5 : DL S6 w5 V2 f2.l := by rw [hV2, hS6]; exact (hd4.below b5).sub (fun k hk => .inr ⟨hk.1, Nat.lt_of_lt_of_le hk.2 b5.size⟩)
            obtain ⟨W6, hW6⟩ : ∃ W6, W6 = set3 w5 cq (.int .i64 (f2.nodes : Int)) (.int .i64 (f2.last : Int)) V2 := ⟨_, rfl⟩
            have HT : Hid (ST w b cq W6 f2 f2 V2 S6) := Hid.mk (by rw [hW6]; exact HP5.out.store hd5)
            have HW6 := Hid.mk hW6
            obtain ⟨⟨y0, y1, y2⟩, ⟨z0, z1, z2⟩⟩ := three_cells HP5.out.q
            obtain ⟨⟨u0, u1, u2⟩, -⟩ := three_cells n5
            rw [hw5] at y0 y1 y2 z0 z1 z2 u0 u1 u2
            have HW5 : Hid (W6 = set3 (w4.alloc (.cells #[.int .i64 (f2.nodes : Int), .int .i64 (f2.last : Int), V2] 29)) cq (.int .i64 (f2.nodes : Int)) (.int .i64 (f2.last : Int)) V2) := Hid.mk (by rw [hW6, hw5])
            have hcne : ¬ cq = w4.heap.size := fun e => by have := lt_of_block HP3.out.q; have := hb4.size; omega
            have hcne2 : ¬ w4.heap.size = cq := fun e => hcne e.symm
            rw [hV2] at y0 y1 y2 z0 z1 z2 u0 u1 u2 HW5
            clear hd4 hb4 b5 n5 hS6 h35 hd5 hW6 hw5 CD3 HP5
            go_wp2_with fail
            change Code.wp _ _ _ _ (set3 (w4.alloc (.cells #[.int .i64 (f2.nodes : Int), .int .i64 (f2.last : Int), .slice va f2.l.length vc] 29)) cq (.int .i64 (f2.nodes : Int)) (.int .i64 (f2.last : Int)) (.slice va f2.l.length vc))
            rw [← HW5.out]
            clear hV2 hcne hcne2 u0 u1 u2 y0 y1 y2 z0 z1 z2 x0 x1 x2 x3
            obtain ⟨m2, hm2⟩ : ∃ m2, m2 = f2.l.length := ⟨_, rfl⟩
            have hm2b : m2 ≤ 100000 := by have := HT.out.fb.ok.len; have := HLA2.out; omega
            have HM2 := Hid.mk hm2
            have HT8 : Hid (ST w b cq W6.drew f2 f2 V2 S6) := Hid.mk (HT.out.below (below_drew (Below.refl _ _)))
            have HB8 : Hid (Below W6.drew.heap.size W6.drew W6.drew) := Hid.mk (Below.refl _ _)
            have CI : Hid (∀ X, Below W6.drew.heap.size W6.drew X → Calls Try.prog 21 #[.pointer (some ⟨b, 0, none⟩)] X fun e w' => ∃ v', e = .returned v' ∧ w'.ownsRow X.heap.size 3 1 v' m2 (idCs f2.l) ∧ Below X.heap.size X w') := Hid.mk (fun X hX => by rw [hm2]; exact ids_any (HT8.out.below hX).fb (by have := HLA2.out; omega))
            have CR : Hid (∀ X, Below W6.drew.heap.size W6.drew X → Calls Try.prog 20 #[.agg #[.int .i64 (f2.nodes : Int), .int .i64 (f2.last : Int), V2], .int .i64 (-1)] X fun e w' => ∃ v', e = .returned v' ∧ w'.ownsRow X.heap.size 3 1 v' m2 (idCs f2.l) ∧ Below X.heap.size X w') := Hid.mk (fun X hX => by
              have h := rIds_any (HT8.out.below hX).dl (-1) (by rw [← hm2]; exact hm2b)
              rw [selF_all _ (by decide), ← hm2] at h
              exact h)
            have KQ : Hid (∀ X, Below W6.drew.heap.size W6.drew X → X.cell? ⟨cq, 0, none⟩ = some (.int .i64 (f2.nodes : Int)) ∧ X.cell? ⟨cq, 1, none⟩ = some (.int .i64 (f2.last : Int)) ∧ X.cell? ⟨cq, 2, none⟩ = some V2) := Hid.mk (fun X hX => (three_cells (HT8.out.below hX).q).1)
            have K8 := Hid.mk (KQ.out W6.drew HB8.out)
            clear hm2
            go_region_held3 (fun y => y.cell? ⟨cq, 0, none⟩ = some (.int .i64 (f2.nodes : Int)) ∧ y.cell? ⟨cq, 1, none⟩ = some (.int .i64 (f2.last : Int)) ∧ y.cell? ⟨cq, 2, none⟩ = some V2)
              (first | with_reducible exact KSm.out | with_reducible exact KR1.out | with_reducible exact KI1.out | with_reducible exact K8.out)
              (first
                | (with_reducible refine (CI.out _ HB8.out).mono ?_; rintro e wI ⟨vI, rfl, hI, hbI⟩; obtain ⟨aI, cI, rfl⟩ := own_slice hI; have HBI : Hid (Below W6.drew.heap.size W6.drew wI) := Hid.mk hbI; have KI1 := Hid.mk (KQ.out wI HBI.out))
                | (with_reducible refine (CI.out _ HBR.out).mono ?_; rintro e wI ⟨vI, rfl, hI, hbI⟩; obtain ⟨aI, cI, rfl⟩ := own_slice hI; have HBI : Hid (Below W6.drew.heap.size W6.drew wI) := Hid.mk (HBR.out.trans (hbI.mono HBR.out.size)); have KI1 := Hid.mk (KQ.out wI HBI.out))
                | (with_reducible refine (CR.out _ HB8.out).mono ?_; rintro e wR ⟨vR, rfl, hR, hbR⟩; obtain ⟨aR, cR, rfl⟩ := own_slice hR; have HBR : Hid (Below W6.drew.heap.size W6.drew wR) := Hid.mk hbR; have KR1 := Hid.mk (KQ.out wR HBR.out))
                | (with_reducible refine (CR.out _ HBI.out).mono ?_; rintro e wR ⟨vR, rfl, hR, hbR⟩; obtain ⟨aR, cR, rfl⟩ := own_slice hR; have HBR : Hid (Below W6.drew.heap.size W6.drew wR) := Hid.mk (HBI.out.trans (hbR.mono HBI.out.size)); have KR1 := Hid.mk (KQ.out wR HBR.out))
                | (with_reducible refine (sameInts_any (owns_below hI hbR) hR HM2.out hm2b).mono ?_; rintro e wS ⟨rfl, hbS⟩; have HBS : Hid (Below W6.drew.heap.size W6.drew wS) := Hid.mk (HBR.out.trans (hbS.mono HBR.out.size)); have KSm := Hid.mk (KQ.out wS HBS.out))
                | (with_reducible refine (sameInts_any hI (owns_below hR hbI) HM2.out hm2b).mono ?_; rintro e wS ⟨rfl, hbS⟩; have HBS : Hid (Below W6.drew.heap.size W6.drew wS) := Hid.mk (HBI.out.trans (hbS.mono HBI.out.size)); have KSm := Hid.mk (KQ.out wS HBS.out)))
            all_goals (
              have HT9 := Hid.mk (HT8.out.below HBS.out)
              clear hI hbI hR hbR hbS KSm KI1 KR1
              go_wp2
              go_roundw
              case rel => exact ⟨i + 1, f2, V2, S6, by omega, by omega, by go_num, HLA2.out, HT9.out⟩
              case measure => simp [intOf]; omega)
          · have CS := Hid.mk (send_bad HO.out.fb oa ob s hg)
            have CD : Hid (∀ X T, DL T X vl f.l → Calls Try.prog 11 #[encF f vl, .int .i64 oa, .int .i64 ob, .string s] X fun e w' => e = .returned (.tuple #[encF f vl, .int .i64 0, .int .i64 1]) ∧ Below X.heap.size X w') := Hid.mk (fun X T hX => rSend_bad hX oa ob s hg)
            unfold encF at CD
            clear hg
            go_wp2_with fail
            refine CS.out.mono ?_
            rintro e w3 ⟨rfl, hw3⟩
            have hf3 : FB S1 w3 b f := by rw [hw3]; exact HO.out.fb
            have hr3 : Fr S1 WO w3 := by rw [hw3]; exact Fr.refl _ _
            clear hw3
            have HP3 := Hid.mk (HO.out.prog hf3 hr3)
            have q3 := (hr3.block _ HSO.out).trans HQO.out
            obtain ⟨⟨x0, x1, x2, x3⟩, -⟩ := four_cells q3
            rw [HOE.out] at x0 x1 x2 x3
            obtain ⟨⟨y0, y1, y2⟩, -⟩ := three_cells HP3.out.q
            have CD3 := Hid.mk (CD.out w3 _ HP3.out.dl)
            clear hf3 hr3 q3 CS CD
            go_wp2_with fail
            refine CD3.out.mono ?_
            rintro e w4 ⟨rfl, hb4⟩
            obtain ⟨V2, hV2⟩ : ∃ V2 : Value, V2 = .slice va0 f.l.length vc0 := ⟨_, rfl⟩
            have hVV : vl = V2 := by rw [HVL.out, hV2]
            rw [hVV]
            obtain ⟨f2, hf2⟩ : ∃ f2, f2 = f := ⟨_, rfl⟩
            rw [← hf2]
            rw [← hf2] at hV2
            have HLA2 : Hid (f2.last ≤ i + 1) := Hid.mk (by rw [hf2]; have := HLA.out; omega)
            have hd4 : DL S1 w4 V2 f2.l := by rw [← hVV, hf2]; exact HP3.out.dl.below hb4
            obtain ⟨w5, hw5⟩ : ∃ w5, w5 = w4.alloc (.cells #[.int .i64 (f2.nodes : Int), .int .i64 (f2.last : Int), V2] 29) := ⟨_, rfl⟩
            have b5 : Below w4.heap.size w4 w5 := by rw [hw5]; exact (Below.refl _ _).alloc (Nat.le_refl _) _
            have n5 : w5.heap[w4.heap.size]? = some (.cells #[.int .i64 (f2.nodes : Int), .int .i64 (f2.last : Int), V2] 29) := by rw [hw5]; exact box_at _ _
            obtain ⟨S6, hS6⟩ : ∃ S6, S6 = Plus S1 w3.heap.size w5.heap.size := ⟨_, rfl⟩
            have h35 := hb4.trans (b5.mono hb4.size)
            have HP5 : Hid (ST w b cq w5 f2 f vl S6) := Hid.mk (by rw [hf2]; rw [hS6]; exact HP3.out.plus h35)
            have hd5 : DL S6 w5 V2 f2.l := by rw [hS6]; exact (hd4.below b5).sub (fun k hk => .inl hk)
            obtain ⟨W6, hW6⟩ : ∃ W6, W6 = set3 w5 cq (.int .i64 (f2.nodes : Int)) (.int .i64 (f2.last : Int)) V2 := ⟨_, rfl⟩
            have HT : Hid (ST w b cq W6 f2 f2 V2 S6) := Hid.mk (by rw [hW6]; exact HP5.out.store hd5)
            have HW6 := Hid.mk hW6
            obtain ⟨⟨y0, y1, y2⟩, ⟨z0, z1, z2⟩⟩ := three_cells HP5.out.q
            obtain ⟨⟨u0, u1, u2⟩, -⟩ := three_cells n5
            rw [hw5] at y0 y1 y2 z0 z1 z2 u0 u1 u2
            have HW5 : Hid (W6 = set3 (w4.alloc (.cells #[.int .i64 (f2.nodes : Int), .int .i64 (f2.last : Int), V2] 29)) cq (.int .i64 (f2.nodes : Int)) (.int .i64 (f2.last : Int)) V2) := Hid.mk (by rw [hW6, hw5])
            have hcne : ¬ cq = w4.heap.size := fun e => by have := lt_of_block HP3.out.q; have := hb4.size; omega
            have hcne2 : ¬ w4.heap.size = cq := fun e => hcne e.symm
            rw [hV2] at y0 y1 y2 z0 z1 z2 u0 u1 u2 HW5
            clear hf2 hVV hd4 hb4 b5 n5 hS6 h35 hd5 hW6 hw5 CD3 HP5
            go_wp2_with fail
            change Code.wp _ _ _ _ (set3 (w4.alloc (.cells #[.int .i64 (f2.nodes : Int), .int .i64 (f2.last : Int), .slice va0 f2.l.length vc0] 29)) cq (.int .i64 (f2.nodes : Int)) (.int .i64 (f2.last : Int)) (.slice va0 f2.l.length vc0))
            rw [← HW5.out]
            clear hV2 hcne hcne2 u0 u1 u2 y0 y1 y2 z0 z1 z2 x0 x1 x2 x3
            obtain ⟨m2, hm2⟩ : ∃ m2, m2 = f2.l.length := ⟨_, rfl⟩
            have hm2b : m2 ≤ 100000 := by have := HT.out.fb.ok.len; have := HLA2.out; omega
            have HM2 := Hid.mk hm2
            have HT8 : Hid (ST w b cq W6.drew f2 f2 V2 S6) := Hid.mk (HT.out.below (below_drew (Below.refl _ _)))
            have HB8 : Hid (Below W6.drew.heap.size W6.drew W6.drew) := Hid.mk (Below.refl _ _)
            have CI : Hid (∀ X, Below W6.drew.heap.size W6.drew X → Calls Try.prog 21 #[.pointer (some ⟨b, 0, none⟩)] X fun e w' => ∃ v', e = .returned v' ∧ w'.ownsRow X.heap.size 3 1 v' m2 (idCs f2.l) ∧ Below X.heap.size X w') := Hid.mk (fun X hX => by rw [hm2]; exact ids_any (HT8.out.below hX).fb (by have := HLA2.out; omega))
            have CR : Hid (∀ X, Below W6.drew.heap.size W6.drew X → Calls Try.prog 20 #[.agg #[.int .i64 (f2.nodes : Int), .int .i64 (f2.last : Int), V2], .int .i64 (-1)] X fun e w' => ∃ v', e = .returned v' ∧ w'.ownsRow X.heap.size 3 1 v' m2 (idCs f2.l) ∧ Below X.heap.size X w') := Hid.mk (fun X hX => by
              have h := rIds_any (HT8.out.below hX).dl (-1) (by rw [← hm2]; exact hm2b)
              rw [selF_all _ (by decide), ← hm2] at h
              exact h)
            have KQ : Hid (∀ X, Below W6.drew.heap.size W6.drew X → X.cell? ⟨cq, 0, none⟩ = some (.int .i64 (f2.nodes : Int)) ∧ X.cell? ⟨cq, 1, none⟩ = some (.int .i64 (f2.last : Int)) ∧ X.cell? ⟨cq, 2, none⟩ = some V2) := Hid.mk (fun X hX => (three_cells (HT8.out.below hX).q).1)
            have K8 := Hid.mk (KQ.out W6.drew HB8.out)
            clear hm2
            go_region_held3 (fun y => y.cell? ⟨cq, 0, none⟩ = some (.int .i64 (f2.nodes : Int)) ∧ y.cell? ⟨cq, 1, none⟩ = some (.int .i64 (f2.last : Int)) ∧ y.cell? ⟨cq, 2, none⟩ = some V2)
              (first | with_reducible exact KSm.out | with_reducible exact KR1.out | with_reducible exact KI1.out | with_reducible exact K8.out)
              (first
                | (with_reducible refine (CI.out _ HB8.out).mono ?_; rintro e wI ⟨vI, rfl, hI, hbI⟩; obtain ⟨aI, cI, rfl⟩ := own_slice hI; have HBI : Hid (Below W6.drew.heap.size W6.drew wI) := Hid.mk hbI; have KI1 := Hid.mk (KQ.out wI HBI.out))
                | (with_reducible refine (CI.out _ HBR.out).mono ?_; rintro e wI ⟨vI, rfl, hI, hbI⟩; obtain ⟨aI, cI, rfl⟩ := own_slice hI; have HBI : Hid (Below W6.drew.heap.size W6.drew wI) := Hid.mk (HBR.out.trans (hbI.mono HBR.out.size)); have KI1 := Hid.mk (KQ.out wI HBI.out))
                | (with_reducible refine (CR.out _ HB8.out).mono ?_; rintro e wR ⟨vR, rfl, hR, hbR⟩; obtain ⟨aR, cR, rfl⟩ := own_slice hR; have HBR : Hid (Below W6.drew.heap.size W6.drew wR) := Hid.mk hbR; have KR1 := Hid.mk (KQ.out wR HBR.out))
                | (with_reducible refine (CR.out _ HBI.out).mono ?_; rintro e wR ⟨vR, rfl, hR, hbR⟩; obtain ⟨aR, cR, rfl⟩ := own_slice hR; have HBR : Hid (Below W6.drew.heap.size W6.drew wR) := Hid.mk (HBI.out.trans (hbR.mono HBI.out.size)); have KR1 := Hid.mk (KQ.out wR HBR.out))
                | (with_reducible refine (sameInts_any (owns_below hI hbR) hR HM2.out hm2b).mono ?_; rintro e wS ⟨rfl, hbS⟩; have HBS : Hid (Below W6.drew.heap.size W6.drew wS) := Hid.mk (HBR.out.trans (hbS.mono HBR.out.size)); have KSm := Hid.mk (KQ.out wS HBS.out))
                | (with_reducible refine (sameInts_any hI (owns_below hR hbI) HM2.out hm2b).mono ?_; rintro e wS ⟨rfl, hbS⟩; have HBS : Hid (Below W6.drew.heap.size W6.drew wS) := Hid.mk (HBI.out.trans (hbS.mono HBI.out.size)); have KSm := Hid.mk (KQ.out wS HBS.out)))
            all_goals (
              have HT9 := Hid.mk (HT8.out.below HBS.out)
              clear hI hbI hR hbR hbS KSm KI1 KR1
              go_wp2
              go_roundw
              case rel => exact ⟨i + 1, f2, V2, S6, by omega, by omega, by go_num, HLA2.out, HT9.out⟩
              case measure => simp [intOf]; omega)
        by_cases hk2 : kd = 2
        · subst hk2
          by_cases hg : ∃ p ∈ f.l, (p.id : Int) = oa
          · obtain ⟨p, hp, hpa⟩ := hg
            obtain ⟨a, c, hac⟩ := List.append_of_mem hp
            have hfl : f.l.length ≤ 100000 := by have := HO.out.fb.ok.len; omega
            have CS := Hid.mk (arrive_any HO.out.fb HO.out.low hac (by omega))
            have CD : Hid (∀ X T, DL T X vl f.l → Calls Try.prog 13 #[encF f vl, .int .i64 (p.id : Int)] X fun e w' => ∃ v', e = .returned (.tuple #[encF ⟨f.nodes, f.last, a ++ c⟩ v', encP p, .int .i64 0]) ∧ DL (fun k => X.heap.size ≤ k ∧ k < w'.heap.size) w' v' (Fd.mk f.nodes f.last (a ++ c)).l ∧ Below X.heap.size X w') := Hid.mk (fun X T hX => rArrive_any hX HO.out.fb.ok.up hac hfl)
            unfold encP at CS CD
            rw [hpa] at CS CD
            obtain ⟨sp, hsp⟩ : ∃ sp : ByteArray, sp = ⟨p.bs.toArray⟩ := ⟨_, rfl⟩
            rw [← hsp] at CS CD
            obtain ⟨f2, hf2⟩ : ∃ f2 : Fd, f2 = ⟨f.nodes, f.last, a ++ c⟩ := ⟨_, rfl⟩
            have HLA2 : Hid (f2.last ≤ i + 1) := Hid.mk (by rw [hf2]; have := HLA.out; simp only; omega)
            rw [← hf2] at CS CD
            unfold encF at CD
            clear hp hpa hac hf2 hfl hsp
            go_wp2_with fail
            refine CS.out.mono ?_
            rintro e w3 ⟨rfl, hf3, hr3⟩
            have b3a : Below w3.heap.size w3 (w3.alloc (.cells #[.int .i64 oa, .int .i64 p.fr, .int .i64 p.to, .string sp] 40)) := (Below.refl _ _).alloc (Nat.le_refl _) _
            have HP3 := Hid.mk ((HO.out.prog hf3 hr3).below b3a)
            have HPA : Hid ((w3.alloc (.cells #[.int .i64 oa, .int .i64 p.fr, .int .i64 p.to, .string sp] 40)).heap[w3.heap.size]? = _) := Hid.mk (box_at w3 (.cells #[.int .i64 oa, .int .i64 p.fr, .int .i64 p.to, .string sp] 40))
            have hr3 := hr3.trans (fr_below (HO.out.low.fr hr3) b3a)
            have q3 := (hr3.block _ HSO.out).trans HQO.out
            obtain ⟨⟨x0, x1, x2, x3⟩, -⟩ := four_cells q3
            rw [HOE.out] at x0 x1 x2 x3
            obtain ⟨⟨y0, y1, y2⟩, -⟩ := three_cells HP3.out.q
            have CD3 := Hid.mk (CD.out (w3.alloc (.cells #[.int .i64 oa, .int .i64 p.fr, .int .i64 p.to, .string sp] 40)) _ HP3.out.dl)
            clear b3a hf3 hr3 q3 CS CD
            go_wp2_with fail
            refine CD3.out.mono ?_
            rintro e w4 ⟨v2, rfl, hd4, hb4⟩
            obtain ⟨va, vc, rfl⟩ := hd4.slice
            obtain ⟨V2, hV2⟩ : ∃ V2 : Value, V2 = .slice va f2.l.length vc := ⟨_, rfl⟩
            obtain ⟨w5, hw5⟩ : ∃ w5, w5 = (w4.alloc (.cells #[.int .i64 (f2.nodes : Int), .int .i64 (f2.last : Int), V2] 29)).alloc (.cells #[.int .i64 oa, .int .i64 p.fr, .int .i64 p.to, .string sp] 40) := ⟨_, rfl⟩
            have b5 : Below w4.heap.size w4 w5 := by rw [hw5]; exact ((Below.refl _ _).alloc (Nat.le_refl _) _).alloc (by simp) _
            have n5 : w5.heap[w4.heap.size]? = some (.cells #[.int .i64 (f2.nodes : Int), .int .i64 (f2.last : Int), V2] 29) := by rw [hw5]; exact (Below.block ((Below.refl _ _).alloc (Nat.le_refl _) (.cells #[.int .i64 oa, .int .i64 p.fr, .int .i64 p.to, .string sp] 40)) _ (by simp)).trans (box_at _ _)
            have p5 : w5.heap[w3.heap.size]? = _ := (b5.block _ (Nat.lt_of_lt_of_le (lt_of_block HPA.out) hb4.size)).trans ((hb4.block _ (lt_of_block HPA.out)).trans HPA.out)
            obtain ⟨⟨l0, l1, l2, l3⟩, -⟩ := four_cells p5
            have heq := eqP_same oa p.fr p.to sp w5
            have hgd := guardP
            rw [hw5] at l0 l1 l2 l3 heq
            clear p5
            obtain ⟨S6, hS6⟩ : ∃ S6, S6 = Plus S1 (w3.alloc (.cells #[.int .i64 oa, .int .i64 p.fr, .int .i64 p.to, .string sp] 40)).heap.size w5.heap.size := ⟨_, rfl⟩
            have h35 := hb4.trans (b5.mono hb4.size)
            have HP5 : Hid (ST w b cq w5 f2 f vl S6) := Hid.mk (by rw [hS6]; exact HP3.out.plus h35)
            have hd5 : DL S6 w5 V2 f2.l := by rw [hV2, hS6]; exact (hd4.below b5).sub (fun k hk => .inr ⟨hk.1, Nat.lt_of_lt_of_le hk.2 b5.size⟩)
            obtain ⟨W6, hW6⟩ : ∃ W6, W6 = set3 w5 cq (.int .i64 (f2.nodes : Int)) (.int .i64 (f2.last : Int)) V2 := ⟨_, rfl⟩
            have HT : Hid (ST w b cq W6 f2 f2 V2 S6) := Hid.mk (by rw [hW6]; exact HP5.out.store hd5)
            have HW6 := Hid.mk hW6
            obtain ⟨⟨y0, y1, y2⟩, ⟨z0, z1, z2⟩⟩ := three_cells HP5.out.q
            obtain ⟨⟨u0, u1, u2⟩, -⟩ := three_cells n5
            rw [hw5] at y0 y1 y2 z0 z1 z2 u0 u1 u2
            have HW5 : Hid (W6 = set3 ((w4.alloc (.cells #[.int .i64 (f2.nodes : Int), .int .i64 (f2.last : Int), V2] 29)).alloc (.cells #[.int .i64 oa, .int .i64 p.fr, .int .i64 p.to, .string sp] 40)) cq (.int .i64 (f2.nodes : Int)) (.int .i64 (f2.last : Int)) V2) := Hid.mk (by rw [hW6, hw5])
            have hcne : ¬ cq = w4.heap.size := fun e => by have := lt_of_block HP3.out.q; have := hb4.size; omega
            have hcne2 : ¬ w4.heap.size = cq := fun e => hcne e.symm
            rw [hV2] at y0 y1 y2 z0 z1 z2 u0 u1 u2 l0 l1 l2 l3 heq HW5
            clear hd4 hb4 b5 n5 hS6 h35 hd5 hW6 hw5 CD3 HP5
            go_wp2_with fail
            change Code.wp _ _ _ _ (set3 ((w4.alloc (.cells #[.int .i64 (f2.nodes : Int), .int .i64 (f2.last : Int), .slice va f2.l.length vc] 29)).alloc (.cells #[.int .i64 oa, .int .i64 p.fr, .int .i64 p.to, .string sp] 40)) cq (.int .i64 (f2.nodes : Int)) (.int .i64 (f2.last : Int)) (.slice va f2.l.length vc))
            rw [← HW5.out]
            clear hV2 hcne hcne2 u0 u1 u2 y0 y1 y2 z0 z1 z2 x0 x1 x2 x3
            obtain ⟨m2, hm2⟩ : ∃ m2, m2 = f2.l.length := ⟨_, rfl⟩
            have hm2b : m2 ≤ 100000 := by have := HT.out.fb.ok.len; have := HLA2.out; omega
            have HM2 := Hid.mk hm2
            have HT8 : Hid (ST w b cq W6.drew f2 f2 V2 S6) := Hid.mk (HT.out.below (below_drew (Below.refl _ _)))
            have HB8 : Hid (Below W6.drew.heap.size W6.drew W6.drew) := Hid.mk (Below.refl _ _)
            have CI : Hid (∀ X, Below W6.drew.heap.size W6.drew X → Calls Try.prog 21 #[.pointer (some ⟨b, 0, none⟩)] X fun e w' => ∃ v', e = .returned v' ∧ w'.ownsRow X.heap.size 3 1 v' m2 (idCs f2.l) ∧ Below X.heap.size X w') := Hid.mk (fun X hX => by rw [hm2]; exact ids_any (HT8.out.below hX).fb (by have := HLA2.out; omega))
            have CR : Hid (∀ X, Below W6.drew.heap.size W6.drew X → Calls Try.prog 20 #[.agg #[.int .i64 (f2.nodes : Int), .int .i64 (f2.last : Int), V2], .int .i64 (-1)] X fun e w' => ∃ v', e = .returned v' ∧ w'.ownsRow X.heap.size 3 1 v' m2 (idCs f2.l) ∧ Below X.heap.size X w') := Hid.mk (fun X hX => by
              have h := rIds_any (HT8.out.below hX).dl (-1) (by rw [← hm2]; exact hm2b)
              rw [selF_all _ (by decide), ← hm2] at h
              exact h)
            have KQ : Hid (∀ X, Below W6.drew.heap.size W6.drew X → X.cell? ⟨cq, 0, none⟩ = some (.int .i64 (f2.nodes : Int)) ∧ X.cell? ⟨cq, 1, none⟩ = some (.int .i64 (f2.last : Int)) ∧ X.cell? ⟨cq, 2, none⟩ = some V2) := Hid.mk (fun X hX => (three_cells (HT8.out.below hX).q).1)
            have K8 := Hid.mk (KQ.out W6.drew HB8.out)
            clear hm2
            go_region_held3 (fun y => y.cell? ⟨cq, 0, none⟩ = some (.int .i64 (f2.nodes : Int)) ∧ y.cell? ⟨cq, 1, none⟩ = some (.int .i64 (f2.last : Int)) ∧ y.cell? ⟨cq, 2, none⟩ = some V2)
              (first | with_reducible exact KSm.out | with_reducible exact KR1.out | with_reducible exact KI1.out | with_reducible exact K8.out)
              (first
                | (with_reducible refine (CI.out _ HB8.out).mono ?_; rintro e wI ⟨vI, rfl, hI, hbI⟩; obtain ⟨aI, cI, rfl⟩ := own_slice hI; have HBI : Hid (Below W6.drew.heap.size W6.drew wI) := Hid.mk hbI; have KI1 := Hid.mk (KQ.out wI HBI.out))
                | (with_reducible refine (CI.out _ HBR.out).mono ?_; rintro e wI ⟨vI, rfl, hI, hbI⟩; obtain ⟨aI, cI, rfl⟩ := own_slice hI; have HBI : Hid (Below W6.drew.heap.size W6.drew wI) := Hid.mk (HBR.out.trans (hbI.mono HBR.out.size)); have KI1 := Hid.mk (KQ.out wI HBI.out))
                | (with_reducible refine (CR.out _ HB8.out).mono ?_; rintro e wR ⟨vR, rfl, hR, hbR⟩; obtain ⟨aR, cR, rfl⟩ := own_slice hR; have HBR : Hid (Below W6.drew.heap.size W6.drew wR) := Hid.mk hbR; have KR1 := Hid.mk (KQ.out wR HBR.out))
                | (with_reducible refine (CR.out _ HBI.out).mono ?_; rintro e wR ⟨vR, rfl, hR, hbR⟩; obtain ⟨aR, cR, rfl⟩ := own_slice hR; have HBR : Hid (Below W6.drew.heap.size W6.drew wR) := Hid.mk (HBI.out.trans (hbR.mono HBI.out.size)); have KR1 := Hid.mk (KQ.out wR HBR.out))
                | (with_reducible refine (sameInts_any (owns_below hI hbR) hR HM2.out hm2b).mono ?_; rintro e wS ⟨rfl, hbS⟩; have HBS : Hid (Below W6.drew.heap.size W6.drew wS) := Hid.mk (HBR.out.trans (hbS.mono HBR.out.size)); have KSm := Hid.mk (KQ.out wS HBS.out))
                | (with_reducible refine (sameInts_any hI (owns_below hR hbI) HM2.out hm2b).mono ?_; rintro e wS ⟨rfl, hbS⟩; have HBS : Hid (Below W6.drew.heap.size W6.drew wS) := Hid.mk (HBI.out.trans (hbS.mono HBI.out.size)); have KSm := Hid.mk (KQ.out wS HBS.out)))
            all_goals (
              have HT9 := Hid.mk (HT8.out.below HBS.out)
              clear hI hbI hR hbR hbS KSm KI1 KR1
              go_wp2
              go_roundw
              case rel => exact ⟨i + 1, f2, V2, S6, by omega, by omega, by go_num, HLA2.out, HT9.out⟩
              case measure => simp [intOf]; omega)
          · have hnl2 : ∀ q ∈ f.l, (q.id : Int) ≠ oa := fun q hq e => hg ⟨q, hq, e⟩
            have hfl : f.l.length ≤ 100000 := by have := HO.out.fb.ok.len; omega
            have CS := Hid.mk (arrive_not HO.out.fb oa HOO.out.1 hg)
            have CD : Hid (∀ X T, DL T X vl f.l → Calls Try.prog 13 #[encF f vl, .int .i64 oa] X fun e w' => e = .returned (.tuple #[encF f vl, encP pk0, .int .i64 3]) ∧ Below X.heap.size X w') := Hid.mk (fun X T hX => rArrive_not hX oa hnl2 hfl)
            unfold encF at CD
            unfold encP pk0 at CS CD
            simp only [Int.natCast_zero] at CS CD
            clear hg hnl2 hfl
            go_wp2_with fail
            refine CS.out.mono ?_
            rintro e w3 ⟨rfl, hb3⟩
            have hf3 : FB S1 w3 b f := HO.out.fb.below hb3
            have hr3 : Fr S1 WO w3 := fr_below HO.out.low hb3
            clear hb3
            have b3a : Below w3.heap.size w3 (w3.alloc zP) := (Below.refl _ _).alloc (Nat.le_refl _) _
            have HP3 := Hid.mk ((HO.out.prog hf3 hr3).below b3a)
            have HPA : Hid ((w3.alloc zP).heap[w3.heap.size]? = _) := Hid.mk (box_at w3 zP)
            have hr3 := hr3.trans (fr_below (HO.out.low.fr hr3) b3a)
            have q3 := (hr3.block _ HSO.out).trans HQO.out
            obtain ⟨⟨x0, x1, x2, x3⟩, -⟩ := four_cells q3
            rw [HOE.out] at x0 x1 x2 x3
            obtain ⟨⟨y0, y1, y2⟩, -⟩ := three_cells HP3.out.q
            have CD3 := Hid.mk (CD.out (w3.alloc zP) _ HP3.out.dl)
            clear b3a hf3 hr3 q3 CS CD
            go_wp2_with fail
            refine CD3.out.mono ?_
            rintro e w4 ⟨rfl, hb4⟩
            obtain ⟨V2, hV2⟩ : ∃ V2 : Value, V2 = .slice va0 f.l.length vc0 := ⟨_, rfl⟩
            have hVV : vl = V2 := by rw [HVL.out, hV2]
            rw [hVV]
            obtain ⟨f2, hf2⟩ : ∃ f2, f2 = f := ⟨_, rfl⟩
            rw [← hf2]
            rw [← hf2] at hV2
            have HLA2 : Hid (f2.last ≤ i + 1) := Hid.mk (by rw [hf2]; have := HLA.out; omega)
            have hd4 : DL S1 w4 V2 f2.l := by rw [← hVV, hf2]; exact HP3.out.dl.below hb4
            obtain ⟨w5, hw5⟩ : ∃ w5, w5 = (w4.alloc (.cells #[.int .i64 (f2.nodes : Int), .int .i64 (f2.last : Int), V2] 29)).alloc zP := ⟨_, rfl⟩
            have b5 : Below w4.heap.size w4 w5 := by rw [hw5]; exact ((Below.refl _ _).alloc (Nat.le_refl _) _).alloc (by simp) _
            have n5 : w5.heap[w4.heap.size]? = some (.cells #[.int .i64 (f2.nodes : Int), .int .i64 (f2.last : Int), V2] 29) := by rw [hw5]; exact (Below.block ((Below.refl _ _).alloc (Nat.le_refl _) zP) _ (by simp)).trans (box_at _ _)
            have p5 : w5.heap[w3.heap.size]? = _ := (b5.block _ (Nat.lt_of_lt_of_le (lt_of_block HPA.out) hb4.size)).trans ((hb4.block _ (lt_of_block HPA.out)).trans HPA.out)
            obtain ⟨⟨l0, l1, l2, l3⟩, -⟩ := four_cells p5
            have heq := eqP_same 0 0 0 ⟨#[]⟩ w5
            have hgd := guardP
            rw [hw5] at l0 l1 l2 l3 heq
            clear p5
            obtain ⟨S6, hS6⟩ : ∃ S6, S6 = Plus S1 (w3.alloc zP).heap.size w5.heap.size := ⟨_, rfl⟩
            have h35 := hb4.trans (b5.mono hb4.size)
            have HP5 : Hid (ST w b cq w5 f2 f vl S6) := Hid.mk (by rw [hf2]; rw [hS6]; exact HP3.out.plus h35)
            have hd5 : DL S6 w5 V2 f2.l := by rw [hS6]; exact (hd4.below b5).sub (fun k hk => .inl hk)
            obtain ⟨W6, hW6⟩ : ∃ W6, W6 = set3 w5 cq (.int .i64 (f2.nodes : Int)) (.int .i64 (f2.last : Int)) V2 := ⟨_, rfl⟩
            have HT : Hid (ST w b cq W6 f2 f2 V2 S6) := Hid.mk (by rw [hW6]; exact HP5.out.store hd5)
            have HW6 := Hid.mk hW6
            obtain ⟨⟨y0, y1, y2⟩, ⟨z0, z1, z2⟩⟩ := three_cells HP5.out.q
            obtain ⟨⟨u0, u1, u2⟩, -⟩ := three_cells n5
            rw [hw5] at y0 y1 y2 z0 z1 z2 u0 u1 u2
            have HW5 : Hid (W6 = set3 ((w4.alloc (.cells #[.int .i64 (f2.nodes : Int), .int .i64 (f2.last : Int), V2] 29)).alloc zP) cq (.int .i64 (f2.nodes : Int)) (.int .i64 (f2.last : Int)) V2) := Hid.mk (by rw [hW6, hw5])
            have hcne : ¬ cq = w4.heap.size := fun e => by have := lt_of_block HP3.out.q; have := hb4.size; omega
            have hcne2 : ¬ w4.heap.size = cq := fun e => hcne e.symm
            rw [hV2] at y0 y1 y2 z0 z1 z2 u0 u1 u2 l0 l1 l2 l3 heq HW5
            clear hf2 hVV hd4 hb4 b5 n5 hS6 h35 hd5 hW6 hw5 CD3 HP5
            go_wp2_with fail
            change Code.wp _ _ _ _ (set3 ((w4.alloc (.cells #[.int .i64 (f2.nodes : Int), .int .i64 (f2.last : Int), .slice va0 f2.l.length vc0] 29)).alloc zP) cq (.int .i64 (f2.nodes : Int)) (.int .i64 (f2.last : Int)) (.slice va0 f2.l.length vc0))
            rw [← HW5.out]
            clear hV2 hcne hcne2 u0 u1 u2 y0 y1 y2 z0 z1 z2 x0 x1 x2 x3
            obtain ⟨m2, hm2⟩ : ∃ m2, m2 = f2.l.length := ⟨_, rfl⟩
            have hm2b : m2 ≤ 100000 := by have := HT.out.fb.ok.len; have := HLA2.out; omega
            have HM2 := Hid.mk hm2
            have HT8 : Hid (ST w b cq W6.drew f2 f2 V2 S6) := Hid.mk (HT.out.below (below_drew (Below.refl _ _)))
            have HB8 : Hid (Below W6.drew.heap.size W6.drew W6.drew) := Hid.mk (Below.refl _ _)
            have CI : Hid (∀ X, Below W6.drew.heap.size W6.drew X → Calls Try.prog 21 #[.pointer (some ⟨b, 0, none⟩)] X fun e w' => ∃ v', e = .returned v' ∧ w'.ownsRow X.heap.size 3 1 v' m2 (idCs f2.l) ∧ Below X.heap.size X w') := Hid.mk (fun X hX => by rw [hm2]; exact ids_any (HT8.out.below hX).fb (by have := HLA2.out; omega))
            have CR : Hid (∀ X, Below W6.drew.heap.size W6.drew X → Calls Try.prog 20 #[.agg #[.int .i64 (f2.nodes : Int), .int .i64 (f2.last : Int), V2], .int .i64 (-1)] X fun e w' => ∃ v', e = .returned v' ∧ w'.ownsRow X.heap.size 3 1 v' m2 (idCs f2.l) ∧ Below X.heap.size X w') := Hid.mk (fun X hX => by
              have h := rIds_any (HT8.out.below hX).dl (-1) (by rw [← hm2]; exact hm2b)
              rw [selF_all _ (by decide), ← hm2] at h
              exact h)
            have KQ : Hid (∀ X, Below W6.drew.heap.size W6.drew X → X.cell? ⟨cq, 0, none⟩ = some (.int .i64 (f2.nodes : Int)) ∧ X.cell? ⟨cq, 1, none⟩ = some (.int .i64 (f2.last : Int)) ∧ X.cell? ⟨cq, 2, none⟩ = some V2) := Hid.mk (fun X hX => (three_cells (HT8.out.below hX).q).1)
            have K8 := Hid.mk (KQ.out W6.drew HB8.out)
            clear hm2
            go_region_held3 (fun y => y.cell? ⟨cq, 0, none⟩ = some (.int .i64 (f2.nodes : Int)) ∧ y.cell? ⟨cq, 1, none⟩ = some (.int .i64 (f2.last : Int)) ∧ y.cell? ⟨cq, 2, none⟩ = some V2)
              (first | with_reducible exact KSm.out | with_reducible exact KR1.out | with_reducible exact KI1.out | with_reducible exact K8.out)
              (first
                | (with_reducible refine (CI.out _ HB8.out).mono ?_; rintro e wI ⟨vI, rfl, hI, hbI⟩; obtain ⟨aI, cI, rfl⟩ := own_slice hI; have HBI : Hid (Below W6.drew.heap.size W6.drew wI) := Hid.mk hbI; have KI1 := Hid.mk (KQ.out wI HBI.out))
                | (with_reducible refine (CI.out _ HBR.out).mono ?_; rintro e wI ⟨vI, rfl, hI, hbI⟩; obtain ⟨aI, cI, rfl⟩ := own_slice hI; have HBI : Hid (Below W6.drew.heap.size W6.drew wI) := Hid.mk (HBR.out.trans (hbI.mono HBR.out.size)); have KI1 := Hid.mk (KQ.out wI HBI.out))
                | (with_reducible refine (CR.out _ HB8.out).mono ?_; rintro e wR ⟨vR, rfl, hR, hbR⟩; obtain ⟨aR, cR, rfl⟩ := own_slice hR; have HBR : Hid (Below W6.drew.heap.size W6.drew wR) := Hid.mk hbR; have KR1 := Hid.mk (KQ.out wR HBR.out))
                | (with_reducible refine (CR.out _ HBI.out).mono ?_; rintro e wR ⟨vR, rfl, hR, hbR⟩; obtain ⟨aR, cR, rfl⟩ := own_slice hR; have HBR : Hid (Below W6.drew.heap.size W6.drew wR) := Hid.mk (HBI.out.trans (hbR.mono HBI.out.size)); have KR1 := Hid.mk (KQ.out wR HBR.out))
                | (with_reducible refine (sameInts_any (owns_below hI hbR) hR HM2.out hm2b).mono ?_; rintro e wS ⟨rfl, hbS⟩; have HBS : Hid (Below W6.drew.heap.size W6.drew wS) := Hid.mk (HBR.out.trans (hbS.mono HBR.out.size)); have KSm := Hid.mk (KQ.out wS HBS.out))
                | (with_reducible refine (sameInts_any hI (owns_below hR hbI) HM2.out hm2b).mono ?_; rintro e wS ⟨rfl, hbS⟩; have HBS : Hid (Below W6.drew.heap.size W6.drew wS) := Hid.mk (HBI.out.trans (hbS.mono HBI.out.size)); have KSm := Hid.mk (KQ.out wS HBS.out)))
            all_goals (
              have HT9 := Hid.mk (HT8.out.below HBS.out)
              clear hI hbI hR hbR hbS KSm KI1 KR1
              go_wp2
              go_roundw
              case rel => exact ⟨i + 1, f2, V2, S6, by omega, by omega, by go_num, HLA2.out, HT9.out⟩
              case measure => simp [intOf]; omega)
        by_cases hk3 : kd = 3
        · subst hk3
          by_cases hg : ∃ p ∈ f.l, (p.id : Int) = oa
          · obtain ⟨p, hp, hpa⟩ := hg
            have CS := Hid.mk (copy_any HO.out.fb HO.out.low hp hl9)
            have CD : Hid (∀ X T, DL T X vl f.l → Calls Try.prog 15 #[encF f vl, .int .i64 (p.id : Int)] X fun e w' => ∃ v', e = .returned (.tuple #[encF (f.add p) v', .int .i64 ((f.last + 1 : Nat) : Int), .int .i64 0]) ∧ DL (fun k => X.heap.size ≤ k ∧ k < w'.heap.size) w' v' (f.add p).l ∧ Below X.heap.size X w') := Hid.mk (fun X T hX => rCopy_any hX HO.out.fb.ok.up hp (HO.out.fb.ok.pk p hp) hl9 HO.out.fb.ok.len)
            rw [hpa] at CS CD
            obtain ⟨f2, hf2⟩ : ∃ f2, f2 = f.add p := ⟨_, rfl⟩
            have HLA2 : Hid (f2.last ≤ i + 1) := Hid.mk (by rw [hf2]; have := HLA.out; simp only [Fd.add]; omega)
            rw [← hf2] at CS CD
            obtain ⟨z, hz⟩ : ∃ z : Int, z = ((f.last + 1 : Nat) : Int) := ⟨_, rfl⟩
            rw [← hz] at CS CD
            unfold encF at CD
            clear hp hpa hf2 hz
            go_wp2_with fail
            refine CS.out.mono ?_
            rintro e w3 ⟨rfl, hf3, hr3⟩
            have HP3 := Hid.mk (HO.out.prog hf3 hr3)
            have q3 := (hr3.block _ HSO.out).trans HQO.out
            obtain ⟨⟨x0, x1, x2, x3⟩, -⟩ := four_cells q3
            rw [HOE.out] at x0 x1 x2 x3
            obtain ⟨⟨y0, y1, y2⟩, -⟩ := three_cells HP3.out.q
            have CD3 := Hid.mk (CD.out w3 _ HP3.out.dl)
            clear hf3 hr3 q3 CS CD
            go_wp2_with fail
            refine CD3.out.mono ?_
            rintro e w4 ⟨v2, rfl, hd4, hb4⟩
            obtain ⟨va, vc, rfl⟩ := hd4.slice
            obtain ⟨V2, hV2⟩ : ∃ V2 : Value, V2 = .slice va f2.l.length vc := ⟨_, rfl⟩
            obtain ⟨w5, hw5⟩ : ∃ w5, w5 = w4.alloc (.cells #[.int .i64 (f2.nodes : Int), .int .i64 (f2.last : Int), V2] 29) := ⟨_, rfl⟩
            have b5 : Below w4.heap.size w4 w5 := by rw [hw5]; exact (Below.refl _ _).alloc (Nat.le_refl _) _
            have n5 : w5.heap[w4.heap.size]? = some (.cells #[.int .i64 (f2.nodes : Int), .int .i64 (f2.last : Int), V2] 29) := by rw [hw5]; exact box_at _ _
            obtain ⟨S6, hS6⟩ : ∃ S6, S6 = Plus S1 w3.heap.size w5.heap.size := ⟨_, rfl⟩
            have h35 := hb4.trans (b5.mono hb4.size)
            have HP5 : Hid (ST w b cq w5 f2 f vl S6) := Hid.mk (by rw [hS6]; exact HP3.out.plus h35)
            have hd5 : DL S6 w5 V2 f2.l := by rw [hV2, hS6]; exact (hd4.below b5).sub (fun k hk => .inr ⟨hk.1, Nat.lt_of_lt_of_le hk.2 b5.size⟩)
            obtain ⟨W6, hW6⟩ : ∃ W6, W6 = set3 w5 cq (.int .i64 (f2.nodes : Int)) (.int .i64 (f2.last : Int)) V2 := ⟨_, rfl⟩
            have HT : Hid (ST w b cq W6 f2 f2 V2 S6) := Hid.mk (by rw [hW6]; exact HP5.out.store hd5)
            have HW6 := Hid.mk hW6
            obtain ⟨⟨y0, y1, y2⟩, ⟨z0, z1, z2⟩⟩ := three_cells HP5.out.q
            obtain ⟨⟨u0, u1, u2⟩, -⟩ := three_cells n5
            rw [hw5] at y0 y1 y2 z0 z1 z2 u0 u1 u2
            have HW5 : Hid (W6 = set3 (w4.alloc (.cells #[.int .i64 (f2.nodes : Int), .int .i64 (f2.last : Int), V2] 29)) cq (.int .i64 (f2.nodes : Int)) (.int .i64 (f2.last : Int)) V2) := Hid.mk (by rw [hW6, hw5])
            have hcne : ¬ cq = w4.heap.size := fun e => by have := lt_of_block HP3.out.q; have := hb4.size; omega
            have hcne2 : ¬ w4.heap.size = cq := fun e => hcne e.symm
            rw [hV2] at y0 y1 y2 z0 z1 z2 u0 u1 u2 HW5
            clear hd4 hb4 b5 n5 hS6 h35 hd5 hW6 hw5 CD3 HP5
            go_wp2_with fail
            change Code.wp _ _ _ _ (set3 (w4.alloc (.cells #[.int .i64 (f2.nodes : Int), .int .i64 (f2.last : Int), .slice va f2.l.length vc] 29)) cq (.int .i64 (f2.nodes : Int)) (.int .i64 (f2.last : Int)) (.slice va f2.l.length vc))
            rw [← HW5.out]
            clear hV2 hcne hcne2 u0 u1 u2 y0 y1 y2 z0 z1 z2 x0 x1 x2 x3
            obtain ⟨m2, hm2⟩ : ∃ m2, m2 = f2.l.length := ⟨_, rfl⟩
            have hm2b : m2 ≤ 100000 := by have := HT.out.fb.ok.len; have := HLA2.out; omega
            have HM2 := Hid.mk hm2
            have HT8 : Hid (ST w b cq W6.drew f2 f2 V2 S6) := Hid.mk (HT.out.below (below_drew (Below.refl _ _)))
            have HB8 : Hid (Below W6.drew.heap.size W6.drew W6.drew) := Hid.mk (Below.refl _ _)
            have CI : Hid (∀ X, Below W6.drew.heap.size W6.drew X → Calls Try.prog 21 #[.pointer (some ⟨b, 0, none⟩)] X fun e w' => ∃ v', e = .returned v' ∧ w'.ownsRow X.heap.size 3 1 v' m2 (idCs f2.l) ∧ Below X.heap.size X w') := Hid.mk (fun X hX => by rw [hm2]; exact ids_any (HT8.out.below hX).fb (by have := HLA2.out; omega))
            have CR : Hid (∀ X, Below W6.drew.heap.size W6.drew X → Calls Try.prog 20 #[.agg #[.int .i64 (f2.nodes : Int), .int .i64 (f2.last : Int), V2], .int .i64 (-1)] X fun e w' => ∃ v', e = .returned v' ∧ w'.ownsRow X.heap.size 3 1 v' m2 (idCs f2.l) ∧ Below X.heap.size X w') := Hid.mk (fun X hX => by
              have h := rIds_any (HT8.out.below hX).dl (-1) (by rw [← hm2]; exact hm2b)
              rw [selF_all _ (by decide), ← hm2] at h
              exact h)
            have KQ : Hid (∀ X, Below W6.drew.heap.size W6.drew X → X.cell? ⟨cq, 0, none⟩ = some (.int .i64 (f2.nodes : Int)) ∧ X.cell? ⟨cq, 1, none⟩ = some (.int .i64 (f2.last : Int)) ∧ X.cell? ⟨cq, 2, none⟩ = some V2) := Hid.mk (fun X hX => (three_cells (HT8.out.below hX).q).1)
            have K8 := Hid.mk (KQ.out W6.drew HB8.out)
            clear hm2
            go_region_held3 (fun y => y.cell? ⟨cq, 0, none⟩ = some (.int .i64 (f2.nodes : Int)) ∧ y.cell? ⟨cq, 1, none⟩ = some (.int .i64 (f2.last : Int)) ∧ y.cell? ⟨cq, 2, none⟩ = some V2)
              (first | with_reducible exact KSm.out | with_reducible exact KR1.out | with_reducible exact KI1.out | with_reducible exact K8.out)
              (first
                | (with_reducible refine (CI.out _ HB8.out).mono ?_; rintro e wI ⟨vI, rfl, hI, hbI⟩; obtain ⟨aI, cI, rfl⟩ := own_slice hI; have HBI : Hid (Below W6.drew.heap.size W6.drew wI) := Hid.mk hbI; have KI1 := Hid.mk (KQ.out wI HBI.out))
                | (with_reducible refine (CI.out _ HBR.out).mono ?_; rintro e wI ⟨vI, rfl, hI, hbI⟩; obtain ⟨aI, cI, rfl⟩ := own_slice hI; have HBI : Hid (Below W6.drew.heap.size W6.drew wI) := Hid.mk (HBR.out.trans (hbI.mono HBR.out.size)); have KI1 := Hid.mk (KQ.out wI HBI.out))
                | (with_reducible refine (CR.out _ HB8.out).mono ?_; rintro e wR ⟨vR, rfl, hR, hbR⟩; obtain ⟨aR, cR, rfl⟩ := own_slice hR; have HBR : Hid (Below W6.drew.heap.size W6.drew wR) := Hid.mk hbR; have KR1 := Hid.mk (KQ.out wR HBR.out))
                | (with_reducible refine (CR.out _ HBI.out).mono ?_; rintro e wR ⟨vR, rfl, hR, hbR⟩; obtain ⟨aR, cR, rfl⟩ := own_slice hR; have HBR : Hid (Below W6.drew.heap.size W6.drew wR) := Hid.mk (HBI.out.trans (hbR.mono HBI.out.size)); have KR1 := Hid.mk (KQ.out wR HBR.out))
                | (with_reducible refine (sameInts_any (owns_below hI hbR) hR HM2.out hm2b).mono ?_; rintro e wS ⟨rfl, hbS⟩; have HBS : Hid (Below W6.drew.heap.size W6.drew wS) := Hid.mk (HBR.out.trans (hbS.mono HBR.out.size)); have KSm := Hid.mk (KQ.out wS HBS.out))
                | (with_reducible refine (sameInts_any hI (owns_below hR hbI) HM2.out hm2b).mono ?_; rintro e wS ⟨rfl, hbS⟩; have HBS : Hid (Below W6.drew.heap.size W6.drew wS) := Hid.mk (HBI.out.trans (hbS.mono HBI.out.size)); have KSm := Hid.mk (KQ.out wS HBS.out)))
            all_goals (
              have HT9 := Hid.mk (HT8.out.below HBS.out)
              clear hI hbI hR hbR hbS KSm KI1 KR1
              go_wp2
              go_roundw
              case rel => exact ⟨i + 1, f2, V2, S6, by omega, by omega, by go_num, HLA2.out, HT9.out⟩
              case measure => simp [intOf]; omega)
          · have hnl2 : ∀ q ∈ f.l, (q.id : Int) ≠ oa := fun q hq e => hg ⟨q, hq, e⟩
            have hfl : f.l.length ≤ 100000 := by have := HO.out.fb.ok.len; omega
            have CS := Hid.mk (copy_not HO.out.fb oa HOO.out.1 hg hl9)
            have CD : Hid (∀ X T, DL T X vl f.l → Calls Try.prog 15 #[encF f vl, .int .i64 oa] X fun e w' => e = .returned (.tuple #[encF f vl, .int .i64 0, .int .i64 3]) ∧ Below X.heap.size X w') := Hid.mk (fun X T hX => rCopy_not hX oa hnl2 hfl)
            unfold encF at CD
            clear hg hnl2 hfl
            go_wp2_with fail
            refine CS.out.mono ?_
            rintro e w3 ⟨rfl, hb3⟩
            have hf3 : FB S1 w3 b f := HO.out.fb.below hb3
            have hr3 : Fr S1 WO w3 := fr_below HO.out.low hb3
            clear hb3
            have HP3 := Hid.mk (HO.out.prog hf3 hr3)
            have q3 := (hr3.block _ HSO.out).trans HQO.out
            obtain ⟨⟨x0, x1, x2, x3⟩, -⟩ := four_cells q3
            rw [HOE.out] at x0 x1 x2 x3
            obtain ⟨⟨y0, y1, y2⟩, -⟩ := three_cells HP3.out.q
            have CD3 := Hid.mk (CD.out w3 _ HP3.out.dl)
            clear hf3 hr3 q3 CS CD
            go_wp2_with fail
            refine CD3.out.mono ?_
            rintro e w4 ⟨rfl, hb4⟩
            obtain ⟨V2, hV2⟩ : ∃ V2 : Value, V2 = .slice va0 f.l.length vc0 := ⟨_, rfl⟩
            have hVV : vl = V2 := by rw [HVL.out, hV2]
            rw [hVV]
            obtain ⟨f2, hf2⟩ : ∃ f2, f2 = f := ⟨_, rfl⟩
            rw [← hf2]
            rw [← hf2] at hV2
            have HLA2 : Hid (f2.last ≤ i + 1) := Hid.mk (by rw [hf2]; have := HLA.out; omega)
            have hd4 : DL S1 w4 V2 f2.l := by rw [← hVV, hf2]; exact HP3.out.dl.below hb4
            obtain ⟨w5, hw5⟩ : ∃ w5, w5 = w4.alloc (.cells #[.int .i64 (f2.nodes : Int), .int .i64 (f2.last : Int), V2] 29) := ⟨_, rfl⟩
            have b5 : Below w4.heap.size w4 w5 := by rw [hw5]; exact (Below.refl _ _).alloc (Nat.le_refl _) _
            have n5 : w5.heap[w4.heap.size]? = some (.cells #[.int .i64 (f2.nodes : Int), .int .i64 (f2.last : Int), V2] 29) := by rw [hw5]; exact box_at _ _
            obtain ⟨S6, hS6⟩ : ∃ S6, S6 = Plus S1 w3.heap.size w5.heap.size := ⟨_, rfl⟩
            have h35 := hb4.trans (b5.mono hb4.size)
            have HP5 : Hid (ST w b cq w5 f2 f vl S6) := Hid.mk (by rw [hf2]; rw [hS6]; exact HP3.out.plus h35)
            have hd5 : DL S6 w5 V2 f2.l := by rw [hS6]; exact (hd4.below b5).sub (fun k hk => .inl hk)
            obtain ⟨W6, hW6⟩ : ∃ W6, W6 = set3 w5 cq (.int .i64 (f2.nodes : Int)) (.int .i64 (f2.last : Int)) V2 := ⟨_, rfl⟩
            have HT : Hid (ST w b cq W6 f2 f2 V2 S6) := Hid.mk (by rw [hW6]; exact HP5.out.store hd5)
            have HW6 := Hid.mk hW6
            obtain ⟨⟨y0, y1, y2⟩, ⟨z0, z1, z2⟩⟩ := three_cells HP5.out.q
            obtain ⟨⟨u0, u1, u2⟩, -⟩ := three_cells n5
            rw [hw5] at y0 y1 y2 z0 z1 z2 u0 u1 u2
            have HW5 : Hid (W6 = set3 (w4.alloc (.cells #[.int .i64 (f2.nodes : Int), .int .i64 (f2.last : Int), V2] 29)) cq (.int .i64 (f2.nodes : Int)) (.int .i64 (f2.last : Int)) V2) := Hid.mk (by rw [hW6, hw5])
            have hcne : ¬ cq = w4.heap.size := fun e => by have := lt_of_block HP3.out.q; have := hb4.size; omega
            have hcne2 : ¬ w4.heap.size = cq := fun e => hcne e.symm
            rw [hV2] at y0 y1 y2 z0 z1 z2 u0 u1 u2 HW5
            clear hf2 hVV hd4 hb4 b5 n5 hS6 h35 hd5 hW6 hw5 CD3 HP5
            go_wp2_with fail
            change Code.wp _ _ _ _ (set3 (w4.alloc (.cells #[.int .i64 (f2.nodes : Int), .int .i64 (f2.last : Int), .slice va0 f2.l.length vc0] 29)) cq (.int .i64 (f2.nodes : Int)) (.int .i64 (f2.last : Int)) (.slice va0 f2.l.length vc0))
            rw [← HW5.out]
            clear hV2 hcne hcne2 u0 u1 u2 y0 y1 y2 z0 z1 z2 x0 x1 x2 x3
            obtain ⟨m2, hm2⟩ : ∃ m2, m2 = f2.l.length := ⟨_, rfl⟩
            have hm2b : m2 ≤ 100000 := by have := HT.out.fb.ok.len; have := HLA2.out; omega
            have HM2 := Hid.mk hm2
            have HT8 : Hid (ST w b cq W6.drew f2 f2 V2 S6) := Hid.mk (HT.out.below (below_drew (Below.refl _ _)))
            have HB8 : Hid (Below W6.drew.heap.size W6.drew W6.drew) := Hid.mk (Below.refl _ _)
            have CI : Hid (∀ X, Below W6.drew.heap.size W6.drew X → Calls Try.prog 21 #[.pointer (some ⟨b, 0, none⟩)] X fun e w' => ∃ v', e = .returned v' ∧ w'.ownsRow X.heap.size 3 1 v' m2 (idCs f2.l) ∧ Below X.heap.size X w') := Hid.mk (fun X hX => by rw [hm2]; exact ids_any (HT8.out.below hX).fb (by have := HLA2.out; omega))
            have CR : Hid (∀ X, Below W6.drew.heap.size W6.drew X → Calls Try.prog 20 #[.agg #[.int .i64 (f2.nodes : Int), .int .i64 (f2.last : Int), V2], .int .i64 (-1)] X fun e w' => ∃ v', e = .returned v' ∧ w'.ownsRow X.heap.size 3 1 v' m2 (idCs f2.l) ∧ Below X.heap.size X w') := Hid.mk (fun X hX => by
              have h := rIds_any (HT8.out.below hX).dl (-1) (by rw [← hm2]; exact hm2b)
              rw [selF_all _ (by decide), ← hm2] at h
              exact h)
            have KQ : Hid (∀ X, Below W6.drew.heap.size W6.drew X → X.cell? ⟨cq, 0, none⟩ = some (.int .i64 (f2.nodes : Int)) ∧ X.cell? ⟨cq, 1, none⟩ = some (.int .i64 (f2.last : Int)) ∧ X.cell? ⟨cq, 2, none⟩ = some V2) := Hid.mk (fun X hX => (three_cells (HT8.out.below hX).q).1)
            have K8 := Hid.mk (KQ.out W6.drew HB8.out)
            clear hm2
            go_region_held3 (fun y => y.cell? ⟨cq, 0, none⟩ = some (.int .i64 (f2.nodes : Int)) ∧ y.cell? ⟨cq, 1, none⟩ = some (.int .i64 (f2.last : Int)) ∧ y.cell? ⟨cq, 2, none⟩ = some V2)
              (first | with_reducible exact KSm.out | with_reducible exact KR1.out | with_reducible exact KI1.out | with_reducible exact K8.out)
              (first
                | (with_reducible refine (CI.out _ HB8.out).mono ?_; rintro e wI ⟨vI, rfl, hI, hbI⟩; obtain ⟨aI, cI, rfl⟩ := own_slice hI; have HBI : Hid (Below W6.drew.heap.size W6.drew wI) := Hid.mk hbI; have KI1 := Hid.mk (KQ.out wI HBI.out))
                | (with_reducible refine (CI.out _ HBR.out).mono ?_; rintro e wI ⟨vI, rfl, hI, hbI⟩; obtain ⟨aI, cI, rfl⟩ := own_slice hI; have HBI : Hid (Below W6.drew.heap.size W6.drew wI) := Hid.mk (HBR.out.trans (hbI.mono HBR.out.size)); have KI1 := Hid.mk (KQ.out wI HBI.out))
                | (with_reducible refine (CR.out _ HB8.out).mono ?_; rintro e wR ⟨vR, rfl, hR, hbR⟩; obtain ⟨aR, cR, rfl⟩ := own_slice hR; have HBR : Hid (Below W6.drew.heap.size W6.drew wR) := Hid.mk hbR; have KR1 := Hid.mk (KQ.out wR HBR.out))
                | (with_reducible refine (CR.out _ HBI.out).mono ?_; rintro e wR ⟨vR, rfl, hR, hbR⟩; obtain ⟨aR, cR, rfl⟩ := own_slice hR; have HBR : Hid (Below W6.drew.heap.size W6.drew wR) := Hid.mk (HBI.out.trans (hbR.mono HBI.out.size)); have KR1 := Hid.mk (KQ.out wR HBR.out))
                | (with_reducible refine (sameInts_any (owns_below hI hbR) hR HM2.out hm2b).mono ?_; rintro e wS ⟨rfl, hbS⟩; have HBS : Hid (Below W6.drew.heap.size W6.drew wS) := Hid.mk (HBR.out.trans (hbS.mono HBR.out.size)); have KSm := Hid.mk (KQ.out wS HBS.out))
                | (with_reducible refine (sameInts_any hI (owns_below hR hbI) HM2.out hm2b).mono ?_; rintro e wS ⟨rfl, hbS⟩; have HBS : Hid (Below W6.drew.heap.size W6.drew wS) := Hid.mk (HBI.out.trans (hbS.mono HBI.out.size)); have KSm := Hid.mk (KQ.out wS HBS.out)))
            all_goals (
              have HT9 := Hid.mk (HT8.out.below HBS.out)
              clear hI hbI hR hbR hbS KSm KI1 KR1
              go_wp2
              go_roundw
              case rel => exact ⟨i + 1, f2, V2, S6, by omega, by omega, by go_num, HLA2.out, HT9.out⟩
              case measure => simp [intOf]; omega)
        by_cases hk4 : kd = 4
        · subst hk4
          have HLA2 : Hid (f.last ≤ i + 1) := Hid.mk (by have := HLA.out; omega)
          have HD8 : Hid (ST w b cq WO.drew f f vl S1) := Hid.mk (HO.out.below (below_drew (Below.refl _ _)))
          have HD0 : Hid (Below WO.drew.heap.size WO.drew WO.drew) := Hid.mk (Below.refl _ _)
          have HQD : Hid (WO.drew.heap[oo]? = some (.cells #[.int .i64 4, .int .i64 oa, .int .i64 ob, .string s] 34)) := Hid.mk HQO.out
          have KO : Hid (∀ X, Below WO.drew.heap.size WO.drew X → X.cell? ⟨wx.heap.size, 1, none⟩ = some (.int .i64 oa) ∧ X.cell? ⟨cq, 0, none⟩ = some (.int .i64 (f.nodes : Int)) ∧ X.cell? ⟨cq, 1, none⟩ = some (.int .i64 (f.last : Int)) ∧ X.cell? ⟨cq, 2, none⟩ = some vl) := Hid.mk (fun X hX => ⟨by rw [← HOE.out]; exact (four_cells ((hX.block _ (lt_of_block HQD.out)).trans HQD.out)).1.2.1, (three_cells (HD8.out.below hX).q).1⟩)
          have KD0 := Hid.mk (KO.out WO.drew HD0.out)
          obtain ⟨pv, hpv⟩ : ∃ pv, pv = pickF f.l oa := ⟨_, rfl⟩
          have CI4 : Hid (∀ X, Below WO.drew.heap.size WO.drew X → Calls Try.prog 16 #[.pointer (some ⟨b, 0, none⟩), .int .i64 oa] X fun e w' => e = .returned (.int .i64 pv) ∧ Below X.heap.size X w') := Hid.mk (fun X hX => by rw [hpv]; exact pick_any (HD8.out.below hX).fb oa HOO.out.1 (by omega))
          have CR4 : Hid (∀ X, Below WO.drew.heap.size WO.drew X → Calls Try.prog 17 #[.agg #[.int .i64 (f.nodes : Int), .int .i64 (f.last : Int), vl], .int .i64 oa] X fun e w' => e = .returned (.int .i64 pv) ∧ Below X.heap.size X w') := Hid.mk (fun X hX => by rw [hpv]; exact rPick_any (HD8.out.below hX).dl oa HOO.out.1 (by have := HO.out.fb.ok.len; omega))
          clear hpv
          go_wp2_with fail
          clear x0 x1 x2 x3
          go_region_held3 (fun y => y.cell? ⟨wx.heap.size, 1, none⟩ = some (.int .i64 oa) ∧ y.cell? ⟨cq, 0, none⟩ = some (.int .i64 (f.nodes : Int)) ∧ y.cell? ⟨cq, 1, none⟩ = some (.int .i64 (f.last : Int)) ∧ y.cell? ⟨cq, 2, none⟩ = some vl)
            (first | with_reducible exact K6.out | with_reducible exact KA1.out | with_reducible exact KD0.out)
            (first
              | (with_reducible refine (CI4.out _ HD0.out).mono ?_; rintro e wA ⟨rfl, hbA⟩; have HBA : Hid (Below WO.drew.heap.size WO.drew wA) := Hid.mk hbA; have KA1 := Hid.mk (KO.out wA HBA.out))
              | (with_reducible refine (CR4.out _ HD0.out).mono ?_; rintro e wA ⟨rfl, hbA⟩; have HBA : Hid (Below WO.drew.heap.size WO.drew wA) := Hid.mk hbA; have KA1 := Hid.mk (KO.out wA HBA.out))
              | (with_reducible refine (CI4.out _ HBA.out).mono ?_; rintro e W6 ⟨rfl, hb6⟩; have HB6 : Hid (Below WO.drew.heap.size WO.drew W6) := Hid.mk (HBA.out.trans (hb6.mono HBA.out.size)); have K6 := Hid.mk (KO.out W6 HB6.out))
              | (with_reducible refine (CR4.out _ HBA.out).mono ?_; rintro e W6 ⟨rfl, hb6⟩; have HB6 : Hid (Below WO.drew.heap.size WO.drew W6) := Hid.mk (HBA.out.trans (hb6.mono HBA.out.size)); have K6 := Hid.mk (KO.out W6 HB6.out)))
          all_goals (
            have HT : Hid (ST w b cq W6 f f vl S1) := Hid.mk (HD8.out.below HB6.out)
            clear hbA hb6 KA1 K6 KD0
            go_wp2_with fail
            obtain ⟨m2, hm2⟩ : ∃ m2, m2 = f.l.length := ⟨_, rfl⟩
            have hm2b : m2 ≤ 100000 := by have := HT.out.fb.ok.len; have := HLA2.out; omega
            have HM2 := Hid.mk hm2
            have HT8 : Hid (ST w b cq W6.drew f f vl S1) := Hid.mk (HT.out.below (below_drew (Below.refl _ _)))
            have HB8 : Hid (Below W6.drew.heap.size W6.drew W6.drew) := Hid.mk (Below.refl _ _)
            have CI : Hid (∀ X, Below W6.drew.heap.size W6.drew X → Calls Try.prog 21 #[.pointer (some ⟨b, 0, none⟩)] X fun e w' => ∃ v', e = .returned v' ∧ w'.ownsRow X.heap.size 3 1 v' m2 (idCs f.l) ∧ Below X.heap.size X w') := Hid.mk (fun X hX => by rw [hm2]; exact ids_any (HT8.out.below hX).fb (by have := HLA2.out; omega))
            have CR : Hid (∀ X, Below W6.drew.heap.size W6.drew X → Calls Try.prog 20 #[.agg #[.int .i64 (f.nodes : Int), .int .i64 (f.last : Int), vl], .int .i64 (-1)] X fun e w' => ∃ v', e = .returned v' ∧ w'.ownsRow X.heap.size 3 1 v' m2 (idCs f.l) ∧ Below X.heap.size X w') := Hid.mk (fun X hX => by
              have h := rIds_any (HT8.out.below hX).dl (-1) (by rw [← hm2]; exact hm2b)
              rw [selF_all _ (by decide), ← hm2] at h
              exact h)
            have KQ : Hid (∀ X, Below W6.drew.heap.size W6.drew X → X.cell? ⟨cq, 0, none⟩ = some (.int .i64 (f.nodes : Int)) ∧ X.cell? ⟨cq, 1, none⟩ = some (.int .i64 (f.last : Int)) ∧ X.cell? ⟨cq, 2, none⟩ = some vl) := Hid.mk (fun X hX => (three_cells (HT8.out.below hX).q).1)
            have K8 := Hid.mk (KQ.out W6.drew HB8.out)
            clear hm2
            go_region_held3 (fun y => y.cell? ⟨cq, 0, none⟩ = some (.int .i64 (f.nodes : Int)) ∧ y.cell? ⟨cq, 1, none⟩ = some (.int .i64 (f.last : Int)) ∧ y.cell? ⟨cq, 2, none⟩ = some vl)
              (first | with_reducible exact KSm.out | with_reducible exact KR1.out | with_reducible exact KI1.out | with_reducible exact K8.out)
              (first
                | (with_reducible refine (CI.out _ HB8.out).mono ?_; rintro e wI ⟨vI, rfl, hI, hbI⟩; obtain ⟨aI, cI, rfl⟩ := own_slice hI; have HBI : Hid (Below W6.drew.heap.size W6.drew wI) := Hid.mk hbI; have KI1 := Hid.mk (KQ.out wI HBI.out))
                | (with_reducible refine (CI.out _ HBR.out).mono ?_; rintro e wI ⟨vI, rfl, hI, hbI⟩; obtain ⟨aI, cI, rfl⟩ := own_slice hI; have HBI : Hid (Below W6.drew.heap.size W6.drew wI) := Hid.mk (HBR.out.trans (hbI.mono HBR.out.size)); have KI1 := Hid.mk (KQ.out wI HBI.out))
                | (with_reducible refine (CR.out _ HB8.out).mono ?_; rintro e wR ⟨vR, rfl, hR, hbR⟩; obtain ⟨aR, cR, rfl⟩ := own_slice hR; have HBR : Hid (Below W6.drew.heap.size W6.drew wR) := Hid.mk hbR; have KR1 := Hid.mk (KQ.out wR HBR.out))
                | (with_reducible refine (CR.out _ HBI.out).mono ?_; rintro e wR ⟨vR, rfl, hR, hbR⟩; obtain ⟨aR, cR, rfl⟩ := own_slice hR; have HBR : Hid (Below W6.drew.heap.size W6.drew wR) := Hid.mk (HBI.out.trans (hbR.mono HBI.out.size)); have KR1 := Hid.mk (KQ.out wR HBR.out))
                | (with_reducible refine (sameInts_any (owns_below hI hbR) hR HM2.out hm2b).mono ?_; rintro e wS ⟨rfl, hbS⟩; have HBS : Hid (Below W6.drew.heap.size W6.drew wS) := Hid.mk (HBR.out.trans (hbS.mono HBR.out.size)); have KSm := Hid.mk (KQ.out wS HBS.out))
                | (with_reducible refine (sameInts_any hI (owns_below hR hbI) HM2.out hm2b).mono ?_; rintro e wS ⟨rfl, hbS⟩; have HBS : Hid (Below W6.drew.heap.size W6.drew wS) := Hid.mk (HBI.out.trans (hbS.mono HBI.out.size)); have KSm := Hid.mk (KQ.out wS HBS.out)))
            all_goals (
              have HT9 := Hid.mk (HT8.out.below HBS.out)
              clear hI hbI hR hbR hbS KSm KI1 KR1
              go_wp2
              go_roundw
              case rel => exact ⟨i + 1, f, vl, S1, by omega, by omega, by go_num, HLA2.out, HT9.out⟩
              case measure => simp [intOf]; omega))
        have e1 : (kd == 1) = false := by simpa using hk1
        have e2 : (kd == 2) = false := by simpa using hk2
        have e3 : (kd == 3) = false := by simpa using hk3
        have e4 : (kd == 4) = false := by simpa using hk4
        have HLA2 : Hid (f.last ≤ i + 1) := Hid.mk (by have := HLA.out; omega)
        have HD8 : Hid (ST w b cq WO.drew f f vl S1) := Hid.mk (HO.out.below (below_drew (Below.refl _ _)))
        have HD0 : Hid (Below WO.drew.heap.size WO.drew WO.drew) := Hid.mk (Below.refl _ _)
        have HQD : Hid (WO.drew.heap[oo]? = some (.cells #[.int .i64 kd, .int .i64 oa, .int .i64 ob, .string s] 34)) := Hid.mk HQO.out
        have KO : Hid (∀ X, Below WO.drew.heap.size WO.drew X → X.cell? ⟨wx.heap.size, 1, none⟩ = some (.int .i64 oa) ∧ X.cell? ⟨cq, 0, none⟩ = some (.int .i64 (f.nodes : Int)) ∧ X.cell? ⟨cq, 1, none⟩ = some (.int .i64 (f.last : Int)) ∧ X.cell? ⟨cq, 2, none⟩ = some vl) := Hid.mk (fun X hX => ⟨by rw [← HOE.out]; exact (four_cells ((hX.block _ (lt_of_block HQD.out)).trans HQD.out)).1.2.1, (three_cells (HD8.out.below hX).q).1⟩)
        have KD0 := Hid.mk (KO.out WO.drew HD0.out)
        by_cases ha : 0 ≤ oa
        · have hd : decide ((0 : Int) ≤ oa) = true := decide_eq_true ha
          obtain ⟨m3, hm3⟩ : ∃ m3, m3 = (toL f.l oa).length := ⟨_, rfl⟩
          have hm3b : m3 ≤ 100000 := by have := toL_len f.l oa; have := HO.out.fb.ok.len; omega
          have HM3 := Hid.mk hm3
          have CI4 : Hid (∀ X, Below WO.drew.heap.size WO.drew X → Calls Try.prog 19 #[.pointer (some ⟨b, 0, none⟩), .int .i64 oa] X fun e w' => ∃ v', e = .returned v' ∧ w'.ownsRow X.heap.size 3 1 v' m3 (idCs (toL f.l oa)) ∧ Below X.heap.size X w') := Hid.mk (fun X hX => by rw [hm3]; exact to_any (HD8.out.below hX).fb oa (by omega))
          have CR4 : Hid (∀ X, Below WO.drew.heap.size WO.drew X → Calls Try.prog 20 #[.agg #[.int .i64 (f.nodes : Int), .int .i64 (f.last : Int), vl], .int .i64 oa] X fun e w' => ∃ v', e = .returned v' ∧ w'.ownsRow X.heap.size 3 1 v' m3 (idCs (toL f.l oa)) ∧ Below X.heap.size X w') := Hid.mk (fun X hX => by
            have h := rIds_any (HD8.out.below hX).dl oa (by have := HO.out.fb.ok.len; omega)
            rw [selF_to _ ha, ← hm3] at h
            exact h)
          clear hm3
          go_wp2_with fail
          clear x0 x1 x2 x3
          go_region_held3 (fun y => y.cell? ⟨wx.heap.size, 1, none⟩ = some (.int .i64 oa) ∧ y.cell? ⟨cq, 0, none⟩ = some (.int .i64 (f.nodes : Int)) ∧ y.cell? ⟨cq, 1, none⟩ = some (.int .i64 (f.last : Int)) ∧ y.cell? ⟨cq, 2, none⟩ = some vl)
            (first | with_reducible exact K6.out | with_reducible exact KA2.out | with_reducible exact KA1.out | with_reducible exact KD0.out)
            (first
              | (with_reducible refine (CI4.out _ HD0.out).mono ?_; rintro e wA ⟨vA, rfl, hA, hbA⟩; obtain ⟨aA, cA, rfl⟩ := own_slice hA; have HBA : Hid (Below WO.drew.heap.size WO.drew wA) := Hid.mk hbA; have KA1 := Hid.mk (KO.out wA HBA.out))
              | (with_reducible refine (CR4.out _ HD0.out).mono ?_; rintro e wA ⟨vA, rfl, hA, hbA⟩; obtain ⟨aA, cA, rfl⟩ := own_slice hA; have HBA : Hid (Below WO.drew.heap.size WO.drew wA) := Hid.mk hbA; have KA1 := Hid.mk (KO.out wA HBA.out))
              | (with_reducible refine (CI4.out _ HBA.out).mono ?_; rintro e wB ⟨vB, rfl, hBB, hbB⟩; obtain ⟨aB, cB, rfl⟩ := own_slice hBB; have HBB : Hid (Below WO.drew.heap.size WO.drew wB) := Hid.mk (HBA.out.trans (hbB.mono HBA.out.size)); have KA2 := Hid.mk (KO.out wB HBB.out))
              | (with_reducible refine (CR4.out _ HBA.out).mono ?_; rintro e wB ⟨vB, rfl, hBB, hbB⟩; obtain ⟨aB, cB, rfl⟩ := own_slice hBB; have HBB : Hid (Below WO.drew.heap.size WO.drew wB) := Hid.mk (HBA.out.trans (hbB.mono HBA.out.size)); have KA2 := Hid.mk (KO.out wB HBB.out))
              | (with_reducible refine (sameInts_any (owns_below hA hbB) hBB HM3.out hm3b).mono ?_; rintro e W6 ⟨rfl, hb6⟩; have HB6 : Hid (Below WO.drew.heap.size WO.drew W6) := Hid.mk (HBB.out.trans (hb6.mono HBB.out.size)); have K6 := Hid.mk (KO.out W6 HB6.out))
              | (with_reducible refine (sameInts_any hBB (owns_below hA hbB) HM3.out hm3b).mono ?_; rintro e W6 ⟨rfl, hb6⟩; have HB6 : Hid (Below WO.drew.heap.size WO.drew W6) := Hid.mk (HBB.out.trans (hb6.mono HBB.out.size)); have K6 := Hid.mk (KO.out W6 HB6.out)))
          all_goals (
            have HT : Hid (ST w b cq W6 f f vl S1) := Hid.mk (HD8.out.below HB6.out)
            clear hA hbA hBB hbB hb6 KA1 KA2 K6 KD0
            go_wp2_with fail
            obtain ⟨m2, hm2⟩ : ∃ m2, m2 = f.l.length := ⟨_, rfl⟩
            have hm2b : m2 ≤ 100000 := by have := HT.out.fb.ok.len; have := HLA2.out; omega
            have HM2 := Hid.mk hm2
            have HT8 : Hid (ST w b cq W6.drew f f vl S1) := Hid.mk (HT.out.below (below_drew (Below.refl _ _)))
            have HB8 : Hid (Below W6.drew.heap.size W6.drew W6.drew) := Hid.mk (Below.refl _ _)
            have CI : Hid (∀ X, Below W6.drew.heap.size W6.drew X → Calls Try.prog 21 #[.pointer (some ⟨b, 0, none⟩)] X fun e w' => ∃ v', e = .returned v' ∧ w'.ownsRow X.heap.size 3 1 v' m2 (idCs f.l) ∧ Below X.heap.size X w') := Hid.mk (fun X hX => by rw [hm2]; exact ids_any (HT8.out.below hX).fb (by have := HLA2.out; omega))
            have CR : Hid (∀ X, Below W6.drew.heap.size W6.drew X → Calls Try.prog 20 #[.agg #[.int .i64 (f.nodes : Int), .int .i64 (f.last : Int), vl], .int .i64 (-1)] X fun e w' => ∃ v', e = .returned v' ∧ w'.ownsRow X.heap.size 3 1 v' m2 (idCs f.l) ∧ Below X.heap.size X w') := Hid.mk (fun X hX => by
              have h := rIds_any (HT8.out.below hX).dl (-1) (by rw [← hm2]; exact hm2b)
              rw [selF_all _ (by decide), ← hm2] at h
              exact h)
            have KQ : Hid (∀ X, Below W6.drew.heap.size W6.drew X → X.cell? ⟨cq, 0, none⟩ = some (.int .i64 (f.nodes : Int)) ∧ X.cell? ⟨cq, 1, none⟩ = some (.int .i64 (f.last : Int)) ∧ X.cell? ⟨cq, 2, none⟩ = some vl) := Hid.mk (fun X hX => (three_cells (HT8.out.below hX).q).1)
            have K8 := Hid.mk (KQ.out W6.drew HB8.out)
            clear hm2
            go_region_held3 (fun y => y.cell? ⟨cq, 0, none⟩ = some (.int .i64 (f.nodes : Int)) ∧ y.cell? ⟨cq, 1, none⟩ = some (.int .i64 (f.last : Int)) ∧ y.cell? ⟨cq, 2, none⟩ = some vl)
              (first | with_reducible exact KSm.out | with_reducible exact KR1.out | with_reducible exact KI1.out | with_reducible exact K8.out)
              (first
                | (with_reducible refine (CI.out _ HB8.out).mono ?_; rintro e wI ⟨vI, rfl, hI, hbI⟩; obtain ⟨aI, cI, rfl⟩ := own_slice hI; have HBI : Hid (Below W6.drew.heap.size W6.drew wI) := Hid.mk hbI; have KI1 := Hid.mk (KQ.out wI HBI.out))
                | (with_reducible refine (CI.out _ HBR.out).mono ?_; rintro e wI ⟨vI, rfl, hI, hbI⟩; obtain ⟨aI, cI, rfl⟩ := own_slice hI; have HBI : Hid (Below W6.drew.heap.size W6.drew wI) := Hid.mk (HBR.out.trans (hbI.mono HBR.out.size)); have KI1 := Hid.mk (KQ.out wI HBI.out))
                | (with_reducible refine (CR.out _ HB8.out).mono ?_; rintro e wR ⟨vR, rfl, hR, hbR⟩; obtain ⟨aR, cR, rfl⟩ := own_slice hR; have HBR : Hid (Below W6.drew.heap.size W6.drew wR) := Hid.mk hbR; have KR1 := Hid.mk (KQ.out wR HBR.out))
                | (with_reducible refine (CR.out _ HBI.out).mono ?_; rintro e wR ⟨vR, rfl, hR, hbR⟩; obtain ⟨aR, cR, rfl⟩ := own_slice hR; have HBR : Hid (Below W6.drew.heap.size W6.drew wR) := Hid.mk (HBI.out.trans (hbR.mono HBI.out.size)); have KR1 := Hid.mk (KQ.out wR HBR.out))
                | (with_reducible refine (sameInts_any (owns_below hI hbR) hR HM2.out hm2b).mono ?_; rintro e wS ⟨rfl, hbS⟩; have HBS : Hid (Below W6.drew.heap.size W6.drew wS) := Hid.mk (HBR.out.trans (hbS.mono HBR.out.size)); have KSm := Hid.mk (KQ.out wS HBS.out))
                | (with_reducible refine (sameInts_any hI (owns_below hR hbI) HM2.out hm2b).mono ?_; rintro e wS ⟨rfl, hbS⟩; have HBS : Hid (Below W6.drew.heap.size W6.drew wS) := Hid.mk (HBI.out.trans (hbS.mono HBI.out.size)); have KSm := Hid.mk (KQ.out wS HBS.out)))
            all_goals (
              have HT9 := Hid.mk (HT8.out.below HBS.out)
              clear hI hbI hR hbR hbS KSm KI1 KR1
              go_wp2
              go_roundw
              case rel => exact ⟨i + 1, f, vl, S1, by omega, by omega, by go_num, HLA2.out, HT9.out⟩
              case measure => simp [intOf]; omega))
        · have ha : oa < 0 := by omega
          have hd : decide ((0 : Int) ≤ oa) = false := decide_eq_false (by omega)
          go_wp2_with fail
          go_quiet (fail)
          have HB6 : Hid (Below WO.drew.heap.size WO.drew (WO.drewN nq)) := Hid.mk ⟨rfl, rfl, rfl, Nat.le_refl _, fun _ _ => rfl⟩
          obtain ⟨W6, hW6⟩ : ∃ W6, W6 = WO.drewN nq := ⟨_, rfl⟩
          rw [← hW6] at HB6 ⊢
          clear hW6 x0 x1 x2 x3
          have HT : Hid (ST w b cq W6 f f vl S1) := Hid.mk (HD8.out.below HB6.out)
          go_wp2_with fail
          obtain ⟨m2, hm2⟩ : ∃ m2, m2 = f.l.length := ⟨_, rfl⟩
          have hm2b : m2 ≤ 100000 := by have := HT.out.fb.ok.len; have := HLA2.out; omega
          have HM2 := Hid.mk hm2
          have HT8 : Hid (ST w b cq W6.drew f f vl S1) := Hid.mk (HT.out.below (below_drew (Below.refl _ _)))
          have HB8 : Hid (Below W6.drew.heap.size W6.drew W6.drew) := Hid.mk (Below.refl _ _)
          have CI : Hid (∀ X, Below W6.drew.heap.size W6.drew X → Calls Try.prog 21 #[.pointer (some ⟨b, 0, none⟩)] X fun e w' => ∃ v', e = .returned v' ∧ w'.ownsRow X.heap.size 3 1 v' m2 (idCs f.l) ∧ Below X.heap.size X w') := Hid.mk (fun X hX => by rw [hm2]; exact ids_any (HT8.out.below hX).fb (by have := HLA2.out; omega))
          have CR : Hid (∀ X, Below W6.drew.heap.size W6.drew X → Calls Try.prog 20 #[.agg #[.int .i64 (f.nodes : Int), .int .i64 (f.last : Int), vl], .int .i64 (-1)] X fun e w' => ∃ v', e = .returned v' ∧ w'.ownsRow X.heap.size 3 1 v' m2 (idCs f.l) ∧ Below X.heap.size X w') := Hid.mk (fun X hX => by
            have h := rIds_any (HT8.out.below hX).dl (-1) (by rw [← hm2]; exact hm2b)
            rw [selF_all _ (by decide), ← hm2] at h
            exact h)
          have KQ : Hid (∀ X, Below W6.drew.heap.size W6.drew X → X.cell? ⟨cq, 0, none⟩ = some (.int .i64 (f.nodes : Int)) ∧ X.cell? ⟨cq, 1, none⟩ = some (.int .i64 (f.last : Int)) ∧ X.cell? ⟨cq, 2, none⟩ = some vl) := Hid.mk (fun X hX => (three_cells (HT8.out.below hX).q).1)
          have K8 := Hid.mk (KQ.out W6.drew HB8.out)
          clear hm2
          go_region_held3 (fun y => y.cell? ⟨cq, 0, none⟩ = some (.int .i64 (f.nodes : Int)) ∧ y.cell? ⟨cq, 1, none⟩ = some (.int .i64 (f.last : Int)) ∧ y.cell? ⟨cq, 2, none⟩ = some vl)
            (first | with_reducible exact KSm.out | with_reducible exact KR1.out | with_reducible exact KI1.out | with_reducible exact K8.out)
            (first
              | (with_reducible refine (CI.out _ HB8.out).mono ?_; rintro e wI ⟨vI, rfl, hI, hbI⟩; obtain ⟨aI, cI, rfl⟩ := own_slice hI; have HBI : Hid (Below W6.drew.heap.size W6.drew wI) := Hid.mk hbI; have KI1 := Hid.mk (KQ.out wI HBI.out))
              | (with_reducible refine (CI.out _ HBR.out).mono ?_; rintro e wI ⟨vI, rfl, hI, hbI⟩; obtain ⟨aI, cI, rfl⟩ := own_slice hI; have HBI : Hid (Below W6.drew.heap.size W6.drew wI) := Hid.mk (HBR.out.trans (hbI.mono HBR.out.size)); have KI1 := Hid.mk (KQ.out wI HBI.out))
              | (with_reducible refine (CR.out _ HB8.out).mono ?_; rintro e wR ⟨vR, rfl, hR, hbR⟩; obtain ⟨aR, cR, rfl⟩ := own_slice hR; have HBR : Hid (Below W6.drew.heap.size W6.drew wR) := Hid.mk hbR; have KR1 := Hid.mk (KQ.out wR HBR.out))
              | (with_reducible refine (CR.out _ HBI.out).mono ?_; rintro e wR ⟨vR, rfl, hR, hbR⟩; obtain ⟨aR, cR, rfl⟩ := own_slice hR; have HBR : Hid (Below W6.drew.heap.size W6.drew wR) := Hid.mk (HBI.out.trans (hbR.mono HBI.out.size)); have KR1 := Hid.mk (KQ.out wR HBR.out))
              | (with_reducible refine (sameInts_any (owns_below hI hbR) hR HM2.out hm2b).mono ?_; rintro e wS ⟨rfl, hbS⟩; have HBS : Hid (Below W6.drew.heap.size W6.drew wS) := Hid.mk (HBR.out.trans (hbS.mono HBR.out.size)); have KSm := Hid.mk (KQ.out wS HBS.out))
              | (with_reducible refine (sameInts_any hI (owns_below hR hbI) HM2.out hm2b).mono ?_; rintro e wS ⟨rfl, hbS⟩; have HBS : Hid (Below W6.drew.heap.size W6.drew wS) := Hid.mk (HBI.out.trans (hbS.mono HBI.out.size)); have KSm := Hid.mk (KQ.out wS HBS.out)))
          all_goals (
            have HT9 := Hid.mk (HT8.out.below HBS.out)
            clear hI hbI hR hbR hbS KSm KI1 KR1
            go_wp2
            go_roundw
            case rel => exact ⟨i + 1, f, vl, S1, by omega, by omega, by go_num, HLA2.out, HT9.out⟩
            case measure => simp [intOf]; omega)
      · have hlt3I : ¬ (i : Int) < 200 := by omega
        have C := Hid.mk (CAW.out wx)
        go_wp2_with fail
        refine C.out.mono ?_
        rintro e w7 ⟨rfl, hb7⟩
        have HB7 : Hid (Below w.heap.size w w7) := Hid.mk (HX.out.bel.trans (hb7.mono HX.out.bel.size))
        clear hb7 C
        go_wp2
        go_ret
        exact ⟨rfl, HB7.out⟩
    · have hltI : ¬ (i : Int) < (on : Int) := by omega
      have C := Hid.mk (CAW.out wx)
      go_wp2_with fail
      refine C.out.mono ?_
      rintro e w7 ⟨rfl, hb7⟩
      have HB7 : Hid (Below w.heap.size w w7) := Hid.mk (HX.out.bel.trans (hb7.mono HX.out.bel.size))
      clear hb7 C
      go_wp2
      go_ret
      exact ⟨rfl, HB7.out⟩
end Go.Proofs.Ytnkgbinogblemaa
