/- Once the root is done, all is quiet. -/
import Derived.Test.YtdbnbgpbbfckfaaKScr
import Derived.Deep.RegionHeld3
namespace Go.Proofs.Ytdbnbgpbbfckfaa
open Go.RowKit

set_option maxRecDepth 100000 in
set_option maxHeartbeats 16000000 in
theorem quietDone_walk (z : Int) (v2 : Value) (zs : List Int) (w : World) (_ : (Lit.int .i64 z).wf = true) (h2 : IntZ (fun _ => True) w v2 zs) (h2c : zs.length ≤ 9223372036854775807 ∧ CapS v2 zs.length) :
    Calls Try.prog 3 #[.int .i64 z, v2] w fun e w' => e = .returned (.bool true) ∧ Below w.heap.size w w' := by
  obtain ⟨a2, c2, rfl⟩ := h2.slice
  have H2 := Hid.mk h2
  obtain ⟨n, hn⟩ : ∃ n, n = zs.length := ⟨_, rfl⟩
  have hnl := h2c.1
  rw [← hn] at H2 hnl ⊢
  have HN := Hid.mk hn
  obtain ⟨kk, hkk, hk5⟩ := k_any z
  obtain ⟨_, _, _, hm0, hm1⟩ := pick_any z 6 (by decide)
  obtain ⟨k, hk⟩ : ∃ k : Nat, k = 1 + kk := ⟨_, rfl⟩
  have hkI : (1 : Int) + (kk : Int) = (k : Int) := by omega
  have CB := Hid.mk (begun_any k 3 w (by omega) (by omega))
  have CAW := Hid.mk (fun w => awake_any w)
  have hk1 : 1 ≤ k := by omega
  have hk6 : k ≤ 6 := by omega
  have hk0N : ¬ k = 0 := by omega
  have hk0 : ¬ (k : Int) = 0 := by omega
  have hk0B : ((k : Int) == 0) = false := beq_eq_false_iff_ne.2 hk0
  have hk6I : (k : Int) ≤ 6 := by omega
  clear h2 hn h2c hk
  go_enter Try.func3, Try.ntmps3
  go_wp2_with fail
  refine CB.out.mono ?_
  rintro e w1 ⟨⟨wb, rfl, hW1⟩, hb1⟩
  have HW1 := Hid.mk hW1
  have HB1 := Hid.mk hb1
  clear hW1 hb1
  go_wp2_with fail
  go_loopw [7] (fun c wr => ∃ i : Nat, i ≤ 300 ∧ i ≤ n ∧ c = .int .i64 (i : Int) ∧ (∃ s, WOk w.heap.size wr wb s ∧ RunS s k i) ∧ Below w.heap.size w wr) (fun c _ => 300 - (intOf c).toNat)
  case atStart => exact ⟨0, by omega, by omega, rfl, ⟨_, HW1.out, begW_run hk1 hk6 (by decide)⟩, HB1.out⟩
  case round =>
    obtain ⟨i, hi3, hin, rfl, ⟨s, hW, hR⟩, hbel⟩ := hrel
    obtain ⟨wx, hwx⟩ : ∃ wx, wx = wr := ⟨_, rfl⟩
    subst hwx
    have HW := Hid.mk hW
    obtain ⟨vn, vu, vt, vw, bs, hA⟩ := hW
    have HR := Hid.mk hR
    have HB := Hid.mk hbel
    have g4 := (five_cells hA.blk).1.2.2.2.2
    clear hA hR hbel
    by_cases hlt : i < n
    · have hltI : (i : Int) < (n : Int) := by omega
      by_cases hlt3 : i < 300
      · have hlt3I : (i : Int) < 300 := by omega
        obtain ⟨zz, hzz⟩ : ∃ zz, zs[i]? = some zz := ⟨_, List.getElem?_eq_getElem (by rw [← HN.out]; exact hlt)⟩
        obtain ⟨g, o, rfl, _, _, hc⟩ := (H2.out.below HB.out).get hzz
        have p0 := getZ hc
        rw [Nat.mul_one] at p0
        clear hc hzz
        obtain ⟨x, hx, hx6⟩ := mask_nat zz
        obtain ⟨q, hq, hq3⟩ := mask3 x
        obtain ⟨ra, hra, hra2⟩ := rem_any x k 4 (by decide) hk1
        obtain ⟨rb, hrb, hrb2⟩ := rem_any x k 32 (by decide) hk1
        obtain ⟨mo, hmo, hmo2⟩ := more_any3 x
        have hraI : (ra : Int) < 6 := by omega
        have hrbI : (rb : Int) < 6 := by omega
        have hxa : 0 ≤ (x : Int) / 4 ∧ (x : Int) / 4 ≤ 65535 := by omega
        have hxb : 0 ≤ (x : Int) / 32 ∧ (x : Int) / 32 ≤ 65535 := by omega
        obtain ⟨hxa1, hxa2⟩ := hxa
        obtain ⟨hxb1, hxb2⟩ := hxb
        rcases (show q = 0 ∨ q = 1 ∨ q = 2 ∨ q = 3 by omega) with rfl | rfl | rfl | rfl
        · skip
          have CS : Hid (Calls Try.prog 8 #[.pointer (some ⟨wb, 0, none⟩), .int .i64 (ra : Int), .int .i64 (rb : Int)] wx.drew fun e w' => e = .returned (.tuple #[]) ∧ Below w.heap.size wx.drew w' ∧ ∃ s', WOk w.heap.size w' wb s' ∧ RunS s' k (i + 1)) := Hid.mk (run_sends (by obtain ⟨a, b, c, d, e, f⟩ := HW.out; exact f.drew.ok) HR.out (by omega) hra2 hrb2)
          go_wp2_with fail
          go_region_held3 (fun _ => True) (trivial) (first | (go_at_call 8; with_reducible refine CS.out.mono ?_; rintro e w2 ⟨rfl, hb2, s2, hW2, hR2⟩))
          replace hb2 : Below w.heap.size wx w2 := (Below.refl _ _).drew.trans hb2
          have HB2 : Hid (Below w.heap.size w w2) := Hid.mk (HB.out.trans hb2)
          have HW2 := Hid.mk hW2
          have HR2 := Hid.mk hR2
          clear hb2 hW2 hR2 g4
          obtain ⟨vn2, vu2, vt2, vw2, bs2, hA2⟩ := HW2.out
          obtain ⟨gn, cn, _, e1, e2, hN⟩ := hA2.first HR2.out.inv.k1
          rw [HR2.out.kk] at e1
          have g5 := (five_cells hA2.blk).1.2.2.2.2
          have CD := Hid.mk (done_any hN)
          have hkP : (0 : Int) < (k : Int) := by omega
          clear hA2 hN
          cases hws : (s2.nd 0).works with
          | true =>
            rw [hws] at CD
            clear hws
            go_wp2_with fail
            refine CD.out.mono ?_
            rintro e wq ⟨rfl, hw⟩
            rw [hw]
            clear hw
            go_wp2
            go_roundw
            case rel => exact ⟨i + 1, by omega, by omega, by go_num, ⟨_, HW2.out, HR2.out⟩, HB2.out⟩
            case measure => simp [intOf]; omega
          | false =>
            rw [hws] at CD
            have CQ := Hid.mk (quiet_any HW2.out HR2.out.inv.k1 HR2.out.inv.k6 (HR2.out.inv.done hws))
            clear hws
            go_wp2_with fail
            refine CD.out.mono ?_
            rintro e wq ⟨rfl, hw⟩
            rw [hw]
            clear hw
            go_wp2_with fail
            refine CQ.out.mono ?_
            rintro e wq ⟨rfl, hw⟩
            rw [hw]
            clear hw
            go_wp2
            go_roundw
            case rel => exact ⟨i + 1, by omega, by omega, by go_num, ⟨_, HW2.out, HR2.out⟩, HB2.out⟩
            case measure => simp [intOf]; omega
        · have CS := Hid.mk (run_comes HW.out HR.out (by omega) ((x : Int) / 4) mo hmo2)
          go_wp2_with fail
          refine CS.out.mono ?_
          rintro e w2 ⟨rfl, hb2, s2, hW2, hR2⟩
          have HB2 : Hid (Below w.heap.size w w2) := Hid.mk (HB.out.trans hb2)
          have HW2 := Hid.mk hW2
          have HR2 := Hid.mk hR2
          clear hb2 hW2 hR2 g4
          obtain ⟨vn2, vu2, vt2, vw2, bs2, hA2⟩ := HW2.out
          obtain ⟨gn, cn, _, e1, e2, hN⟩ := hA2.first HR2.out.inv.k1
          rw [HR2.out.kk] at e1
          have g5 := (five_cells hA2.blk).1.2.2.2.2
          have CD := Hid.mk (done_any hN)
          have hkP : (0 : Int) < (k : Int) := by omega
          clear hA2 hN
          cases hws : (s2.nd 0).works with
          | true =>
            rw [hws] at CD
            clear hws
            go_wp2_with fail
            refine CD.out.mono ?_
            rintro e wq ⟨rfl, hw⟩
            rw [hw]
            clear hw
            go_wp2
            go_roundw
            case rel => exact ⟨i + 1, by omega, by omega, by go_num, ⟨_, HW2.out, HR2.out⟩, HB2.out⟩
            case measure => simp [intOf]; omega
          | false =>
            rw [hws] at CD
            have CQ := Hid.mk (quiet_any HW2.out HR2.out.inv.k1 HR2.out.inv.k6 (HR2.out.inv.done hws))
            clear hws
            go_wp2_with fail
            refine CD.out.mono ?_
            rintro e wq ⟨rfl, hw⟩
            rw [hw]
            clear hw
            go_wp2_with fail
            refine CQ.out.mono ?_
            rintro e wq ⟨rfl, hw⟩
            rw [hw]
            clear hw
            go_wp2
            go_roundw
            case rel => exact ⟨i + 1, by omega, by omega, by go_num, ⟨_, HW2.out, HR2.out⟩, HB2.out⟩
            case measure => simp [intOf]; omega
        · have CS := Hid.mk (run_told HW.out HR.out (by omega) ((x : Int) / 4))
          go_wp2_with fail
          refine CS.out.mono ?_
          rintro e w2 ⟨rfl, hb2, s2, hW2, hR2⟩
          have HB2 : Hid (Below w.heap.size w w2) := Hid.mk (HB.out.trans hb2)
          have HW2 := Hid.mk hW2
          have HR2 := Hid.mk hR2
          clear hb2 hW2 hR2 g4
          obtain ⟨vn2, vu2, vt2, vw2, bs2, hA2⟩ := HW2.out
          obtain ⟨gn, cn, _, e1, e2, hN⟩ := hA2.first HR2.out.inv.k1
          rw [HR2.out.kk] at e1
          have g5 := (five_cells hA2.blk).1.2.2.2.2
          have CD := Hid.mk (done_any hN)
          have hkP : (0 : Int) < (k : Int) := by omega
          clear hA2 hN
          cases hws : (s2.nd 0).works with
          | true =>
            rw [hws] at CD
            clear hws
            go_wp2_with fail
            refine CD.out.mono ?_
            rintro e wq ⟨rfl, hw⟩
            rw [hw]
            clear hw
            go_wp2
            go_roundw
            case rel => exact ⟨i + 1, by omega, by omega, by go_num, ⟨_, HW2.out, HR2.out⟩, HB2.out⟩
            case measure => simp [intOf]; omega
          | false =>
            rw [hws] at CD
            have CQ := Hid.mk (quiet_any HW2.out HR2.out.inv.k1 HR2.out.inv.k6 (HR2.out.inv.done hws))
            clear hws
            go_wp2_with fail
            refine CD.out.mono ?_
            rintro e wq ⟨rfl, hw⟩
            rw [hw]
            clear hw
            go_wp2_with fail
            refine CQ.out.mono ?_
            rintro e wq ⟨rfl, hw⟩
            rw [hw]
            clear hw
            go_wp2
            go_roundw
            case rel => exact ⟨i + 1, by omega, by omega, by go_num, ⟨_, HW2.out, HR2.out⟩, HB2.out⟩
            case measure => simp [intOf]; omega
        · have CS := Hid.mk (run_rests HW.out HR.out (by omega) hra2)
          go_wp2_with fail
          refine CS.out.mono ?_
          rintro e w2 ⟨rfl, hb2, s2, hW2, hR2⟩
          have HB2 : Hid (Below w.heap.size w w2) := Hid.mk (HB.out.trans hb2)
          have HW2 := Hid.mk hW2
          have HR2 := Hid.mk hR2
          clear hb2 hW2 hR2 g4
          obtain ⟨vn2, vu2, vt2, vw2, bs2, hA2⟩ := HW2.out
          obtain ⟨gn, cn, _, e1, e2, hN⟩ := hA2.first HR2.out.inv.k1
          rw [HR2.out.kk] at e1
          have g5 := (five_cells hA2.blk).1.2.2.2.2
          have CD := Hid.mk (done_any hN)
          have hkP : (0 : Int) < (k : Int) := by omega
          clear hA2 hN
          cases hws : (s2.nd 0).works with
          | true =>
            rw [hws] at CD
            clear hws
            go_wp2_with fail
            refine CD.out.mono ?_
            rintro e wq ⟨rfl, hw⟩
            rw [hw]
            clear hw
            go_wp2
            go_roundw
            case rel => exact ⟨i + 1, by omega, by omega, by go_num, ⟨_, HW2.out, HR2.out⟩, HB2.out⟩
            case measure => simp [intOf]; omega
          | false =>
            rw [hws] at CD
            have CQ := Hid.mk (quiet_any HW2.out HR2.out.inv.k1 HR2.out.inv.k6 (HR2.out.inv.done hws))
            clear hws
            go_wp2_with fail
            refine CD.out.mono ?_
            rintro e wq ⟨rfl, hw⟩
            rw [hw]
            clear hw
            go_wp2_with fail
            refine CQ.out.mono ?_
            rintro e wq ⟨rfl, hw⟩
            rw [hw]
            clear hw
            go_wp2
            go_roundw
            case rel => exact ⟨i + 1, by omega, by omega, by go_num, ⟨_, HW2.out, HR2.out⟩, HB2.out⟩
            case measure => simp [intOf]; omega
      · have hlt3I : ¬ (i : Int) < 300 := by omega
        go_wp2_with fail
        refine (CAW.out wx).mono ?_
        rintro e w3 ⟨rfl, hb3⟩
        have HB3 : Hid (Below w.heap.size w w3) := Hid.mk (HB.out.trans (hb3.mono HB.out.size))
        clear hb3
        go_wp2
        go_ret
        exact ⟨rfl, HB3.out⟩
    · have hltI : ¬ (i : Int) < (n : Int) := by omega
      go_wp2_with fail
      refine (CAW.out wx).mono ?_
      rintro e w3 ⟨rfl, hb3⟩
      have HB3 : Hid (Below w.heap.size w w3) := Hid.mk (HB.out.trans (hb3.mono HB.out.size))
      clear hb3
      go_wp2
      go_ret
      exact ⟨rfl, HB3.out⟩
end Go.Proofs.Ytdbnbgpbbfckfaa
