/- Once no more is sent, and all that is under way comes, the root is done by and by. -/
import Derived.Test.YtdbnbgpbbfckfaaKScr
import Derived.Deep.RegionHeld3
namespace Go.Proofs.Ytdbnbgpbbfckfaa
open Go.RowKit

/-- What a telling or a message comes to in the last time. -/
def LEnd (B : Nat) (w : World) (wb : Nat) (s : Wd) (eff : Prop) (e : Ending) (w' : World) : Prop := e = .returned (.tuple #[]) ∧ Below B w w' ∧ ∃ s', WOk B w' wb s' ∧ Last s' ∧ s'.k = s.k ∧ s'.M ≤ s.M ∧ (eff → s'.M < s.M) ∧ (¬ eff → s' = s)
section
variable {B : Nat} {w : World} {wb : Nat} {s : Wd}
theorem Last.lim (h : Last s) (hM : s.M ≤ 1000) : Lim s :=
  have h1 : s.tells.length ≤ s.M := by unfold Wd.M; omega
  have h2 : s.under.length ≤ s.M := by unfold Wd.M; omega
  ⟨h.inv.k1, h.inv.k6, fun i hi => by have := h.inv.bound hi; omega, by omega, by omega, h.inv.parL, fun i hi => by rw [h.zero i hi]; omega⟩
theorem last_told (hW : WOk B w wb s) (h : Last s) (hM : s.M ≤ 1000) (z : Int) :
    Calls Try.prog 10 #[.pointer (some ⟨wb, 0, none⟩), .int .i64 z] w (LEnd B w wb s (s.tells ≠ [])) := by
  refine (wtold_any hW (h.lim hM) (fun j t ht => ?_) z).mono ?_
  · obtain ⟨a, b, _⟩ := h.inv.owed ht
    have hlen := rm_len (List.getElem?_eq_some_iff.1 ht).1
    have h1 := told1_inv h.inv ht
    have hm : (s.told1 j t).M ≤ s.M := by unfold Wd.M Wd.told1; simp only; omega
    have h2 : (s.told1 j t).tells.length ≤ (s.told1 j t).M := by unfold Wd.M; omega
    have h3 : (s.told1 j t).under.length ≤ (s.told1 j t).M := by unfold Wd.M; omega
    exact ⟨a, b, h1.k1, h1.k6, fun i hi => by have := h1.bound hi; omega, by omega, by omega, h1.parL, fun i hi => by rw [show (s.told1 j t).work i = s.work i from rfl, h.zero i hi]; omega⟩
  · rintro e w' ⟨rfl, h2, s', hp, h1⟩
    refine ⟨rfl, h2, s', h1, ?_⟩
    rcases hp with ⟨he, rfl⟩ | ⟨j, t, ht, rfl⟩
    · exact ⟨h, rfl, Nat.le_refl _, fun hn => absurd he hn, fun _ => rfl⟩
    · obtain ⟨a, b, c⟩ := told_inv h.inv ht
      refine ⟨h.told ht, c, by omega, fun _ => b, fun hn => ?_⟩
      exact absurd (fun e => by rw [e] at ht; simp at ht) hn
theorem last_comes (hW : WOk B w wb s) (h : Last s) (hM : s.M ≤ 1000) (z : Int) :
    Calls Try.prog 9 #[.pointer (some ⟨wb, 0, none⟩), .int .i64 z, .int .i64 ((0 : Nat) : Int)] w (LEnd B w wb s (s.under ≠ [])) := by
  refine (wcome_any hW (h.lim hM) 0 (by omega) (fun j m ht => ?_) z).mono ?_
  · have hin := h.inv.un m (List.mem_of_getElem? ht)
    have h1 := come1_inv (more := 0) h.inv ht
    have hm := come1_M (more := 0) ht
    have h2 : (s.come1 j 0 m).tells.length ≤ (s.come1 j 0 m).M := by unfold Wd.M; omega
    have h3 : (s.come1 j 0 m).under.length ≤ (s.come1 j 0 m).M := by unfold Wd.M; omega
    refine ⟨hin.1, hin.2, h.inv.to_ ht, h1.k1, h1.k6, fun i hi => by have := h1.bound hi; omega, by omega, by omega, h1.parL, fun i hi => ?_⟩
    have h4 : upd s.work m.2 (s.work m.2 + 0) i ≤ s.work i := by unfold upd; split <;> simp_all
    have h5 : (s.come1 j 0 m).work i ≤ s.work i := by unfold Wd.come1; split <;> exact h4
    rw [come1_k] at hi
    have := h.zero i hi
    omega
  · rintro e w' ⟨rfl, h2, s', hp, h1⟩
    refine ⟨rfl, h2, s', h1, ?_⟩
    rcases hp with ⟨he, rfl⟩ | ⟨j, m, ht, rfl⟩
    · exact ⟨h, rfl, Nat.le_refl _, fun hn => absurd he hn, fun _ => rfl⟩
    · obtain ⟨a, b, c⟩ := comes_inv (more := 0) h.inv ht
      refine ⟨h.comes ht, c, by omega, fun _ => b, fun hn => ?_⟩
      exact absurd (fun e => by rw [e] at ht; simp at ht) hn
end
/-- Work is cut, up to a node. -/
structure CutS (s : Wd) (k j : Nat) : Prop where
  inv : Inv s
  kk : s.k = k
  m : s.M ≤ 401
  wk : ∀ i, s.work i ≤ 1000
  zero : ∀ i, i < j → s.work i = 0
  fine : ∀ i, i < j → Fine s i
theorem RunS.cut {s : Wd} {k i : Nat} (h : RunS s k i) (hi : i ≤ 200) : CutS s k 0 := ⟨h.inv, h.kk, by have := h.m; omega, fun j => by have := h.wk j; omega, fun i hi => absurd hi (by omega), fun i hi => absurd hi (by omega)⟩
theorem CutS.next {s : Wd} {k j : Nat} (h : CutS s k j) (hj : j < k) : CutS ((s.cut j).rests j) k (j + 1) ∧ Lim (s.cut j) := by
  have hI := cut_inv h.inv j
  have hjk : j < (s.cut j).k := by show j < s.k; rw [h.kk]; exact hj
  have hw : ∀ i, (s.cut j).work i ≤ 1000 := upd_le h.wk (by omega)
  have hm : (s.cut j).M ≤ 401 := h.m
  refine ⟨⟨rests_inv hI hjk, by rw [rests_k]; exact h.kk, by have := rests_M hI hjk; omega, fun i => by rw [rests_work]; exact hw i, fun i hi => ?_, fun i hi => ?_⟩, lim_of hI (by omega) (fun i => by have := hw i; omega)⟩
  · rw [rests_work]
    show upd s.work j 0 i = 0
    unfold upd
    split
    · rfl
    · exact h.zero i (by omega)
  · by_cases e : i = j
    · subst e; exact rests_fine _ _
    · refine rests_fine2 ?_
      intro hwk
      have h0 := h.zero i (by omega)
      rcases h.fine i (by omega) hwk with h1 | h1
      · omega
      · exact .inr h1
theorem CutS.last {s : Wd} {k : Nat} (h : CutS s k k) : Last s := ⟨h.inv, fun i hi => h.zero i (by rw [← h.kk]; exact hi), fun i hi => h.fine i (by rw [← h.kk]; exact hi)⟩
set_option maxRecDepth 100000 in
set_option maxHeartbeats 16000000 in
theorem quietEnds_walk (z : Int) (v2 : Value) (zs : List Int) (od : Int) (w : World) (_ : (Lit.int .i64 z).wf = true) (h2 : IntZ (fun _ => True) w v2 zs) (h2c : zs.length ≤ 9223372036854775807 ∧ CapS v2 zs.length) (_ : (Lit.int .i64 od).wf = true) :
    Calls Try.prog 4 #[.int .i64 z, v2, .int .i64 od] w fun e w' => e = .returned (.bool true) ∧ Below w.heap.size w w' := by
  obtain ⟨a2, c2, rfl⟩ := h2.slice
  have H2 := Hid.mk h2
  obtain ⟨n, hn⟩ : ∃ n, n = zs.length := ⟨_, rfl⟩
  have hnl := h2c.1
  rw [← hn] at H2 hnl ⊢
  have HN := Hid.mk hn
  obtain ⟨kk, hkk, hk5⟩ := k_any z
  obtain ⟨_, _, _, hm0, hm1⟩ := pick_any z 6 (by decide)
  obtain ⟨k, hk⟩ : ∃ k : Nat, k = 1 + kk := ⟨_, rfl⟩
  have hkI : (1 : Int) + (kk : Int) = (k : Int) := by omega
  have CB := Hid.mk (begun_any k 3 w (by omega) (by omega))
  have CAW := Hid.mk (fun w => awake_any w)
  have hk1 : 1 ≤ k := by omega
  have hk6 : k ≤ 6 := by omega
  have hk0N : ¬ k = 0 := by omega
  have hk0 : ¬ (k : Int) = 0 := by omega
  have hk0B : ((k : Int) == 0) = false := beq_eq_false_iff_ne.2 hk0
  have hk6I : (k : Int) ≤ 6 := by omega
  clear h2 hn h2c hk
  go_enter Try.func4, Try.ntmps4
  go_wp2_with fail
  refine CB.out.mono ?_
  rintro e w1 ⟨⟨wb, rfl, hW1⟩, hb1⟩
  have HW1 := Hid.mk hW1
  have HB1 := Hid.mk hb1
  clear hW1 hb1
  go_wp2_with fail
  go_loopw [9] (fun c wr => ∃ i : Nat, i ≤ 200 ∧ i ≤ n ∧ c = .int .i64 (i : Int) ∧ (∃ s, WOk w.heap.size wr wb s ∧ RunS s k i) ∧ Below w.heap.size w wr) (fun c _ => 200 - (intOf c).toNat)
  case atStart => exact ⟨0, by omega, by omega, rfl, ⟨_, HW1.out, begW_run hk1 hk6 (by decide)⟩, HB1.out⟩
  case round =>
    obtain ⟨i, hi3, hin, rfl, ⟨s, hW, hR⟩, hbel⟩ := hrel
    obtain ⟨wx, hwx⟩ : ∃ wx, wx = wr := ⟨_, rfl⟩
    subst hwx
    have HW := Hid.mk hW
    obtain ⟨vn, vu, vt, vw, bs, hA⟩ := hW
    have HR := Hid.mk hR
    have HB := Hid.mk hbel
    have g4 := (five_cells hA.blk).1.2.2.2.2
    clear hA hR hbel
    by_cases hlt : i < n
    · have hltI : (i : Int) < (n : Int) := by omega
      by_cases hlt3 : i < 200
      · have hlt3I : (i : Int) < 200 := by omega
        obtain ⟨zz, hzz⟩ : ∃ zz, zs[i]? = some zz := ⟨_, List.getElem?_eq_getElem (by rw [← HN.out]; exact hlt)⟩
        obtain ⟨g, o, rfl, _, _, hc⟩ := (H2.out.below HB.out).get hzz
        have p0 := getZ hc
        rw [Nat.mul_one] at p0
        clear hc hzz
        obtain ⟨x, hx, hx6⟩ := mask_nat zz
        obtain ⟨q, hq, hq3⟩ := mask3 x
        obtain ⟨ra, hra, hra2⟩ := rem_any x k 4 (by decide) hk1
        obtain ⟨rb, hrb, hrb2⟩ := rem_any x k 32 (by decide) hk1
        obtain ⟨mo, hmo, hmo2⟩ := more_any3 x
        have hraI : (ra : Int) < 6 := by omega
        have hrbI : (rb : Int) < 6 := by omega
        have hxa : 0 ≤ (x : Int) / 4 ∧ (x : Int) / 4 ≤ 65535 := by omega
        have hxb : 0 ≤ (x : Int) / 32 ∧ (x : Int) / 32 ≤ 65535 := by omega
        obtain ⟨hxa1, hxa2⟩ := hxa
        obtain ⟨hxb1, hxb2⟩ := hxb
        rcases (show q = 0 ∨ q = 1 ∨ q = 2 ∨ q = 3 by omega) with rfl | rfl | rfl | rfl
        · skip
          have CS : Hid (Calls Try.prog 8 #[.pointer (some ⟨wb, 0, none⟩), .int .i64 (ra : Int), .int .i64 (rb : Int)] wx.drew fun e w' => e = .returned (.tuple #[]) ∧ Below w.heap.size wx.drew w' ∧ ∃ s', WOk w.heap.size w' wb s' ∧ RunS s' k (i + 1)) := Hid.mk (run_sends (by obtain ⟨a, b, c, d, e, f⟩ := HW.out; exact f.drew.ok) HR.out (by omega) hra2 hrb2)
          go_wp2_with fail
          go_region_held3 (fun _ => True) (trivial) (first | (go_at_call 8; with_reducible refine CS.out.mono ?_; rintro e w2 ⟨rfl, hb2, s2, hW2, hR2⟩))
          replace hb2 : Below w.heap.size wx w2 := (Below.refl _ _).drew.trans hb2
          have HB2 : Hid (Below w.heap.size w w2) := Hid.mk (HB.out.trans hb2)
          have HW2 := Hid.mk hW2
          have HR2 := Hid.mk hR2
          clear hb2 hW2 hR2 g4
          go_wp2
          go_roundw
          case rel => exact ⟨i + 1, by omega, by omega, by go_num, ⟨_, HW2.out, HR2.out⟩, HB2.out⟩
          case measure => simp [intOf]; omega
        · have CS := Hid.mk (run_comes HW.out HR.out (by omega) ((x : Int) / 4) mo hmo2)
          go_wp2_with fail
          refine CS.out.mono ?_
          rintro e w2 ⟨rfl, hb2, s2, hW2, hR2⟩
          have HB2 : Hid (Below w.heap.size w w2) := Hid.mk (HB.out.trans hb2)
          have HW2 := Hid.mk hW2
          have HR2 := Hid.mk hR2
          clear hb2 hW2 hR2 g4
          go_wp2
          go_roundw
          case rel => exact ⟨i + 1, by omega, by omega, by go_num, ⟨_, HW2.out, HR2.out⟩, HB2.out⟩
          case measure => simp [intOf]; omega
        · have CS := Hid.mk (run_told HW.out HR.out (by omega) ((x : Int) / 4))
          go_wp2_with fail
          refine CS.out.mono ?_
          rintro e w2 ⟨rfl, hb2, s2, hW2, hR2⟩
          have HB2 : Hid (Below w.heap.size w w2) := Hid.mk (HB.out.trans hb2)
          have HW2 := Hid.mk hW2
          have HR2 := Hid.mk hR2
          clear hb2 hW2 hR2 g4
          go_wp2
          go_roundw
          case rel => exact ⟨i + 1, by omega, by omega, by go_num, ⟨_, HW2.out, HR2.out⟩, HB2.out⟩
          case measure => simp [intOf]; omega
        · obtain ⟨w2, s2, hb2, hW2, hR2⟩ : ∃ (w2 : World) (s2 : Wd), w2 = wx ∧ WOk w.heap.size wx wb s2 ∧ RunS s2 k (i + 1) := ⟨_, _, rfl, HW.out, HR.out.next⟩
          have HB2 := Hid.mk HB.out
          have HW2 := Hid.mk hW2
          have HR2 := Hid.mk hR2
          clear hb2 hW2 hR2 w2
          go_wp2
          go_roundw
          case rel => exact ⟨i + 1, by omega, by omega, by go_num, ⟨_, HW2.out, HR2.out⟩, HB2.out⟩
          case measure => simp [intOf]; omega
      · have hlt3I : ¬ (i : Int) < 200 := by omega
        obtain ⟨wy, hwy⟩ : ∃ wy, wy = wx := ⟨_, rfl⟩
        subst hwy
        go_wp2_with fail
        go_loopw [11] (fun c wr => ∃ j : Nat, j ≤ k ∧ c = .int .i64 (j : Int) ∧ (∃ s, WOk w.heap.size wr wb s ∧ CutS s k j) ∧ Below w.heap.size w wr) (fun c _ => k - (intOf c).toNat)
        case atStart => exact ⟨0, by omega, rfl, ⟨_, HW.out, HR.out.cut (by omega)⟩, HB.out⟩
        case round =>
          obtain ⟨j, hjk, rfl, ⟨s3, hW3, hC3⟩, hbel3⟩ := hrel
          obtain ⟨wu, hwu⟩ : ∃ wu, wu = wr := ⟨_, rfl⟩
          subst hwu
          have HC3 := Hid.mk hC3
          have HB3 := Hid.mk hbel3
          have HW3 := Hid.mk hW3
          clear hC3 hbel3 hW3 g4
          by_cases hjlt : j < k
          · have hjI : (j : Int) < (k : Int) := by omega
            obtain ⟨vn3, vu3, vt3, vw3, bs3, hA3⟩ := HW3.out
            obtain ⟨gn, cn, gw, cw, rfl, rfl, hrn3, hrw3⟩ := hA3.reads HC3.out.inv.k1
            obtain ⟨d0, d1, d2, d3, _, _⟩ := hA3.cells
            obtain ⟨e0, e1⟩ := hrw3 j (by rw [HC3.out.kk]; exact hjlt)
            rw [HC3.out.kk] at d3
            obtain ⟨WZ, hWZ⟩ : ∃ W, W = wu.setCell ⟨gw, j, none⟩ (.int .i64 0) := ⟨_, rfl⟩
            have HZ : Hid (WOk w.heap.size WZ wb (s3.cut j) ∧ Below w.heap.size w WZ) := Hid.mk (by
              have hh := hA3.work_ rfl j 0
              rw [hWZ]
              exact ⟨hh.1.ok, HB3.out.trans hh.2⟩)
            have CR := Hid.mk (rests_any HZ.out.1 (HC3.out.next hjlt).2 (i := j) (by show j < s3.k; rw [HC3.out.kk]; exact hjlt))
            have HNX := Hid.mk (HC3.out.next hjlt).1
            clear hA3 hrn3 hrw3 d0 d1 d2
            have HWZ := Hid.mk hWZ
            clear hWZ
            go_wp2_with fail
            rw [← HWZ.out]
            refine CR.out.mono ?_
            rintro e w4 ⟨rfl, h4, b4⟩
            have HF : Hid (WOk w.heap.size w4 wb ((s3.cut j).rests j) ∧ Below w.heap.size w w4) := Hid.mk ⟨h4, HZ.out.2.trans b4⟩
            clear h4 b4
            go_wp2
            go_roundw
            case rel => exact ⟨j + 1, by omega, by go_num, ⟨_, HF.out.1, HNX.out⟩, HF.out.2⟩
            case measure => simp [intOf]; omega
          · have hjI : ¬ (j : Int) < (k : Int) := by omega
            obtain ⟨jk, hjk2⟩ : ∃ jk, jk = k := ⟨_, rfl⟩
            have HL : Hid (Last s3 ∧ s3.k = k ∧ s3.M ≤ 401) := Hid.mk (by
              have h := HC3.out
              rw [show j = k by omega] at h
              exact ⟨h.last, h.kk, h.m⟩)
            clear hjk2 jk
            go_wp2_with fail
            go_loopw [12] (fun c wr => ∃ p : Nat, p ≤ 401 ∧ c = .int .i64 (p : Int) ∧ (∃ s, WOk w.heap.size wr wb s ∧ Last s ∧ s.k = k ∧ s.M + p ≤ 401) ∧ Below w.heap.size w wr) (fun c _ => 402 - (intOf c).toNat)
            case atStart => exact ⟨0, by omega, rfl, ⟨_, HW3.out, HL.out.1, HL.out.2.1, HL.out.2.2⟩, HB3.out⟩
            case round =>
              obtain ⟨p, hp401, rfl, ⟨s4, hW4, hL4, hk4, hM4⟩, hbel4⟩ := hrel
              obtain ⟨wv, hwv⟩ : ∃ wv, wv = wr := ⟨_, rfl⟩
              subst hwv
              have HW4 := Hid.mk hW4
              have HL4 := Hid.mk hL4
              have HK4 := Hid.mk hk4
              have HB4 := Hid.mk hbel4
              have HM4 := Hid.mk hM4
              obtain ⟨vn4, vu4, vt4, vw4, bs4, hA4⟩ := HW4.out
              obtain ⟨gn, cn, hvn, e1, e2, hN⟩ := hA4.first HL4.out.inv.k1
              obtain ⟨ua, uc, hvu⟩ := own_slice hA4.ou
              obtain ⟨d0, d1, d2, d3, _, _⟩ := hA4.cells
              rw [hvu] at d1
              rw [hk4] at e1
              have g5 := (five_cells hA4.blk).1.2.2.2.2
              have CD := Hid.mk (done_any hN)
              have hkP : (0 : Int) < (k : Int) := by omega
              have hpI : (p : Int) < 3000 := by omega
              clear hA4 hN hW4 hL4 hk4 hbel4 hM4 hvn hvu d0 d2 d3
              cases hws : (s4.nd 0).works with
              | false =>
                rw [hws] at CD
                have CQ := Hid.mk (quiet_any HW4.out HL4.out.inv.k1 HL4.out.inv.k6 (HL4.out.inv.done hws))
                clear hws
                go_wp2_with fail
                refine CD.out.mono ?_
                rintro e wq ⟨rfl, hw⟩
                rw [hw]
                clear hw
                go_wp2_with fail
                refine CD.out.mono ?_
                rintro e wq ⟨rfl, hw⟩
                rw [hw]
                clear hw
                go_wp2_with fail
                refine CQ.out.mono ?_
                rintro e wq ⟨rfl, hw⟩
                rw [hw]
                clear hw
                go_wp2_with fail
                refine (CAW.out wv).mono ?_
                rintro e w5 ⟨rfl, hb5⟩
                have HB5 : Hid (Below w.heap.size w w5) := Hid.mk (HB4.out.trans (hb5.mono HB4.out.size))
                clear hb5
                go_wp2
                go_ret
                exact ⟨rfl, HB5.out⟩
              | true =>
                rw [hws] at CD
                have HNE : Hid (¬ (s4.under = [] ∧ s4.tells = [])) := Hid.mk (fun h => by have := HL4.out.end_ h.1 h.2; rw [hws] at this; cases this)
                clear hws
                obtain ⟨qq, hqq, hqq2⟩ := mask31 p
                have CT : Hid (∀ z, Calls Try.prog 10 #[.pointer (some ⟨wb, 0, none⟩), .int .i64 z] wv (LEnd w.heap.size wv wb s4 (s4.tells ≠ []))) := Hid.mk (fun z => last_told HW4.out HL4.out (by have := HM4.out; omega) z)
                have CC : Hid (∀ z, Calls Try.prog 9 #[.pointer (some ⟨wb, 0, none⟩), .int .i64 z, .int .i64 0] wv (LEnd w.heap.size wv wb s4 (s4.under ≠ []))) := Hid.mk (fun z => last_comes HW4.out HL4.out (by have := HM4.out; omega) z)
                have CC2 : Hid (∀ (s5 : Wd) (w5 : World) z, WOk w.heap.size w5 wb s5 → Last s5 → s5.M ≤ s4.M → Calls Try.prog 9 #[.pointer (some ⟨wb, 0, none⟩), .int .i64 z, .int .i64 0] w5 (LEnd w.heap.size w5 wb s5 (s5.under ≠ []))) := Hid.mk (fun s5 w5 z h1 h2 h3 => last_comes h1 h2 (by have := HM4.out; omega) z)
                obtain ⟨nu, hnu⟩ : ∃ nu, nu = s4.under.length := ⟨_, rfl⟩
                rw [← hnu] at d1
                have HNU := Hid.mk hnu
                clear hnu
                by_cases hev : p % 2 = 0
                · have hpe : ((p : Int)).tmod 2 = 0 := by rw [Int.tmod_eq_emod_of_nonneg (by omega)]; omega
                  clear hev
                  go_wp2_with fail
                  refine CD.out.mono ?_
                  rintro e wq ⟨rfl, hw⟩
                  rw [hw]
                  clear hw
                  go_wp2_with fail
                  refine (CT.out _).mono ?_
                  rintro e w5 ⟨rfl, hb5, s5, hW5, hL5, hk5, hM5, hE5, hS5⟩
                  have HW5 := Hid.mk hW5
                  have HL5 := Hid.mk hL5
                  have HB5 : Hid (Below w.heap.size w w5) := Hid.mk (HB4.out.trans hb5)
                  obtain ⟨vn5, vu5, vt5, vw5, bs5, hA5⟩ := HW5.out
                  obtain ⟨ta, tc, hvt⟩ := own_slice hA5.ot
                  obtain ⟨_, _, x2, _, _, _⟩ := hA5.cells
                  rw [hvt] at x2
                  obtain ⟨nt, hnt⟩ : ∃ nt, nt = s5.tells.length := ⟨_, rfl⟩
                  rw [← hnt] at x2
                  have CC3 : Hid (∀ z, Calls Try.prog 9 #[.pointer (some ⟨wb, 0, none⟩), .int .i64 z, .int .i64 0] w5 (LEnd w.heap.size w5 wb s5 (s5.under ≠ []))) := Hid.mk (fun z => CC2.out s5 w5 z HW5.out HL5.out hM5)
                  have HNT := Hid.mk hnt
                  have HM5 := Hid.mk hM5
                  have HE5 := Hid.mk hE5
                  have HS5 := Hid.mk hS5
                  have HK5 := Hid.mk hk5
                  clear hW5 hL5 hk5 hM5 hE5 hS5 hb5 hA5 hvt hnt d1 e1 e2 g5
                  by_cases hnt0 : nt = 0
                  · rw [hnt0] at x2
                    have HNT0 := Hid.mk hnt0
                    clear hnt0
                    go_wp2_with fail
                    refine (CC3.out _).mono ?_
                    rintro e w6 ⟨rfl, hb6, s6, hW6, hL6, hk6', hM6, hE6, hS6⟩
                    have HF : Hid ((∃ s, WOk w.heap.size w6 wb s ∧ Last s ∧ s.k = k ∧ s.M + (p + 1) ≤ 401) ∧ Below w.heap.size w w6) := Hid.mk (by
                      refine ⟨⟨s6, hW6, hL6, by rw [hk6', HK5.out, HK4.out], ?_⟩, HB5.out.trans hb6⟩
                      have h1 := HM4.out
                      have h2 := HM5.out
                      by_cases ht : s4.tells = []
                      · have e5 := HS5.out (fun h => h ht)
                        have hun : s5.under ≠ [] := fun h => HNE.out ⟨by rw [← e5]; exact h, ht⟩
                        have := hE6 hun
                        omega
                      · have := HE5.out ht
                        omega)
                    clear hW6 hL6 hk6' hM6 hE6 hS6 hb6
                    have hp2 : p + 1 ≤ 401 := by obtain ⟨⟨s6, _, _, _, h6⟩, _⟩ := HF.out; omega
                    go_wp2
                    go_roundw
                    case rel => exact ⟨p + 1, hp2, by go_num, HF.out.1, HF.out.2⟩
                    case measure => simp [intOf]; omega
                  · have hntI : ¬ (nt : Int) = 0 := by omega
                    have hntB : ((nt : Int) == 0) = false := beq_eq_false_iff_ne.2 hntI
                    have HF : Hid ((∃ s, WOk w.heap.size w5 wb s ∧ Last s ∧ s.k = k ∧ s.M + (p + 1) ≤ 401) ∧ Below w.heap.size w w5) := Hid.mk (by
                      refine ⟨⟨s5, HW5.out, HL5.out, by rw [HK5.out, HK4.out], ?_⟩, HB5.out⟩
                      have h1 := HM4.out
                      by_cases ht : s4.tells = []
                      · have e5 := HS5.out (fun h => h ht)
                        have h3 := HNT.out
                        rw [e5, ht] at h3
                        exact absurd h3 hnt0
                      · have := HE5.out ht
                        omega)
                    have hp2 : p + 1 ≤ 401 := by obtain ⟨⟨s6, _, _, _, h6⟩, _⟩ := HF.out; omega
                    clear hnt0
                    go_wp2
                    go_roundw
                    case rel => exact ⟨p + 1, hp2, by go_num, HF.out.1, HF.out.2⟩
                    case measure => simp [intOf]; omega
                · have hpe : ((p : Int)).tmod 2 = 1 := by rw [Int.tmod_eq_emod_of_nonneg (by omega)]; omega
                  clear hev
                  by_cases hnu0 : nu = 0
                  · rw [hnu0] at d1
                    have HU0 : Hid (s4.under = []) := Hid.mk (List.length_eq_zero_iff.1 (by have := HNU.out; omega))
                    clear hnu0
                    go_wp2_with fail
                    refine CD.out.mono ?_
                    rintro e wq ⟨rfl, hw⟩
                    rw [hw]
                    clear hw
                    go_wp2_with fail
                    refine (CT.out _).mono ?_
                    rintro e w5 ⟨rfl, hb5, s5, hW5, hL5, hk5, hM5, hE5, hS5⟩
                    have CC3 : Hid (∀ z, Calls Try.prog 9 #[.pointer (some ⟨wb, 0, none⟩), .int .i64 z, .int .i64 0] w5 (LEnd w.heap.size w5 wb s5 (s5.under ≠ []))) := Hid.mk (fun z => CC2.out s5 w5 z hW5 hL5 hM5)
                    have HK5 := Hid.mk hk5
                    have HB5 : Hid (Below w.heap.size w w5) := Hid.mk (HB4.out.trans hb5)
                    have HLT : Hid (s5.M < s4.M) := Hid.mk (hE5 (fun h => HNE.out ⟨HU0.out, h⟩))
                    clear hW5 hL5 hk5 hM5 hE5 hS5 hb5 d1 e1 e2 g5
                    go_wp2_with fail
                    refine (CC3.out _).mono ?_
                    rintro e w6 ⟨rfl, hb6, s6, hW6, hL6, hk6', hM6, hE6, hS6⟩
                    have HF : Hid ((∃ s, WOk w.heap.size w6 wb s ∧ Last s ∧ s.k = k ∧ s.M + (p + 1) ≤ 401) ∧ Below w.heap.size w w6) := Hid.mk (by
                      refine ⟨⟨s6, hW6, hL6, by rw [hk6', HK5.out, HK4.out], ?_⟩, HB5.out.trans hb6⟩
                      have h1 := HM4.out
                      have h2 := HLT.out
                      omega)
                    clear hW6 hL6 hk6' hM6 hE6 hS6 hb6
                    have hp2 : p + 1 ≤ 401 := by obtain ⟨⟨s6, _, _, _, h6⟩, _⟩ := HF.out; omega
                    go_wp2
                    go_roundw
                    case rel => exact ⟨p + 1, hp2, by go_num, HF.out.1, HF.out.2⟩
                    case measure => simp [intOf]; omega
                  · have hnuI : ¬ (nu : Int) = 0 := by omega
                    have hnuB : ((nu : Int) == 0) = false := beq_eq_false_iff_ne.2 hnuI
                    have HUN : Hid (s4.under ≠ []) := Hid.mk (fun h => hnu0 (by rw [HNU.out, h]; rfl))
                    clear hnu0
                    go_wp2_with fail
                    refine CD.out.mono ?_
                    rintro e wq ⟨rfl, hw⟩
                    rw [hw]
                    clear hw
                    go_wp2_with fail
                    refine (CC.out _).mono ?_
                    rintro e w6 ⟨rfl, hb6, s6, hW6, hL6, hk6', hM6, hE6, hS6⟩
                    have HF : Hid ((∃ s, WOk w.heap.size w6 wb s ∧ Last s ∧ s.k = k ∧ s.M + (p + 1) ≤ 401) ∧ Below w.heap.size w w6) := Hid.mk (by
                      refine ⟨⟨s6, hW6, hL6, by rw [hk6', HK4.out], ?_⟩, HB4.out.trans hb6⟩
                      have h1 := HM4.out
                      have h2 := hE6 HUN.out
                      omega)
                    clear hW6 hL6 hk6' hM6 hE6 hS6 hb6
                    have hp2 : p + 1 ≤ 401 := by obtain ⟨⟨s6, _, _, _, h6⟩, _⟩ := HF.out; omega
                    go_wp2
                    go_roundw
                    case rel => exact ⟨p + 1, hp2, by go_num, HF.out.1, HF.out.2⟩
                    case measure => simp [intOf]; omega
    · have hltI : ¬ (i : Int) < (n : Int) := by omega
      obtain ⟨wy, hwy⟩ : ∃ wy, wy = wx := ⟨_, rfl⟩
      subst hwy
      go_wp2_with fail
      go_loopw [11] (fun c wr => ∃ j : Nat, j ≤ k ∧ c = .int .i64 (j : Int) ∧ (∃ s, WOk w.heap.size wr wb s ∧ CutS s k j) ∧ Below w.heap.size w wr) (fun c _ => k - (intOf c).toNat)
      case atStart => exact ⟨0, by omega, rfl, ⟨_, HW.out, HR.out.cut (by omega)⟩, HB.out⟩
      case round =>
        obtain ⟨j, hjk, rfl, ⟨s3, hW3, hC3⟩, hbel3⟩ := hrel
        obtain ⟨wu, hwu⟩ : ∃ wu, wu = wr := ⟨_, rfl⟩
        subst hwu
        have HC3 := Hid.mk hC3
        have HB3 := Hid.mk hbel3
        have HW3 := Hid.mk hW3
        clear hC3 hbel3 hW3 g4
        by_cases hjlt : j < k
        · have hjI : (j : Int) < (k : Int) := by omega
          obtain ⟨vn3, vu3, vt3, vw3, bs3, hA3⟩ := HW3.out
          obtain ⟨gn, cn, gw, cw, rfl, rfl, hrn3, hrw3⟩ := hA3.reads HC3.out.inv.k1
          obtain ⟨d0, d1, d2, d3, _, _⟩ := hA3.cells
          obtain ⟨e0, e1⟩ := hrw3 j (by rw [HC3.out.kk]; exact hjlt)
          rw [HC3.out.kk] at d3
          obtain ⟨WZ, hWZ⟩ : ∃ W, W = wu.setCell ⟨gw, j, none⟩ (.int .i64 0) := ⟨_, rfl⟩
          have HZ : Hid (WOk w.heap.size WZ wb (s3.cut j) ∧ Below w.heap.size w WZ) := Hid.mk (by
            have hh := hA3.work_ rfl j 0
            rw [hWZ]
            exact ⟨hh.1.ok, HB3.out.trans hh.2⟩)
          have CR := Hid.mk (rests_any HZ.out.1 (HC3.out.next hjlt).2 (i := j) (by show j < s3.k; rw [HC3.out.kk]; exact hjlt))
          have HNX := Hid.mk (HC3.out.next hjlt).1
          clear hA3 hrn3 hrw3 d0 d1 d2
          have HWZ := Hid.mk hWZ
          clear hWZ
          go_wp2_with fail
          rw [← HWZ.out]
          refine CR.out.mono ?_
          rintro e w4 ⟨rfl, h4, b4⟩
          have HF : Hid (WOk w.heap.size w4 wb ((s3.cut j).rests j) ∧ Below w.heap.size w w4) := Hid.mk ⟨h4, HZ.out.2.trans b4⟩
          clear h4 b4
          go_wp2
          go_roundw
          case rel => exact ⟨j + 1, by omega, by go_num, ⟨_, HF.out.1, HNX.out⟩, HF.out.2⟩
          case measure => simp [intOf]; omega
        · have hjI : ¬ (j : Int) < (k : Int) := by omega
          obtain ⟨jk, hjk2⟩ : ∃ jk, jk = k := ⟨_, rfl⟩
          have HL : Hid (Last s3 ∧ s3.k = k ∧ s3.M ≤ 401) := Hid.mk (by
            have h := HC3.out
            rw [show j = k by omega] at h
            exact ⟨h.last, h.kk, h.m⟩)
          clear hjk2 jk
          go_wp2_with fail
          go_loopw [12] (fun c wr => ∃ p : Nat, p ≤ 401 ∧ c = .int .i64 (p : Int) ∧ (∃ s, WOk w.heap.size wr wb s ∧ Last s ∧ s.k = k ∧ s.M + p ≤ 401) ∧ Below w.heap.size w wr) (fun c _ => 402 - (intOf c).toNat)
          case atStart => exact ⟨0, by omega, rfl, ⟨_, HW3.out, HL.out.1, HL.out.2.1, HL.out.2.2⟩, HB3.out⟩
          case round =>
            obtain ⟨p, hp401, rfl, ⟨s4, hW4, hL4, hk4, hM4⟩, hbel4⟩ := hrel
            obtain ⟨wv, hwv⟩ : ∃ wv, wv = wr := ⟨_, rfl⟩
            subst hwv
            have HW4 := Hid.mk hW4
            have HL4 := Hid.mk hL4
            have HK4 := Hid.mk hk4
            have HB4 := Hid.mk hbel4
            have HM4 := Hid.mk hM4
            obtain ⟨vn4, vu4, vt4, vw4, bs4, hA4⟩ := HW4.out
            obtain ⟨gn, cn, hvn, e1, e2, hN⟩ := hA4.first HL4.out.inv.k1
            obtain ⟨ua, uc, hvu⟩ := own_slice hA4.ou
            obtain ⟨d0, d1, d2, d3, _, _⟩ := hA4.cells
            rw [hvu] at d1
            rw [hk4] at e1
            have g5 := (five_cells hA4.blk).1.2.2.2.2
            have CD := Hid.mk (done_any hN)
            have hkP : (0 : Int) < (k : Int) := by omega
            have hpI : (p : Int) < 3000 := by omega
            clear hA4 hN hW4 hL4 hk4 hbel4 hM4 hvn hvu d0 d2 d3
            cases hws : (s4.nd 0).works with
            | false =>
              rw [hws] at CD
              have CQ := Hid.mk (quiet_any HW4.out HL4.out.inv.k1 HL4.out.inv.k6 (HL4.out.inv.done hws))
              clear hws
              go_wp2_with fail
              refine CD.out.mono ?_
              rintro e wq ⟨rfl, hw⟩
              rw [hw]
              clear hw
              go_wp2_with fail
              refine CD.out.mono ?_
              rintro e wq ⟨rfl, hw⟩
              rw [hw]
              clear hw
              go_wp2_with fail
              refine CQ.out.mono ?_
              rintro e wq ⟨rfl, hw⟩
              rw [hw]
              clear hw
              go_wp2_with fail
              refine (CAW.out wv).mono ?_
              rintro e w5 ⟨rfl, hb5⟩
              have HB5 : Hid (Below w.heap.size w w5) := Hid.mk (HB4.out.trans (hb5.mono HB4.out.size))
              clear hb5
              go_wp2
              go_ret
              exact ⟨rfl, HB5.out⟩
            | true =>
              rw [hws] at CD
              have HNE : Hid (¬ (s4.under = [] ∧ s4.tells = [])) := Hid.mk (fun h => by have := HL4.out.end_ h.1 h.2; rw [hws] at this; cases this)
              clear hws
              obtain ⟨qq, hqq, hqq2⟩ := mask31 p
              have CT : Hid (∀ z, Calls Try.prog 10 #[.pointer (some ⟨wb, 0, none⟩), .int .i64 z] wv (LEnd w.heap.size wv wb s4 (s4.tells ≠ []))) := Hid.mk (fun z => last_told HW4.out HL4.out (by have := HM4.out; omega) z)
              have CC : Hid (∀ z, Calls Try.prog 9 #[.pointer (some ⟨wb, 0, none⟩), .int .i64 z, .int .i64 0] wv (LEnd w.heap.size wv wb s4 (s4.under ≠ []))) := Hid.mk (fun z => last_comes HW4.out HL4.out (by have := HM4.out; omega) z)
              have CC2 : Hid (∀ (s5 : Wd) (w5 : World) z, WOk w.heap.size w5 wb s5 → Last s5 → s5.M ≤ s4.M → Calls Try.prog 9 #[.pointer (some ⟨wb, 0, none⟩), .int .i64 z, .int .i64 0] w5 (LEnd w.heap.size w5 wb s5 (s5.under ≠ []))) := Hid.mk (fun s5 w5 z h1 h2 h3 => last_comes h1 h2 (by have := HM4.out; omega) z)
              obtain ⟨nu, hnu⟩ : ∃ nu, nu = s4.under.length := ⟨_, rfl⟩
              rw [← hnu] at d1
              have HNU := Hid.mk hnu
              clear hnu
              by_cases hev : p % 2 = 0
              · have hpe : ((p : Int)).tmod 2 = 0 := by rw [Int.tmod_eq_emod_of_nonneg (by omega)]; omega
                clear hev
                go_wp2_with fail
                refine CD.out.mono ?_
                rintro e wq ⟨rfl, hw⟩
                rw [hw]
                clear hw
                go_wp2_with fail
                refine (CT.out _).mono ?_
                rintro e w5 ⟨rfl, hb5, s5, hW5, hL5, hk5, hM5, hE5, hS5⟩
                have HW5 := Hid.mk hW5
                have HL5 := Hid.mk hL5
                have HB5 : Hid (Below w.heap.size w w5) := Hid.mk (HB4.out.trans hb5)
                obtain ⟨vn5, vu5, vt5, vw5, bs5, hA5⟩ := HW5.out
                obtain ⟨ta, tc, hvt⟩ := own_slice hA5.ot
                obtain ⟨_, _, x2, _, _, _⟩ := hA5.cells
                rw [hvt] at x2
                obtain ⟨nt, hnt⟩ : ∃ nt, nt = s5.tells.length := ⟨_, rfl⟩
                rw [← hnt] at x2
                have CC3 : Hid (∀ z, Calls Try.prog 9 #[.pointer (some ⟨wb, 0, none⟩), .int .i64 z, .int .i64 0] w5 (LEnd w.heap.size w5 wb s5 (s5.under ≠ []))) := Hid.mk (fun z => CC2.out s5 w5 z HW5.out HL5.out hM5)
                have HNT := Hid.mk hnt
                have HM5 := Hid.mk hM5
                have HE5 := Hid.mk hE5
                have HS5 := Hid.mk hS5
                have HK5 := Hid.mk hk5
                clear hW5 hL5 hk5 hM5 hE5 hS5 hb5 hA5 hvt hnt d1 e1 e2 g5
                by_cases hnt0 : nt = 0
                · rw [hnt0] at x2
                  have HNT0 := Hid.mk hnt0
                  clear hnt0
                  go_wp2_with fail
                  refine (CC3.out _).mono ?_
                  rintro e w6 ⟨rfl, hb6, s6, hW6, hL6, hk6', hM6, hE6, hS6⟩
                  have HF : Hid ((∃ s, WOk w.heap.size w6 wb s ∧ Last s ∧ s.k = k ∧ s.M + (p + 1) ≤ 401) ∧ Below w.heap.size w w6) := Hid.mk (by
                    refine ⟨⟨s6, hW6, hL6, by rw [hk6', HK5.out, HK4.out], ?_⟩, HB5.out.trans hb6⟩
                    have h1 := HM4.out
                    have h2 := HM5.out
                    by_cases ht : s4.tells = []
                    · have e5 := HS5.out (fun h => h ht)
                      have hun : s5.under ≠ [] := fun h => HNE.out ⟨by rw [← e5]; exact h, ht⟩
                      have := hE6 hun
                      omega
                    · have := HE5.out ht
                      omega)
                  clear hW6 hL6 hk6' hM6 hE6 hS6 hb6
                  have hp2 : p + 1 ≤ 401 := by obtain ⟨⟨s6, _, _, _, h6⟩, _⟩ := HF.out; omega
                  go_wp2
                  go_roundw
                  case rel => exact ⟨p + 1, hp2, by go_num, HF.out.1, HF.out.2⟩
                  case measure => simp [intOf]; omega
                · have hntI : ¬ (nt : Int) = 0 := by omega
                  have hntB : ((nt : Int) == 0) = false := beq_eq_false_iff_ne.2 hntI
                  have HF : Hid ((∃ s, WOk w.heap.size w5 wb s ∧ Last s ∧ s.k = k ∧ s.M + (p + 1) ≤ 401) ∧ Below w.heap.size w w5) := Hid.mk (by
                    refine ⟨⟨s5, HW5.out, HL5.out, by rw [HK5.out, HK4.out], ?_⟩, HB5.out⟩
                    have h1 := HM4.out
                    by_cases ht : s4.tells = []
                    · have e5 := HS5.out (fun h => h ht)
                      have h3 := HNT.out
                      rw [e5, ht] at h3
                      exact absurd h3 hnt0
                    · have := HE5.out ht
                      omega)
                  have hp2 : p + 1 ≤ 401 := by obtain ⟨⟨s6, _, _, _, h6⟩, _⟩ := HF.out; omega
                  clear hnt0
                  go_wp2
                  go_roundw
                  case rel => exact ⟨p + 1, hp2, by go_num, HF.out.1, HF.out.2⟩
                  case measure => simp [intOf]; omega
              · have hpe : ((p : Int)).tmod 2 = 1 := by rw [Int.tmod_eq_emod_of_nonneg (by omega)]; omega
                clear hev
                by_cases hnu0 : nu = 0
                · rw [hnu0] at d1
                  have HU0 : Hid (s4.under = []) := Hid.mk (List.length_eq_zero_iff.1 (by have := HNU.out; omega))
                  clear hnu0
                  go_wp2_with fail
                  refine CD.out.mono ?_
                  rintro e wq ⟨rfl, hw⟩
                  rw [hw]
                  clear hw
                  go_wp2_with fail
                  refine (CT.out _).mono ?_
                  rintro e w5 ⟨rfl, hb5, s5, hW5, hL5, hk5, hM5, hE5, hS5⟩
                  have CC3 : Hid (∀ z, Calls Try.prog 9 #[.pointer (some ⟨wb, 0, none⟩), .int .i64 z, .int .i64 0] w5 (LEnd w.heap.size w5 wb s5 (s5.under ≠ []))) := Hid.mk (fun z => CC2.out s5 w5 z hW5 hL5 hM5)
                  have HK5 := Hid.mk hk5
                  have HB5 : Hid (Below w.heap.size w w5) := Hid.mk (HB4.out.trans hb5)
                  have HLT : Hid (s5.M < s4.M) := Hid.mk (hE5 (fun h => HNE.out ⟨HU0.out, h⟩))
                  clear hW5 hL5 hk5 hM5 hE5 hS5 hb5 d1 e1 e2 g5
                  go_wp2_with fail
                  refine (CC3.out _).mono ?_
                  rintro e w6 ⟨rfl, hb6, s6, hW6, hL6, hk6', hM6, hE6, hS6⟩
                  have HF : Hid ((∃ s, WOk w.heap.size w6 wb s ∧ Last s ∧ s.k = k ∧ s.M + (p + 1) ≤ 401) ∧ Below w.heap.size w w6) := Hid.mk (by
                    refine ⟨⟨s6, hW6, hL6, by rw [hk6', HK5.out, HK4.out], ?_⟩, HB5.out.trans hb6⟩
                    have h1 := HM4.out
                    have h2 := HLT.out
                    omega)
                  clear hW6 hL6 hk6' hM6 hE6 hS6 hb6
                  have hp2 : p + 1 ≤ 401 := by obtain ⟨⟨s6, _, _, _, h6⟩, _⟩ := HF.out; omega
                  go_wp2
                  go_roundw
                  case rel => exact ⟨p + 1, hp2, by go_num, HF.out.1, HF.out.2⟩
                  case measure => simp [intOf]; omega
                · have hnuI : ¬ (nu : Int) = 0 := by omega
                  have hnuB : ((nu : Int) == 0) = false := beq_eq_false_iff_ne.2 hnuI
                  have HUN : Hid (s4.under ≠ []) := Hid.mk (fun h => hnu0 (by rw [HNU.out, h]; rfl))
                  clear hnu0
                  go_wp2_with fail
                  refine CD.out.mono ?_
                  rintro e wq ⟨rfl, hw⟩
                  rw [hw]
                  clear hw
                  go_wp2_with fail
                  refine (CC.out _).mono ?_
                  rintro e w6 ⟨rfl, hb6, s6, hW6, hL6, hk6', hM6, hE6, hS6⟩
                  have HF : Hid ((∃ s, WOk w.heap.size w6 wb s ∧ Last s ∧ s.k = k ∧ s.M + (p + 1) ≤ 401) ∧ Below w.heap.size w w6) := Hid.mk (by
                    refine ⟨⟨s6, hW6, hL6, by rw [hk6', HK4.out], ?_⟩, HB4.out.trans hb6⟩
                    have h1 := HM4.out
                    have h2 := hE6 HUN.out
                    omega)
                  clear hW6 hL6 hk6' hM6 hE6 hS6 hb6
                  have hp2 : p + 1 ≤ 401 := by obtain ⟨⟨s6, _, _, _, h6⟩, _⟩ := HF.out; omega
                  go_wp2
                  go_roundw
                  case rel => exact ⟨p + 1, hp2, by go_num, HF.out.1, HF.out.2⟩
                  case measure => simp [intOf]; omega
end Go.Proofs.Ytdbnbgpbbfckfaa
