/- All that nodes owe is what is under way, and one for each node but the root that is at work. -/
import Derived.Test.YtdbnbgpbbfckfaaKScr
import Derived.Deep.RegionHeld3
namespace Go.Proofs.Ytdbnbgpbbfckfaa
open Go.RowKit

theorem wk_le (nd : Nat → Nd) : ∀ j, sumF (wk1 nd) j ≤ j
  | 0 => Nat.le_refl _
  | j + 1 => by
    have : wk1 nd j ≤ 1 := by unfold wk1; split <;> omega
    have := wk_le nd j
    rw [sumF]; omega
theorem sum_le {f : Nat → Nat} {n : Nat} : ∀ {j : Nat}, (∀ i, i < j → f i ≤ n) → sumF f j ≤ j * n
  | 0, _ => Nat.zero_le _
  | j + 1, h => by
    have h1 := h j (by omega)
    have h2 := sum_le (f := f) (n := n) (j := j) (fun i hi => h i (by omega))
    rw [sumF, Nat.succ_mul]; omega
set_option maxRecDepth 100000 in
set_option maxHeartbeats 16000000 in
theorem quietOwes_walk (z : Int) (v2 : Value) (zs : List Int) (w : World) (_ : (Lit.int .i64 z).wf = true) (h2 : IntZ (fun _ => True) w v2 zs) (h2c : zs.length ≤ 9223372036854775807 ∧ CapS v2 zs.length) :
    Calls Try.prog 6 #[.int .i64 z, v2] w fun e w' => e = .returned (.bool true) ∧ Below w.heap.size w w' := by
  obtain ⟨a2, c2, rfl⟩ := h2.slice
  have H2 := Hid.mk h2
  obtain ⟨n, hn⟩ : ∃ n, n = zs.length := ⟨_, rfl⟩
  have hnl := h2c.1
  rw [← hn] at H2 hnl ⊢
  have HN := Hid.mk hn
  obtain ⟨kk, hkk, hk5⟩ := k_any z
  obtain ⟨_, _, _, hm0, hm1⟩ := pick_any z 6 (by decide)
  obtain ⟨k, hk⟩ : ∃ k : Nat, k = 1 + kk := ⟨_, rfl⟩
  have hkI : (1 : Int) + (kk : Int) = (k : Int) := by omega
  have CB := Hid.mk (begun_any k 4 w (by omega) (by omega))
  have CAW := Hid.mk (fun w => awake_any w)
  have hk1 : 1 ≤ k := by omega
  have hk6 : k ≤ 6 := by omega
  have hk0N : ¬ k = 0 := by omega
  have hk0 : ¬ (k : Int) = 0 := by omega
  have hk0B : ((k : Int) == 0) = false := beq_eq_false_iff_ne.2 hk0
  have hk6I : (k : Int) ≤ 6 := by omega
  clear h2 hn h2c hk
  go_enter Try.func6, Try.ntmps6
  go_wp2_with fail
  refine CB.out.mono ?_
  rintro e w1 ⟨⟨wb, rfl, hW1⟩, hb1⟩
  have HW1 := Hid.mk hW1
  have HB1 := Hid.mk hb1
  clear hW1 hb1
  go_wp2_with fail
  go_loopw [7] (fun c wr => ∃ i : Nat, i ≤ 200 ∧ i ≤ n ∧ c = .int .i64 (i : Int) ∧ (∃ s, WOk w.heap.size wr wb s ∧ RunS s k i) ∧ Below w.heap.size w wr) (fun c _ => 200 - (intOf c).toNat)
  case atStart => exact ⟨0, by omega, by omega, rfl, ⟨_, HW1.out, begW_run hk1 hk6 (by decide)⟩, HB1.out⟩
  case round =>
    obtain ⟨i, hi3, hin, rfl, ⟨s, hW, hR⟩, hbel⟩ := hrel
    obtain ⟨wx, hwx⟩ : ∃ wx, wx = wr := ⟨_, rfl⟩
    subst hwx
    have HW := Hid.mk hW
    obtain ⟨vn, vu, vt, vw, bs, hA⟩ := hW
    have HR := Hid.mk hR
    have HB := Hid.mk hbel
    have g4 := (five_cells hA.blk).1.2.2.2.2
    clear hA hR hbel
    by_cases hlt : i < n
    · have hltI : (i : Int) < (n : Int) := by omega
      by_cases hlt3 : i < 200
      · have hlt3I : (i : Int) < 200 := by omega
        obtain ⟨zz, hzz⟩ : ∃ zz, zs[i]? = some zz := ⟨_, List.getElem?_eq_getElem (by rw [← HN.out]; exact hlt)⟩
        obtain ⟨g, o, rfl, _, _, hc⟩ := (H2.out.below HB.out).get hzz
        have p0 := getZ hc
        rw [Nat.mul_one] at p0
        clear hc hzz
        obtain ⟨x, hx, hx6⟩ := mask_nat zz
        obtain ⟨q, hq, hq3⟩ := mask3 x
        obtain ⟨ra, hra, hra2⟩ := rem_any x k 4 (by decide) hk1
        obtain ⟨rb, hrb, hrb2⟩ := rem_any x k 32 (by decide) hk1
        obtain ⟨mo, hmo, hmo2⟩ := more_any3 x
        have hraI : (ra : Int) < 6 := by omega
        have hrbI : (rb : Int) < 6 := by omega
        have hxa : 0 ≤ (x : Int) / 4 ∧ (x : Int) / 4 ≤ 65535 := by omega
        have hxb : 0 ≤ (x : Int) / 32 ∧ (x : Int) / 32 ≤ 65535 := by omega
        obtain ⟨hxa1, hxa2⟩ := hxa
        obtain ⟨hxb1, hxb2⟩ := hxb
        rcases (show q = 0 ∨ q = 1 ∨ q = 2 ∨ q = 3 by omega) with rfl | rfl | rfl | rfl
        · skip
          have CS : Hid (Calls Try.prog 8 #[.pointer (some ⟨wb, 0, none⟩), .int .i64 (ra : Int), .int .i64 (rb : Int)] wx.drew fun e w' => e = .returned (.tuple #[]) ∧ Below w.heap.size wx.drew w' ∧ ∃ s', WOk w.heap.size w' wb s' ∧ RunS s' k (i + 1)) := Hid.mk (run_sends (by obtain ⟨a, b, c, d, e, f⟩ := HW.out; exact f.drew.ok) HR.out (by omega) hra2 hrb2)
          go_wp2_with fail
          go_region_held3 (fun _ => True) (trivial) (first | (go_at_call 8; with_reducible refine CS.out.mono ?_; rintro e w2 ⟨rfl, hb2, s2, hW2, hR2⟩))
          replace hb2 : Below w.heap.size wx w2 := (Below.refl _ _).drew.trans hb2
          have HB2 : Hid (Below w.heap.size w w2) := Hid.mk (HB.out.trans hb2)
          have HW2 := Hid.mk hW2
          have HR2 := Hid.mk hR2
          clear hb2 hW2 hR2 g4
          obtain ⟨vn2, vu2, vt2, vw2, bs2, hA2⟩ := HW2.out
          obtain ⟨gn, cn, gw2, cw2, rfl, rfl, hrn2, hrw2⟩ := hA2.reads HR2.out.inv.k1
          obtain ⟨ua2, uc2, rfl⟩ := own_slice hA2.ou
          obtain ⟨ta2, tc2, rfl⟩ := own_slice hA2.ot
          obtain ⟨d0, d1, d2, d3, _, _⟩ := hA2.cells
          have g5 := (five_cells hA2.blk).1.2.2.2.2
          have hT := HR2.out.inv.tot
          have hbd : ∀ j, j < k → (s2.nd j).owes ≤ 10000 := fun j hj => by have := HR2.out.inv.bound (i := j) (by rw [HR2.out.kk]; exact hj); have := HR2.out.m; omega
          have hun2 : s2.under.length ≤ 10000 := by have h1 : s2.under.length ≤ s2.M := by (unfold Wd.M; omega)
                                                    have := HR2.out.m; omega
          have hte2 : s2.tells.length ≤ 10000 := by have h1 : s2.tells.length ≤ s2.M := by (unfold Wd.M; omega)
                                                    have := HR2.out.m; omega
          have HRN := Hid.mk hrn2
          have HND := Hid.mk hA2.nd
          rw [HR2.out.kk] at d0 hT HRN HND
          obtain ⟨nu, hnu⟩ : ∃ nu, nu = s2.under.length := ⟨_, rfl⟩
          obtain ⟨nt, hnt⟩ : ∃ nt, nt = s2.tells.length := ⟨_, rfl⟩
          rw [← hnu] at d1 hT hun2
          rw [← hnt] at d2 hT hte2
          have HTOT := Hid.mk hT
          have HBD := Hid.mk hbd
          clear hA2 hrn2 hrw2 hT hbd hnu hnt d3
          go_wp2_with fail
          go_loopw [9, 10, 11] (fun a b c wr => ∃ j : Nat, j ≤ k ∧ c = .int .i64 (j : Int) ∧ a = .int .i64 ((sumF (fun i => (s2.nd i).owes) j : Nat) : Int) ∧ b = .int .i64 ((sumF (wk1 s2.nd) j : Nat) : Int) ∧ w2 = wr) (fun _ _ c _ => k - (intOf c).toNat)
          case atStart => exact ⟨0, by omega, rfl, rfl, rfl, rfl⟩
          case round =>
            obtain ⟨j, hjk, rfl, rfl, rfl, rfl⟩ := hrel
            have HSO : Hid (sumF (fun i => (s2.nd i).owes) (j + 1) = sumF (fun i => (s2.nd i).owes) j + (s2.nd j).owes) := Hid.mk rfl
            have HSW : Hid (sumF (wk1 s2.nd) (j + 1) = sumF (wk1 s2.nd) j + wk1 s2.nd j) := Hid.mk rfl
            have hw6 : sumF (wk1 s2.nd) j ≤ j := wk_le _ _
            have ho6 : sumF (fun i => (s2.nd i).owes) j ≤ j * 10000 := sum_le (fun i hi => HBD.out i (by omega))
            obtain ⟨so, hso⟩ : ∃ so, so = sumF (fun i => (s2.nd i).owes) j := ⟨_, rfl⟩
            obtain ⟨sw, hsw⟩ : ∃ sw, sw = sumF (wk1 s2.nd) j := ⟨_, rfl⟩
            rw [← hso] at HSO ho6 ⊢
            rw [← hsw] at HSW hw6 ⊢
            have HSO2 := Hid.mk hso
            have HSW2 := Hid.mk hsw
            clear hso hsw
            have hso1 : so ≤ 60000 := by have : j * 10000 ≤ 6 * 10000 := Nat.mul_le_mul_right _ (by omega)
                                         omega
            have hsw1 : sw ≤ 6 := by omega
            by_cases hjlt : j < k
            · have hjI : (j : Int) < (k : Int) := by omega
              have n1 := HRN.out j hjlt
              have CO := Hid.mk (owes_any (HND.out j hjlt).1)
              have CW := Hid.mk (works_any (HND.out j hjlt).1)
              have hoj := HBD.out j hjlt
              obtain ⟨oj, hoj2⟩ : ∃ oj, oj = (s2.nd j).owes := ⟨_, rfl⟩
              rw [← hoj2] at CO HSO hoj
              clear hoj2
              by_cases hj0 : j = 0
              · have hw0 : wk1 s2.nd j = 0 := by rw [hj0]; rfl
                rw [hw0] at HSW
                have hjp : ¬ (0 : Int) < (j : Int) := by omega
                clear hw0 hj0
                go_wp2_with fail
                refine CO.out.mono ?_
                rintro e wq ⟨rfl, hw⟩
                rw [hw]
                clear hw
                go_wp2
                go_roundw
                case rel => exact ⟨j + 1, by omega, by go_num, by rw [HSO.out]; go_num, by rw [HSW.out, Nat.add_zero], by trivial⟩
                case measure => simp [intOf]; omega
              · have hjp : (0 : Int) < (j : Int) := by omega
                cases hws : (s2.nd j).works with
                | true =>
                  have hw0 : wk1 s2.nd j = 1 := if_pos ⟨by omega, hws⟩
                  rw [hw0] at HSW
                  rw [hws] at CW
                  clear hw0 hws
                  go_wp2_with fail
                  refine CO.out.mono ?_
                  rintro e wq ⟨rfl, hw⟩
                  rw [hw]
                  clear hw
                  go_wp2_with fail
                  refine CW.out.mono ?_
                  rintro e wq ⟨rfl, hw⟩
                  rw [hw]
                  clear hw
                  go_wp2
                  go_roundw
                  case rel => exact ⟨j + 1, by omega, by go_num, by rw [HSO.out]; go_num, by rw [HSW.out]; go_num, by trivial⟩
                  case measure => simp [intOf]; omega
                | false =>
                  have hw0 : wk1 s2.nd j = 0 := if_neg (fun h => by rw [hws] at h; cases h.2)
                  rw [hw0] at HSW
                  rw [hws] at CW
                  clear hw0 hws
                  go_wp2_with fail
                  refine CO.out.mono ?_
                  rintro e wq ⟨rfl, hw⟩
                  rw [hw]
                  clear hw
                  go_wp2_with fail
                  refine CW.out.mono ?_
                  rintro e wq ⟨rfl, hw⟩
                  rw [hw]
                  clear hw
                  go_wp2
                  go_roundw
                  case rel => exact ⟨j + 1, by omega, by go_num, by rw [HSO.out]; go_num, by rw [HSW.out, Nat.add_zero], by trivial⟩
                  case measure => simp [intOf]; omega
            · have hjI : ¬ (j : Int) < (k : Int) := by omega
              have hEQ : (so : Int) = (nu : Int) + (nt : Int) + (sw : Int) := by
                have := HTOT.out
                have hjk : j = k := by omega
                rw [← hjk, ← HSO2.out, ← HSW2.out] at this
                omega
              have hNE : ((so : Int) != (nu : Int) + (nt : Int) + (sw : Int)) = false := by rw [hEQ]; simp
              have HB2D : Hid (Below w.heap.size w w2.drew) := Hid.mk HB2.out.drew
              have HW2D : Hid (∃ s, WOk w.heap.size w2.drew wb s ∧ RunS s k (i + 1)) := Hid.mk (by obtain ⟨a, b, c, d, e, f⟩ := HW2.out; exact ⟨_, f.drew.ok, HR2.out⟩)
              go_wp2_with fail
              go_region
              go_wp2
              go_roundw
              case rel => exact ⟨i + 1, by omega, by omega, by go_num, HW2D.out, HB2D.out⟩
              case measure => simp [intOf]; omega
        · have CS := Hid.mk (run_comes HW.out HR.out (by omega) ((x : Int) / 4) mo hmo2)
          go_wp2_with fail
          refine CS.out.mono ?_
          rintro e w2 ⟨rfl, hb2, s2, hW2, hR2⟩
          have HB2 : Hid (Below w.heap.size w w2) := Hid.mk (HB.out.trans hb2)
          have HW2 := Hid.mk hW2
          have HR2 := Hid.mk hR2
          clear hb2 hW2 hR2 g4
          obtain ⟨vn2, vu2, vt2, vw2, bs2, hA2⟩ := HW2.out
          obtain ⟨gn, cn, gw2, cw2, rfl, rfl, hrn2, hrw2⟩ := hA2.reads HR2.out.inv.k1
          obtain ⟨ua2, uc2, rfl⟩ := own_slice hA2.ou
          obtain ⟨ta2, tc2, rfl⟩ := own_slice hA2.ot
          obtain ⟨d0, d1, d2, d3, _, _⟩ := hA2.cells
          have g5 := (five_cells hA2.blk).1.2.2.2.2
          have hT := HR2.out.inv.tot
          have hbd : ∀ j, j < k → (s2.nd j).owes ≤ 10000 := fun j hj => by have := HR2.out.inv.bound (i := j) (by rw [HR2.out.kk]; exact hj); have := HR2.out.m; omega
          have hun2 : s2.under.length ≤ 10000 := by have h1 : s2.under.length ≤ s2.M := by (unfold Wd.M; omega)
                                                    have := HR2.out.m; omega
          have hte2 : s2.tells.length ≤ 10000 := by have h1 : s2.tells.length ≤ s2.M := by (unfold Wd.M; omega)
                                                    have := HR2.out.m; omega
          have HRN := Hid.mk hrn2
          have HND := Hid.mk hA2.nd
          rw [HR2.out.kk] at d0 hT HRN HND
          obtain ⟨nu, hnu⟩ : ∃ nu, nu = s2.under.length := ⟨_, rfl⟩
          obtain ⟨nt, hnt⟩ : ∃ nt, nt = s2.tells.length := ⟨_, rfl⟩
          rw [← hnu] at d1 hT hun2
          rw [← hnt] at d2 hT hte2
          have HTOT := Hid.mk hT
          have HBD := Hid.mk hbd
          clear hA2 hrn2 hrw2 hT hbd hnu hnt d3
          go_wp2_with fail
          go_loopw [9, 10, 11] (fun a b c wr => ∃ j : Nat, j ≤ k ∧ c = .int .i64 (j : Int) ∧ a = .int .i64 ((sumF (fun i => (s2.nd i).owes) j : Nat) : Int) ∧ b = .int .i64 ((sumF (wk1 s2.nd) j : Nat) : Int) ∧ w2 = wr) (fun _ _ c _ => k - (intOf c).toNat)
          case atStart => exact ⟨0, by omega, rfl, rfl, rfl, rfl⟩
          case round =>
            obtain ⟨j, hjk, rfl, rfl, rfl, rfl⟩ := hrel
            have HSO : Hid (sumF (fun i => (s2.nd i).owes) (j + 1) = sumF (fun i => (s2.nd i).owes) j + (s2.nd j).owes) := Hid.mk rfl
            have HSW : Hid (sumF (wk1 s2.nd) (j + 1) = sumF (wk1 s2.nd) j + wk1 s2.nd j) := Hid.mk rfl
            have hw6 : sumF (wk1 s2.nd) j ≤ j := wk_le _ _
            have ho6 : sumF (fun i => (s2.nd i).owes) j ≤ j * 10000 := sum_le (fun i hi => HBD.out i (by omega))
            obtain ⟨so, hso⟩ : ∃ so, so = sumF (fun i => (s2.nd i).owes) j := ⟨_, rfl⟩
            obtain ⟨sw, hsw⟩ : ∃ sw, sw = sumF (wk1 s2.nd) j := ⟨_, rfl⟩
            rw [← hso] at HSO ho6 ⊢
            rw [← hsw] at HSW hw6 ⊢
            have HSO2 := Hid.mk hso
            have HSW2 := Hid.mk hsw
            clear hso hsw
            have hso1 : so ≤ 60000 := by have : j * 10000 ≤ 6 * 10000 := Nat.mul_le_mul_right _ (by omega)
                                         omega
            have hsw1 : sw ≤ 6 := by omega
            by_cases hjlt : j < k
            · have hjI : (j : Int) < (k : Int) := by omega
              have n1 := HRN.out j hjlt
              have CO := Hid.mk (owes_any (HND.out j hjlt).1)
              have CW := Hid.mk (works_any (HND.out j hjlt).1)
              have hoj := HBD.out j hjlt
              obtain ⟨oj, hoj2⟩ : ∃ oj, oj = (s2.nd j).owes := ⟨_, rfl⟩
              rw [← hoj2] at CO HSO hoj
              clear hoj2
              by_cases hj0 : j = 0
              · have hw0 : wk1 s2.nd j = 0 := by rw [hj0]; rfl
                rw [hw0] at HSW
                have hjp : ¬ (0 : Int) < (j : Int) := by omega
                clear hw0 hj0
                go_wp2_with fail
                refine CO.out.mono ?_
                rintro e wq ⟨rfl, hw⟩
                rw [hw]
                clear hw
                go_wp2
                go_roundw
                case rel => exact ⟨j + 1, by omega, by go_num, by rw [HSO.out]; go_num, by rw [HSW.out, Nat.add_zero], by trivial⟩
                case measure => simp [intOf]; omega
              · have hjp : (0 : Int) < (j : Int) := by omega
                cases hws : (s2.nd j).works with
                | true =>
                  have hw0 : wk1 s2.nd j = 1 := if_pos ⟨by omega, hws⟩
                  rw [hw0] at HSW
                  rw [hws] at CW
                  clear hw0 hws
                  go_wp2_with fail
                  refine CO.out.mono ?_
                  rintro e wq ⟨rfl, hw⟩
                  rw [hw]
                  clear hw
                  go_wp2_with fail
                  refine CW.out.mono ?_
                  rintro e wq ⟨rfl, hw⟩
                  rw [hw]
                  clear hw
                  go_wp2
                  go_roundw
                  case rel => exact ⟨j + 1, by omega, by go_num, by rw [HSO.out]; go_num, by rw [HSW.out]; go_num, by trivial⟩
                  case measure => simp [intOf]; omega
                | false =>
                  have hw0 : wk1 s2.nd j = 0 := if_neg (fun h => by rw [hws] at h; cases h.2)
                  rw [hw0] at HSW
                  rw [hws] at CW
                  clear hw0 hws
                  go_wp2_with fail
                  refine CO.out.mono ?_
                  rintro e wq ⟨rfl, hw⟩
                  rw [hw]
                  clear hw
                  go_wp2_with fail
                  refine CW.out.mono ?_
                  rintro e wq ⟨rfl, hw⟩
                  rw [hw]
                  clear hw
                  go_wp2
                  go_roundw
                  case rel => exact ⟨j + 1, by omega, by go_num, by rw [HSO.out]; go_num, by rw [HSW.out, Nat.add_zero], by trivial⟩
                  case measure => simp [intOf]; omega
            · have hjI : ¬ (j : Int) < (k : Int) := by omega
              have hEQ : (so : Int) = (nu : Int) + (nt : Int) + (sw : Int) := by
                have := HTOT.out
                have hjk : j = k := by omega
                rw [← hjk, ← HSO2.out, ← HSW2.out] at this
                omega
              have hNE : ((so : Int) != (nu : Int) + (nt : Int) + (sw : Int)) = false := by rw [hEQ]; simp
              have HB2D : Hid (Below w.heap.size w w2.drew) := Hid.mk HB2.out.drew
              have HW2D : Hid (∃ s, WOk w.heap.size w2.drew wb s ∧ RunS s k (i + 1)) := Hid.mk (by obtain ⟨a, b, c, d, e, f⟩ := HW2.out; exact ⟨_, f.drew.ok, HR2.out⟩)
              go_wp2_with fail
              go_region
              go_wp2
              go_roundw
              case rel => exact ⟨i + 1, by omega, by omega, by go_num, HW2D.out, HB2D.out⟩
              case measure => simp [intOf]; omega
        · have CS := Hid.mk (run_told HW.out HR.out (by omega) ((x : Int) / 4))
          go_wp2_with fail
          refine CS.out.mono ?_
          rintro e w2 ⟨rfl, hb2, s2, hW2, hR2⟩
          have HB2 : Hid (Below w.heap.size w w2) := Hid.mk (HB.out.trans hb2)
          have HW2 := Hid.mk hW2
          have HR2 := Hid.mk hR2
          clear hb2 hW2 hR2 g4
          obtain ⟨vn2, vu2, vt2, vw2, bs2, hA2⟩ := HW2.out
          obtain ⟨gn, cn, gw2, cw2, rfl, rfl, hrn2, hrw2⟩ := hA2.reads HR2.out.inv.k1
          obtain ⟨ua2, uc2, rfl⟩ := own_slice hA2.ou
          obtain ⟨ta2, tc2, rfl⟩ := own_slice hA2.ot
          obtain ⟨d0, d1, d2, d3, _, _⟩ := hA2.cells
          have g5 := (five_cells hA2.blk).1.2.2.2.2
          have hT := HR2.out.inv.tot
          have hbd : ∀ j, j < k → (s2.nd j).owes ≤ 10000 := fun j hj => by have := HR2.out.inv.bound (i := j) (by rw [HR2.out.kk]; exact hj); have := HR2.out.m; omega
          have hun2 : s2.under.length ≤ 10000 := by have h1 : s2.under.length ≤ s2.M := by (unfold Wd.M; omega)
                                                    have := HR2.out.m; omega
          have hte2 : s2.tells.length ≤ 10000 := by have h1 : s2.tells.length ≤ s2.M := by (unfold Wd.M; omega)
                                                    have := HR2.out.m; omega
          have HRN := Hid.mk hrn2
          have HND := Hid.mk hA2.nd
          rw [HR2.out.kk] at d0 hT HRN HND
          obtain ⟨nu, hnu⟩ : ∃ nu, nu = s2.under.length := ⟨_, rfl⟩
          obtain ⟨nt, hnt⟩ : ∃ nt, nt = s2.tells.length := ⟨_, rfl⟩
          rw [← hnu] at d1 hT hun2
          rw [← hnt] at d2 hT hte2
          have HTOT := Hid.mk hT
          have HBD := Hid.mk hbd
          clear hA2 hrn2 hrw2 hT hbd hnu hnt d3
          go_wp2_with fail
          go_loopw [9, 10, 11] (fun a b c wr => ∃ j : Nat, j ≤ k ∧ c = .int .i64 (j : Int) ∧ a = .int .i64 ((sumF (fun i => (s2.nd i).owes) j : Nat) : Int) ∧ b = .int .i64 ((sumF (wk1 s2.nd) j : Nat) : Int) ∧ w2 = wr) (fun _ _ c _ => k - (intOf c).toNat)
          case atStart => exact ⟨0, by omega, rfl, rfl, rfl, rfl⟩
          case round =>
            obtain ⟨j, hjk, rfl, rfl, rfl, rfl⟩ := hrel
            have HSO : Hid (sumF (fun i => (s2.nd i).owes) (j + 1) = sumF (fun i => (s2.nd i).owes) j + (s2.nd j).owes) := Hid.mk rfl
            have HSW : Hid (sumF (wk1 s2.nd) (j + 1) = sumF (wk1 s2.nd) j + wk1 s2.nd j) := Hid.mk rfl
            have hw6 : sumF (wk1 s2.nd) j ≤ j := wk_le _ _
            have ho6 : sumF (fun i => (s2.nd i).owes) j ≤ j * 10000 := sum_le (fun i hi => HBD.out i (by omega))
            obtain ⟨so, hso⟩ : ∃ so, so = sumF (fun i => (s2.nd i).owes) j := ⟨_, rfl⟩
            obtain ⟨sw, hsw⟩ : ∃ sw, sw = sumF (wk1 s2.nd) j := ⟨_, rfl⟩
            rw [← hso] at HSO ho6 ⊢
            rw [← hsw] at HSW hw6 ⊢
            have HSO2 := Hid.mk hso
            have HSW2 := Hid.mk hsw
            clear hso hsw
            have hso1 : so ≤ 60000 := by have : j * 10000 ≤ 6 * 10000 := Nat.mul_le_mul_right _ (by omega)
                                         omega
            have hsw1 : sw ≤ 6 := by omega
            by_cases hjlt : j < k
            · have hjI : (j : Int) < (k : Int) := by omega
              have n1 := HRN.out j hjlt
              have CO := Hid.mk (owes_any (HND.out j hjlt).1)
              have CW := Hid.mk (works_any (HND.out j hjlt).1)
              have hoj := HBD.out j hjlt
              obtain ⟨oj, hoj2⟩ : ∃ oj, oj = (s2.nd j).owes := ⟨_, rfl⟩
              rw [← hoj2] at CO HSO hoj
              clear hoj2
              by_cases hj0 : j = 0
              · have hw0 : wk1 s2.nd j = 0 := by rw [hj0]; rfl
                rw [hw0] at HSW
                have hjp : ¬ (0 : Int) < (j : Int) := by omega
                clear hw0 hj0
                go_wp2_with fail
                refine CO.out.mono ?_
                rintro e wq ⟨rfl, hw⟩
                rw [hw]
                clear hw
                go_wp2
                go_roundw
                case rel => exact ⟨j + 1, by omega, by go_num, by rw [HSO.out]; go_num, by rw [HSW.out, Nat.add_zero], by trivial⟩
                case measure => simp [intOf]; omega
              · have hjp : (0 : Int) < (j : Int) := by omega
                cases hws : (s2.nd j).works with
                | true =>
                  have hw0 : wk1 s2.nd j = 1 := if_pos ⟨by omega, hws⟩
                  rw [hw0] at HSW
                  rw [hws] at CW
                  clear hw0 hws
                  go_wp2_with fail
                  refine CO.out.mono ?_
                  rintro e wq ⟨rfl, hw⟩
                  rw [hw]
                  clear hw
                  go_wp2_with fail
                  refine CW.out.mono ?_
                  rintro e wq ⟨rfl, hw⟩
                  rw [hw]
                  clear hw
                  go_wp2
                  go_roundw
                  case rel => exact ⟨j + 1, by omega, by go_num, by rw [HSO.out]; go_num, by rw [HSW.out]; go_num, by trivial⟩
                  case measure => simp [intOf]; omega
                | false =>
                  have hw0 : wk1 s2.nd j = 0 := if_neg (fun h => by rw [hws] at h; cases h.2)
                  rw [hw0] at HSW
                  rw [hws] at CW
                  clear hw0 hws
                  go_wp2_with fail
                  refine CO.out.mono ?_
                  rintro e wq ⟨rfl, hw⟩
                  rw [hw]
                  clear hw
                  go_wp2_with fail
                  refine CW.out.mono ?_
                  rintro e wq ⟨rfl, hw⟩
                  rw [hw]
                  clear hw
                  go_wp2
                  go_roundw
                  case rel => exact ⟨j + 1, by omega, by go_num, by rw [HSO.out]; go_num, by rw [HSW.out, Nat.add_zero], by trivial⟩
                  case measure => simp [intOf]; omega
            · have hjI : ¬ (j : Int) < (k : Int) := by omega
              have hEQ : (so : Int) = (nu : Int) + (nt : Int) + (sw : Int) := by
                have := HTOT.out
                have hjk : j = k := by omega
                rw [← hjk, ← HSO2.out, ← HSW2.out] at this
                omega
              have hNE : ((so : Int) != (nu : Int) + (nt : Int) + (sw : Int)) = false := by rw [hEQ]; simp
              have HB2D : Hid (Below w.heap.size w w2.drew) := Hid.mk HB2.out.drew
              have HW2D : Hid (∃ s, WOk w.heap.size w2.drew wb s ∧ RunS s k (i + 1)) := Hid.mk (by obtain ⟨a, b, c, d, e, f⟩ := HW2.out; exact ⟨_, f.drew.ok, HR2.out⟩)
              go_wp2_with fail
              go_region
              go_wp2
              go_roundw
              case rel => exact ⟨i + 1, by omega, by omega, by go_num, HW2D.out, HB2D.out⟩
              case measure => simp [intOf]; omega
        · have CS := Hid.mk (run_rests HW.out HR.out (by omega) hra2)
          go_wp2_with fail
          refine CS.out.mono ?_
          rintro e w2 ⟨rfl, hb2, s2, hW2, hR2⟩
          have HB2 : Hid (Below w.heap.size w w2) := Hid.mk (HB.out.trans hb2)
          have HW2 := Hid.mk hW2
          have HR2 := Hid.mk hR2
          clear hb2 hW2 hR2 g4
          obtain ⟨vn2, vu2, vt2, vw2, bs2, hA2⟩ := HW2.out
          obtain ⟨gn, cn, gw2, cw2, rfl, rfl, hrn2, hrw2⟩ := hA2.reads HR2.out.inv.k1
          obtain ⟨ua2, uc2, rfl⟩ := own_slice hA2.ou
          obtain ⟨ta2, tc2, rfl⟩ := own_slice hA2.ot
          obtain ⟨d0, d1, d2, d3, _, _⟩ := hA2.cells
          have g5 := (five_cells hA2.blk).1.2.2.2.2
          have hT := HR2.out.inv.tot
          have hbd : ∀ j, j < k → (s2.nd j).owes ≤ 10000 := fun j hj => by have := HR2.out.inv.bound (i := j) (by rw [HR2.out.kk]; exact hj); have := HR2.out.m; omega
          have hun2 : s2.under.length ≤ 10000 := by have h1 : s2.under.length ≤ s2.M := by (unfold Wd.M; omega)
                                                    have := HR2.out.m; omega
          have hte2 : s2.tells.length ≤ 10000 := by have h1 : s2.tells.length ≤ s2.M := by (unfold Wd.M; omega)
                                                    have := HR2.out.m; omega
          have HRN := Hid.mk hrn2
          have HND := Hid.mk hA2.nd
          rw [HR2.out.kk] at d0 hT HRN HND
          obtain ⟨nu, hnu⟩ : ∃ nu, nu = s2.under.length := ⟨_, rfl⟩
          obtain ⟨nt, hnt⟩ : ∃ nt, nt = s2.tells.length := ⟨_, rfl⟩
          rw [← hnu] at d1 hT hun2
          rw [← hnt] at d2 hT hte2
          have HTOT := Hid.mk hT
          have HBD := Hid.mk hbd
          clear hA2 hrn2 hrw2 hT hbd hnu hnt d3
          go_wp2_with fail
          go_loopw [9, 10, 11] (fun a b c wr => ∃ j : Nat, j ≤ k ∧ c = .int .i64 (j : Int) ∧ a = .int .i64 ((sumF (fun i => (s2.nd i).owes) j : Nat) : Int) ∧ b = .int .i64 ((sumF (wk1 s2.nd) j : Nat) : Int) ∧ w2 = wr) (fun _ _ c _ => k - (intOf c).toNat)
          case atStart => exact ⟨0, by omega, rfl, rfl, rfl, rfl⟩
          case round =>
            obtain ⟨j, hjk, rfl, rfl, rfl, rfl⟩ := hrel
            have HSO : Hid (sumF (fun i => (s2.nd i).owes) (j + 1) = sumF (fun i => (s2.nd i).owes) j + (s2.nd j).owes) := Hid.mk rfl
            have HSW : Hid (sumF (wk1 s2.nd) (j + 1) = sumF (wk1 s2.nd) j + wk1 s2.nd j) := Hid.mk rfl
            have hw6 : sumF (wk1 s2.nd) j ≤ j := wk_le _ _
            have ho6 : sumF (fun i => (s2.nd i).owes) j ≤ j * 10000 := sum_le (fun i hi => HBD.out i (by omega))
            obtain ⟨so, hso⟩ : ∃ so, so = sumF (fun i => (s2.nd i).owes) j := ⟨_, rfl⟩
            obtain ⟨sw, hsw⟩ : ∃ sw, sw = sumF (wk1 s2.nd) j := ⟨_, rfl⟩
            rw [← hso] at HSO ho6 ⊢
            rw [← hsw] at HSW hw6 ⊢
            have HSO2 := Hid.mk hso
            have HSW2 := Hid.mk hsw
            clear hso hsw
            have hso1 : so ≤ 60000 := by have : j * 10000 ≤ 6 * 10000 := Nat.mul_le_mul_right _ (by omega)
                                         omega
            have hsw1 : sw ≤ 6 := by omega
            by_cases hjlt : j < k
            · have hjI : (j : Int) < (k : Int) := by omega
              have n1 := HRN.out j hjlt
              have CO := Hid.mk (owes_any (HND.out j hjlt).1)
              have CW := Hid.mk (works_any (HND.out j hjlt).1)
              have hoj := HBD.out j hjlt
              obtain ⟨oj, hoj2⟩ : ∃ oj, oj = (s2.nd j).owes := ⟨_, rfl⟩
              rw [← hoj2] at CO HSO hoj
              clear hoj2
              by_cases hj0 : j = 0
              · have hw0 : wk1 s2.nd j = 0 := by rw [hj0]; rfl
                rw [hw0] at HSW
                have hjp : ¬ (0 : Int) < (j : Int) := by omega
                clear hw0 hj0
                go_wp2_with fail
                refine CO.out.mono ?_
                rintro e wq ⟨rfl, hw⟩
                rw [hw]
                clear hw
                go_wp2
                go_roundw
                case rel => exact ⟨j + 1, by omega, by go_num, by rw [HSO.out]; go_num, by rw [HSW.out, Nat.add_zero], by trivial⟩
                case measure => simp [intOf]; omega
              · have hjp : (0 : Int) < (j : Int) := by omega
                cases hws : (s2.nd j).works with
                | true =>
                  have hw0 : wk1 s2.nd j = 1 := if_pos ⟨by omega, hws⟩
                  rw [hw0] at HSW
                  rw [hws] at CW
                  clear hw0 hws
                  go_wp2_with fail
                  refine CO.out.mono ?_
                  rintro e wq ⟨rfl, hw⟩
                  rw [hw]
                  clear hw
                  go_wp2_with fail
                  refine CW.out.mono ?_
                  rintro e wq ⟨rfl, hw⟩
                  rw [hw]
                  clear hw
                  go_wp2
                  go_roundw
                  case rel => exact ⟨j + 1, by omega, by go_num, by rw [HSO.out]; go_num, by rw [HSW.out]; go_num, by trivial⟩
                  case measure => simp [intOf]; omega
                | false =>
                  have hw0 : wk1 s2.nd j = 0 := if_neg (fun h => by rw [hws] at h; cases h.2)
                  rw [hw0] at HSW
                  rw [hws] at CW
                  clear hw0 hws
                  go_wp2_with fail
                  refine CO.out.mono ?_
                  rintro e wq ⟨rfl, hw⟩
                  rw [hw]
                  clear hw
                  go_wp2_with fail
                  refine CW.out.mono ?_
                  rintro e wq ⟨rfl, hw⟩
                  rw [hw]
                  clear hw
                  go_wp2
                  go_roundw
                  case rel => exact ⟨j + 1, by omega, by go_num, by rw [HSO.out]; go_num, by rw [HSW.out, Nat.add_zero], by trivial⟩
                  case measure => simp [intOf]; omega
            · have hjI : ¬ (j : Int) < (k : Int) := by omega
              have hEQ : (so : Int) = (nu : Int) + (nt : Int) + (sw : Int) := by
                have := HTOT.out
                have hjk : j = k := by omega
                rw [← hjk, ← HSO2.out, ← HSW2.out] at this
                omega
              have hNE : ((so : Int) != (nu : Int) + (nt : Int) + (sw : Int)) = false := by rw [hEQ]; simp
              have HB2D : Hid (Below w.heap.size w w2.drew) := Hid.mk HB2.out.drew
              have HW2D : Hid (∃ s, WOk w.heap.size w2.drew wb s ∧ RunS s k (i + 1)) := Hid.mk (by obtain ⟨a, b, c, d, e, f⟩ := HW2.out; exact ⟨_, f.drew.ok, HR2.out⟩)
              go_wp2_with fail
              go_region
              go_wp2
              go_roundw
              case rel => exact ⟨i + 1, by omega, by omega, by go_num, HW2D.out, HB2D.out⟩
              case measure => simp [intOf]; omega
      · have hlt3I : ¬ (i : Int) < 200 := by omega
        go_wp2_with fail
        refine (CAW.out wx).mono ?_
        rintro e w3 ⟨rfl, hb3⟩
        have HB3 : Hid (Below w.heap.size w w3) := Hid.mk (HB.out.trans (hb3.mono HB.out.size))
        clear hb3
        go_wp2
        go_ret
        exact ⟨rfl, HB3.out⟩
    · have hltI : ¬ (i : Int) < (n : Int) := by omega
      go_wp2_with fail
      refine (CAW.out wx).mono ?_
      rintro e w3 ⟨rfl, hb3⟩
      have HB3 : Hid (Below w.heap.size w w3) := Hid.mk (HB.out.trans (hb3.mono HB.out.size))
      clear hb3
      go_wp2
      go_ret
      exact ⟨rfl, HB3.out⟩
end Go.Proofs.Ytdbnbgpbbfckfaa
