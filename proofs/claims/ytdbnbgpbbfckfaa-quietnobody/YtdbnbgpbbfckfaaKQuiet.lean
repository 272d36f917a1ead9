/- Whether all is quiet; what must come in any case; a node that nobody made. -/
import Derived.Test.YtdbnbgpbbfckfaaKBeg
namespace Go.Proofs.Ytdbnbgpbbfckfaa
open Go.RowKit

set_option maxRecDepth 100000 in
set_option maxHeartbeats 4000000 in
theorem quiet_any {B : Nat} {w : World} {wb : Nat} {s : Wd} (hW : WOk B w wb s) (hk1 : 1 ≤ s.k) (hk6 : s.k ≤ 6) (hS : Still s) :
    Calls Try.prog 13 #[.pointer (some ⟨wb, 0, none⟩)] w fun e w' => e = .returned (.bool true) ∧ w' = w := by
  obtain ⟨vn, vu, vt, vw, bs, h⟩ := hW
  obtain ⟨gn, cn, gw, cw, rfl, rfl, hrn, hrw⟩ := h.reads hk1
  obtain ⟨ua, uc, rfl⟩ := own_slice h.ou
  obtain ⟨ta, tc, rfl⟩ := own_slice h.ot
  obtain ⟨g0, g1, g2, g3, f1, f2⟩ := h.cells
  rw [show s.under.length = 0 by rw [hS.un]; rfl] at g1
  rw [show s.tells.length = 0 by rw [hS.te]; rfl] at g2
  have HRN := Hid.mk hrn
  have HRW := Hid.mk hrw
  have HSN := Hid.mk hS.nd
  have HND := Hid.mk h.nd
  obtain ⟨k, hk⟩ : ∃ k, k = s.k := ⟨_, rfl⟩
  rw [← hk] at g0 g3 hk6 HRN HRW HSN HND
  clear h hrn hrw hS hk hk1 f1 f2
  go_enter Try.func13, Try.ntmps13
  go_wp2_with fail
  go_loopw [3] (fun c wr => ∃ i : Nat, i ≤ k ∧ c = .int .i64 (i : Int) ∧ wr = w) (fun c _ => k - (intOf c).toNat)
  case atStart => exact ⟨0, Nat.zero_le _, rfl, rfl⟩
  case round =>
    obtain ⟨i, hi, rfl, rfl⟩ := hrel
    by_cases hlt : i < k
    · have hltI : (i : Int) < (k : Int) := by omega
      have CW := Hid.mk (works_any (HND.out i hlt).1)
      rw [(HSN.out i hlt).1] at CW
      have n1 := HRN.out i hlt
      have n2 := (HRW.out i hlt).1
      rw [(HSN.out i hlt).2] at n2
      go_wp2_with fail
      refine CW.out.mono ?_
      rintro e w1 ⟨rfl, hw⟩
      rw [hw]
      clear hw
      go_wp2
      go_roundw
      case rel => exact ⟨i + 1, by omega, by go_num, by trivial⟩
      case measure => simp [intOf]; omega
    · have hltI : ¬ (i : Int) < (k : Int) := by omega
      go_wp2
      go_ret
      exact ⟨rfl, rfl⟩

/-! What must come in any case. -/
theorem NAt.below {w w' : World} {b nodes : Nat} {n : Nd} {root : Bool} (h : NAt w b nodes n root) (hb : Below w.heap.size w w') : NAt w' b nodes n root := (hb.block b (lt_of_block h)).trans h
theorem NAt.only {w w' : World} {b c nodes : Nat} {n : Nd} {root : Bool} (h : NAt w b nodes n root) (ho : Only c w w') (hne : b ≠ c) : NAt w' b nodes n root := (ho.block b hne).trans h
set_option maxRecDepth 100000 in
set_option maxHeartbeats 4000000 in
theorem awake_any (w : World) : Calls Try.prog 14 #[] w fun e w' => e = .returned (.bool true) ∧ Below w.heap.size w w' := by
  have CA := Hid.mk (new_any 0 2 true w (by decide) (by decide))
  go_enter Try.func14, Try.ntmps14
  go_wp2_with fail
  refine CA.out.mono ?_
  rintro e w1 ⟨rfl, hz1, hs1, hb1⟩
  have HA1 : Hid (NAt w1 w.heap.size 2 ⟨0, true, -1⟩ true) := Hid.mk hz1
  have HB1 := Hid.mk hb1
  have HS1 := Hid.mk hs1
  clear hz1 hs1 hb1
  have CB := Hid.mk (new_any 1 2 false w1 (by decide) (by decide))
  go_wp2_with fail
  refine CB.out.mono ?_
  rintro e w2 ⟨rfl, hz2, hs2, hb2⟩
  obtain ⟨a, ha⟩ : ∃ a, a = w.heap.size := ⟨_, rfl⟩
  obtain ⟨b, hb⟩ : ∃ b, b = w1.heap.size := ⟨_, rfl⟩
  have hab : ¬ a = b := by have := HS1.out; omega
  have hba : ¬ b = a := fun e => hab e.symm
  have HA2 : Hid (NAt w2 a 2 ⟨0, true, -1⟩ true) := Hid.mk (by rw [ha]; exact HA1.out.below hb2)
  have HZ2 : Hid (NAt w2 b 2 ⟨0, false, -1⟩ false) := Hid.mk (by rw [hb]; exact hz2)
  have HB2 : Hid (Below a w w2 ∧ a ≤ b) := Hid.mk (by rw [ha, hb]; exact ⟨HB1.out.trans (hb2.mono HB1.out.size), HB1.out.size⟩)
  rw [← ha, ← hb]
  have HA0 := Hid.mk ha
  clear hz2 hs2 hb2 ha hb
  have C1 := Hid.mk (works_any HA2.out)
  have C2 := Hid.mk (works_any HZ2.out)
  have C3 := Hid.mk (send_any HA2.out rfl (by decide))
  go_wp2_with fail
  refine C1.out.mono ?_
  rintro e wq ⟨rfl, hw⟩
  rw [hw]
  clear hw
  go_wp2_with fail
  refine C2.out.mono ?_
  rintro e wq ⟨rfl, hw⟩
  rw [hw]
  clear hw
  go_wp2_with fail
  refine C3.out.mono ?_
  rintro e w3 ⟨rfl, hn3, ho3⟩
  have HA3 := Hid.mk hn3
  have HZ3 := Hid.mk (HZ2.out.only ho3 hba)
  have HB3 : Hid (Below a w w3) := Hid.mk (HB2.out.1.trans (ho3.below (Nat.le_refl _)))
  clear hn3 ho3
  have C4 := Hid.mk (takeW_any HZ3.out (m := 0) (by decide) rfl)
  go_wp2_with fail
  refine C4.out.mono ?_
  rintro e w4 ⟨rfl, hn4, ho4⟩
  have HZ4 := Hid.mk hn4
  have HA4 := Hid.mk (HA3.out.only ho4 hab)
  have HB4 : Hid (Below a w w4) := Hid.mk (HB3.out.trans (ho4.below HB2.out.2))
  clear hn4 ho4
  have C5 := Hid.mk (rest_any HZ4.out rfl (by decide))
  simp only [Nat.lt_irrefl, if_false] at C5
  go_wp2_with fail
  refine C5.out.mono ?_
  rintro e w5 ⟨rfl, hn5, ho5⟩
  have HA5 := Hid.mk (HA4.out.only ho5 hab)
  have HB5 : Hid (Below a w w5) := Hid.mk (HB4.out.trans (ho5.below HB2.out.2))
  clear hn5 ho5
  have C6 := Hid.mk (told_any HA5.out (z := 0) rfl (by decide))
  go_wp2_with fail
  refine C6.out.mono ?_
  rintro e w6 ⟨rfl, hn6, ho6⟩
  have HA6 := Hid.mk hn6
  have HB6 : Hid (Below a w w6) := Hid.mk (HB5.out.trans (ho6.below (Nat.le_refl _)))
  clear hn6 ho6
  have C7 := Hid.mk (owes_any HA6.out)
  have C8 := Hid.mk (done_any HA6.out)
  go_wp2_with fail
  refine C7.out.mono ?_
  rintro e wq ⟨rfl, hw⟩
  rw [hw]
  clear hw
  go_wp2_with fail
  refine C8.out.mono ?_
  rintro e wq ⟨rfl, hw⟩
  rw [hw]
  clear hw
  go_wp2
  go_ret
  exact ⟨rfl, by rw [← HA0.out]; exact HB6.out⟩
end Go.Proofs.Ytdbnbgpbbfckfaa
