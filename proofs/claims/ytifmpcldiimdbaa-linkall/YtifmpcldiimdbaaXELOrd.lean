/- LinkAll: behind whatever script of up to 150 acts on a line of two ends, once all that an end sends again comes, in whatever order, all that was put has come and nothing waits: for every epochs, script and turn. -/
import Derived.Test.YtifmpcldiimdbaaXELDo
import Derived.Test.YtifmpcldiimdbaaZF
namespace Go.Proofs.Ytifmpcldiimdbaa
open Go.RowKit Go.Shelf

theorem beg_lnI {a b : Nat} (ha : 1 ≤ a ∧ a ≤ 16) (hb : 1 ≤ b ∧ b ≤ 16) : LnI (bgE a b) (fun _ => []) (fun _ => 0) (fun _ => 0) := by
  have h : ∀ {p q : Nat}, 1 ≤ p → p ≤ 16 → Half (newE p) (newE q) 0 0 [] := fun {p q} h1 h2 =>
    { q := (qs_nil 5 0).symm, fs := ⟨Nat.le_refl _, Nat.le_refl _⟩, wt := rfl, cn := Nat.le_refl _, fc := Nat.le_refl _, o0 := fun _ => rfl, ot := .inl rfl, und := fun _ hp => absurd hp (by simp), ok := newE_ok h1 (by omega), n2 := by omega }
  exact ⟨h ha.1 ha.2, h hb.1 hb.2⟩
set_option maxRecDepth 100000 in
set_option maxHeartbeats 2000000 in
theorem linkOrder_walk (ep : Int) (v : Value) (zs : List Int) (w : World) (_ : (Lit.int .i64 ep).wf = true) (hv : IntsAt w v zs) :
    Calls Try.prog 4 #[.int .i64 ep, v] w fun e w' => e = .returned (.bool true) ∧ Below w.heap.size w w' := by
  obtain ⟨hzl, ao, cap, rfl, hz⟩ := hv
  rw [intCs_len] at hzl ⊢
  obtain ⟨m, hm⟩ : ∃ m, zs.length = m := ⟨_, rfl⟩
  rw [hm] at hzl ⊢
  have HZ : Hid (∀ i, i < m → ∃ g o z, ao = some ⟨g, o, none⟩ ∧ g < w.heap.size ∧ w.cell? ⟨g, o + i, none⟩ = some (.int .i64 z)) := Hid.mk (fun i hi => by
    rcases hz with h | ⟨g, o, e1, e2, e3⟩
    · have := intCs_len zs; rw [h] at this; simp at this; omega
    · obtain ⟨z, hzz⟩ : ∃ z, zs[i]? = some z := ⟨_, List.getElem?_eq_getElem (by omega)⟩
      exact ⟨g, o, z, e1, e2, e3 i _ (by rw [intCs, List.getElem?_map, hzz]; rfl)⟩)
  have C := Hid.mk (begun_any ep w)
  clear hz hm
  go_enter Try.func4, Try.ntmps4
  go_wp2_with fail
  refine C.out.mono ?_
  clear C
  rintro r w1 ⟨x, T, V, a, b, rfl, ha1, ha2, hb1, hb2, hl⟩
  have q := hl.ok_cell
  have HS0 : Hid (LnS w T w1 x V (bgE a b) (fun _ => []) (fun _ => 0) (fun _ => 0) 0) := Hid.mk ⟨hl, beg_lnI ⟨ha1, ha2⟩ ⟨hb1, hb2⟩, fun _ _ => by simp, by simp⟩
  clear hl
  go_wp2_with fail
  go_loopw [6] (fun iv wr => ∃ (i : Nat) (T : Nat → Prop) (V : LV) (e : Nat → En) (U : Nat → List (List UInt8)) (n c : Nat → Nat), i ≤ 250 ∧ iv = .int .i64 i ∧ LnS w T wr x V e U n c i) (fun iv _ => 250 - (intOf iv).toNat)
  case atStart => exact ⟨0, T, V, _, _, _, _, by omega, rfl, HS0.out⟩
  case round =>
    obtain ⟨i, T, V, e, U, n, c, hi, rfl, hs⟩ := hrel
    obtain ⟨wx, hwx⟩ : ∃ wx, wx = wr := ⟨_, rfl⟩
    subst hwx
    clear q HS0
    have HS := Hid.mk hs
    have HBW : Hid (Below w.heap.size w wx) := Hid.mk hs.b.bel
    clear hs
    by_cases hlt : i < m
    · have hltI : (i : Int) < (m : Int) := by omega
      by_cases h250 : i < 250
      · have h250I : (i : Int) < 250 := by omega
        obtain ⟨g, o, z, rfl, hg, hc⟩ := HZ.out i hlt
        have hcx : wx.cell? ⟨g, o + i, none⟩ = some (.int .i64 z) := (World.cell?_of_block (a := ⟨g, o + i, none⟩) (HBW.out.block g hg)).trans hc
        obtain ⟨d, hd, -⟩ := mask_nat z 20 1048575 1048576 (by decide) (by decide) (by decide)
        have CD := Hid.mk (does_any HS.out (by omega) d)
        clear hc hg HS
        go_wp2_with fail
        refine CD.out.mono ?_
        clear CD
        rintro r w2 ⟨rfl, T2, V2, e2, U2, n2, c2, hs2, -⟩
        have CR := Hid.mk (right_any hs2.b (fun k hk => (hs2.i.cle hk).1) (fun k hk => by have := hs2.nk hk; omega))
        have HS2 := Hid.mk hs2
        clear hs2 hcx
        go_wp2_with fail
        refine CR.out.mono ?_
        clear CR
        rintro r w3 ⟨rfl, hl3⟩
        have HS3 : Hid (LnS w T2 w3 x V2 e2 U2 n2 c2 (i + 1)) := Hid.mk { HS2.out with b := hl3 }
        clear hl3 HS2 hd
        go_wp2
        go_roundw
        case rel => exact ⟨i + 1, T2, V2, e2, U2, n2, c2, by omega, by go_num, HS3.out⟩
        case measure => simp [intOf]; omega
      · have h250I : ¬ (i : Int) < 250 := by omega
        have CA := Hid.mk (awake_any wx)
        go_wp2_with fail
        refine CA.out.mono ?_
        rintro r w2 ⟨rfl, hb2⟩
        have HE : Hid (Below w.heap.size w w2) := Hid.mk (HBW.out.trans (hb2.mono HBW.out.size))
        clear hb2 CA
        go_wp2
        go_ret
        exact ⟨rfl, HE.out⟩
    · have hltI : ¬ (i : Int) < (m : Int) := by omega
      have CA := Hid.mk (awake_any wx)
      go_wp2_with fail
      refine CA.out.mono ?_
      rintro r w2 ⟨rfl, hb2⟩
      have HE : Hid (Below w.heap.size w w2) := Hid.mk (HBW.out.trans (hb2.mono HBW.out.size))
      clear hb2 CA
      go_wp2
      go_ret
      exact ⟨rfl, HE.out⟩
end Go.Proofs.Ytifmpcldiimdbaa
