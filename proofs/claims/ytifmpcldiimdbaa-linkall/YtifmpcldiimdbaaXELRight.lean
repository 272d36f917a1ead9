/- LinkAll: behind whatever script of up to 150 acts on a line of two ends, once all that an end sends again comes, in whatever order, all that was put has come and nothing waits: for every epochs, script and turn. -/
import Derived.Test.YtifmpcldiimdbaaXELCut
namespace Go.Proofs.Ytifmpcldiimdbaa
open Go.RowKit Go.Shelf

section
variable {w0 : World} {T : Nat → Prop} {W W' : World} {x : Nat} {V : LV} {e : Nat → En} {U : Nat → List (List UInt8)} {n c : Nat → Nat}
theorem LnB.drew (h : LnB w0 T W x V e U n c) : LnB w0 T W.drew x V e U n c :=
  h.fr (fr_below h.low (below_drewE (Below.refl _ _))) (fun _ hk => hk) (h.two.below (below_drewE (Below.refl _ _))) (fun k hk => h.low k hk)
theorem LnB.ok_cell (h : LnB w0 T W x V e U n c) : W.cell? ⟨x, 8, none⟩ = some (.bool true) := (h.cells 8 _ rfl).1
theorem row_at {w : World} {B m i : Nat} {v : Value} (h : w.ownsRow B 3 1 v m (rngC m)) (hi : i < m) : ∃ g cap, v = .slice (some ⟨g, 0, none⟩) m cap ∧ w.cell? ⟨g, i, none⟩ = some (.int .i64 (i : Int)) := by
  rcases h.2 with ⟨_, h0⟩ | ⟨g, cap, cur, e1, _⟩
  · omega
  · subst e1
    refine ⟨g, cap, rfl, ?_⟩
    rw [h.cellAt i (by omega), rngC, List.getElem?_map, List.getElem?_range hi]
    rfl
set_option maxRecDepth 100000 in
set_option maxHeartbeats 1000000 in
theorem right_any (h : LnB w0 T W x V e U n c) (hc : ∀ k, k < 2 → c k ≤ n (1 - k)) (hn : ∀ k, k < 2 → n k ≤ 1000) :
    Calls Try.prog 26 #[.pointer (some ⟨x, 0, none⟩)] W (fun r w' => r = .returned (.bool true) ∧ LnB w0 T w' x V e U n c) := by
  have H := Hid.mk h
  have HC := Hid.mk hc
  have HN := Hid.mk hn
  clear h hc hn
  go_enter Try.func26, Try.ntmps26
  go_wp2_with fail
  go_loopw [3] (fun kv wr => ∃ k : Nat, k ≤ 2 ∧ kv = .int .i64 k ∧ LnB w0 T wr x V e U n c) (fun kv _ => 2 - (intOf kv).toNat)
  case atStart => exact ⟨0, by omega, rfl, H.out⟩
  case round =>
    obtain ⟨k, hk2, rfl, hl⟩ := hrel
    obtain ⟨wx, hwx⟩ : ∃ wx, wx = wr := ⟨_, rfl⟩
    subst hwx
    by_cases hk : k < 2
    · have hkI : (k : Int) < 2 := by omega
      obtain ⟨k', hk'⟩ : ∃ j, 1 - k = j := ⟨_, rfl⟩
      have hk2' : k' < 2 := by omega
      have hkI' : (k' : Int) < 2 := by omega
      have h1k : (1 : Int) - (k : Int) = (k' : Int) := by omega
      obtain ⟨m, hm⟩ : ∃ m, c k = m := ⟨_, rfl⟩
      obtain ⟨p, hp⟩ : ∃ p, n k' = p := ⟨_, rfl⟩
      have hmp : m ≤ p := by rw [← hm, ← hp, ← hk']; exact HC.out k hk
      have hpb : p ≤ 1000 := by rw [← hp]; exact HN.out k' hk2'
      have hmpI : ¬ (m : Int) > (p : Int) := by omega
      have hmpJ : ¬ (p : Int) < (m : Int) := by omega
      have hmpN : ¬ p < m := by omega
      have hmpD : decide (p < m) = false := by simpa using hmp
      have r1 := (hl.rc k hk).1
      have r2 := (hl.rp k' hk2').1
      obtain ⟨pa, pc, e1⟩ := own_slice r1
      obtain ⟨qa, qc, e2⟩ := own_slice r2
      obtain ⟨z1, -⟩ := hl.cells _ _ (lnC_c V hk)
      obtain ⟨z2, -⟩ := hl.cells _ _ (lnC_p V hk2')
      rw [hm] at r1 e1
      rw [hp] at r2 e2
      rw [e1] at z1
      rw [e2] at z2
      have HL := Hid.mk hl
      have HE1 := Hid.mk e1
      have HE2 := Hid.mk e2
      have HM := Hid.mk hm
      have HP := Hid.mk hp
      have HD := Hid.mk hl.drew
      clear hl e1 e2 hm hp hk' r1 r2
      go_wp2_with fail
      go_region
      clear z1 z2
      go_wp2_with fail
      go_loopw [4] (fun iv wr => ∃ i : Nat, i ≤ m ∧ iv = .int .i64 i ∧ LnB w0 T wr x V e U n c) (fun iv _ => m - (intOf iv).toNat)
      case atStart => exact ⟨0, by omega, rfl, HD.out⟩
      case round =>
        obtain ⟨i, him, rfl, hl⟩ := hrel
        obtain ⟨wy, hwy⟩ : ∃ wy, wy = wr := ⟨_, rfl⟩
        subst hwy
        clear HL HD
        have r1 := (hl.rc k hk).1
        have r2 := (hl.rp k' hk2').1
        obtain ⟨z1, -⟩ := hl.cells _ _ (lnC_c V hk)
        obtain ⟨z2, -⟩ := hl.cells _ _ (lnC_p V hk2')
        rw [HM.out] at r1
        rw [HP.out] at r2
        rw [HE1.out] at z1 r1
        rw [HE2.out] at z2 r2
        have HL := Hid.mk hl
        have HD := Hid.mk hl.drew
        clear hl
        by_cases hi : i < m
        · have hiI : (i : Int) < (m : Int) := by omega
          have hipI : (i : Int) < (p : Int) := by omega
          obtain ⟨g1, c1, f1, y1⟩ := row_at r1 hi
          obtain ⟨g2, c2, f2, y2⟩ := row_at r2 (show i < p by omega)
          injection f1 with f1 _ f1c
          injection f2 with f2 _ f2c
          subst f1 f2
          clear r1 r2 HE1 HE2 f1c f2c
          go_wp2_with fail
          go_region
          clear z1 z2 y1 y2
          go_wp2
          go_roundw
          case rel => exact ⟨i + 1, by omega, by go_num, HD.out⟩
          case measure => simp [intOf]; omega
        · have hiI : ¬ (i : Int) < (m : Int) := by omega
          clear r1 r2
          go_wp2
          go_roundw
          case rel => exact ⟨k + 1, by omega, by go_num, HL.out⟩
          case measure => simp [intOf]; omega
    · have hkI : ¬ (k : Int) < 2 := by omega
      have z := hl.ok_cell
      have HL := Hid.mk hl
      clear hl
      go_wp2
      go_ret
      exact ⟨rfl, HL.out⟩
end
end Go.Proofs.Ytifmpcldiimdbaa
