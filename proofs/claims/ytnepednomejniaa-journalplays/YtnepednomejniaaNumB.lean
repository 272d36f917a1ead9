import Derived.Test.YtnepednomejniaaRows
import Derived.Test.YtnepednomejniaaMath
import Derived.Test.YtnepednomejniaaShelf
import Derived.WalkKit
import Derived.WalkSpells
import Derived.WalkLawsBesides
namespace Go.Proofs.Ytnepednomejniaa
open Go.RowKit
theorem info5 : (Try.prog.info? 5).map (fun i => (i.zero, i.size, i.bytes)) = some (some (.int .u8 0), 1, 1) := by kernel_rfl

/-- A row of bytes as cells. -/
def u8s (l : List UInt8) : List Value := l.map fun b => .int .u8 (b.toNat : Int)

theorem start_row (m bl : Nat) (hb : bl ≤ 64) {w1 : World} {B : Nat}
    (hown : w1.ownsRow B 5 1 (.slice (some ⟨B, 0, none⟩) (1 + (bl + 7) / 8) (1 + (bl + 7) / 8)) (1 + (bl + 7) / 8) (madeCells #[Value.int IntKind.u8 0] (1 + (bl + 7) / 8)).toList) :
    (w1.setCell ⟨B, 0, none⟩ (.int .u8 (((bl : Int) + 7) / 8))).ownsRow B 5 1 (.slice (some ⟨B, 0, none⟩) (1 + (bl + 7) / 8) (1 + (bl + 7) / 8)) (1 + (bl + 7) / 8) (u8s (rowN m ((bl + 7) / 8) 0)) := by
  have h := (hown.stored 0 (.int .u8 (((bl : Int) + 7) / 8))).1
  rw [toList_madeCells_one] at h
  rw [← rowN_start]
  have e : (List.replicate (1 + (bl + 7) / 8) (Value.int IntKind.u8 0)).set 0 (.int .u8 (((bl : Int) + 7) / 8)) = u8s ((List.replicate (1 + (bl + 7) / 8) (0 : UInt8)).set 0 (UInt8.ofNat ((bl + 7) / 8))) := by
    rw [u8s, List.map_set, List.map_replicate]
    have e2 : ((UInt8.ofNat ((bl + 7) / 8)).toNat : Int) = ((bl : Int) + 7) / 8 := by
      rw [UInt8.toNat_ofNat']; omega
    rw [e2]; rfl
  rw [← e]; exact h

theorem step_row (m sz k : Nat) (h : sz = (lowD 8 m).length) (hk : k < sz) (hm : m < 2 ^ 63) {w1 : World} {B : Nat}
    (hown : w1.ownsRow B 5 1 (.slice (some ⟨B, 0, none⟩) (1 + sz) (1 + sz)) (1 + sz) (u8s (rowN m sz k))) :
    (w1.setCell ⟨B, sz - k, none⟩ (.int .u8 ((m : Int) / 2 ^ (8 * k) % 256))).ownsRow B 5 1 (.slice (some ⟨B, 0, none⟩) (1 + sz) (1 + sz)) (1 + sz) (u8s (rowN m sz (k + 1))) := by
  have g := (hown.stored (sz - k) (.int .u8 ((m : Int) / 2 ^ (8 * k) % 256))).1
  rw [← rowN_step m sz k h hk (Nat.lt_of_lt_of_le hm (by decide))]
  have e2 : ((UInt8.ofNat (m / 256 ^ k % 256)).toNat : Int) = (m : Int) / 2 ^ (8 * k) % 256 := by
    rw [UInt8.toNat_ofNat', show (256 ^ k) = 2 ^ (8 * k) by rw [Nat.pow_mul]]
    have : m / 2 ^ (8 * k) % 256 % 2 ^ 8 = m / 2 ^ (8 * k) % 256 := by omega
    rw [this]; simp
  rw [u8s, List.map_set, e2]
  exact g

theorem end_row (m sz : Nat) (h : sz = (lowD 8 m).length) {w1 : World} {B : Nat}
    (hown : w1.ownsRow B 5 1 (.slice (some ⟨B, 0, none⟩) (1 + sz) (1 + sz)) (1 + sz) (u8s (rowN m sz sz))) :
    (convert 53 9 (.slice (some ⟨B, 0, none⟩) (1 + sz) (1 + sz))).run Try.prog w1 = .ok (.string ⟨(numB m).toArray⟩) w1 := by
  subst h
  rw [rowN_end] at hown
  have hl : (numB m).length = 1 + (lowD 8 m).length := by simp [numB]; omega
  have g := run_convert_bytes_back (P := Try.prog) w1 53 9 5 ⟨B, 0, none⟩ (1 + (lowD 8 m).length) (numB m) Try.underlying53 Try.underlying5 Try.underlying9 (fun j hj => by
    have := hown.cellAt j (by omega)
    rw [show (⟨B, 0, none⟩ : Addr).add j = ⟨B, j, none⟩ from by cases j <;> simp [Addr.add], this, u8s, List.getElem?_map, List.getElem?_eq_getElem hj]; rfl)
  rw [hl] at g
  exact g

set_option maxHeartbeats 400000 in
set_option maxRecDepth 100000 in
theorem numBytes_any (m : Nat) (w : World) (hm : m < 2 ^ 63) :
    Calls Try.prog 70 #[.int .i64 (m : Int)] w fun e w' => e = .returned (.string ⟨(numB m).toArray⟩) ∧ Below w.heap.size w w' := by
  have hm' : (m : Int) ≤ 9223372036854775807 := by omega
  obtain ⟨i0, hi, hz0, hz1, hz2⟩ := info_parts info5
  have hse := size_eq m hm
  have hle := lowD_le 8 m
  go_enter Try.func70, Try.ntmps70
  go_wp2_with fail
  refine (Try.bits_Len _ _ (by omega) (by omega)).mono ?_
  rintro e w' ⟨rfl, rfl⟩
  rw [Int.toNat_natCast]
  generalize hbl : Lib.bitLen m = bl at *
  have hbl' : bl ≤ 64 := by omega
  have HE : Hid ((bl + 7) / 8 = (lowD 8 m).length) := hse
  have HB : Hid (Lib.bitLen m = bl) := hbl
  clear hse hbl
  go_wp2_with (at_make; refine wpList_make_full _ rfl _ _ 53 rfl w'.heap.size 5 i0 (.int .u8 0) 1 Try.underlying53 hi hz0 hz1 _ _ _ _ (1 + (bl + 7) / 8) rfl rfl (by omega) (by omega) (by rw [hz2]; omega) (by unfold maxLen; omega) (Nat.le_refl _) ?_)
  intro w1 hown hgrow
  have hf0 := hown.frozenAt 0
  have hc0 : w1.cell? ⟨w'.heap.size, 0, none⟩ = some (.int .u8 0) := by
    rw [hown.cellAt 0 (by omega), toList_madeCells_one]
    rw [List.getElem?_replicate, if_pos (by omega)]
  have hst := start_row m bl (by omega) hown
  have hbw : Below w'.heap.size w' (w1.setCell ⟨w'.heap.size, 0, none⟩ (.int .u8 (((bl : Int) + 7) / 8))) :=
    ((Below.refl _ _).grown hgrow (Nat.le_refl _) (by simp)).setCell (Nat.le_refl _) _
  have HS : Hid ((w1.setCell ⟨w'.heap.size, 0, none⟩ (.int .u8 (((bl : Int) + 7) / 8))).ownsRow w'.heap.size 5 1 (.slice (some ⟨w'.heap.size, 0, none⟩) (1 + (bl + 7) / 8) (1 + (bl + 7) / 8)) (1 + (bl + 7) / 8) (u8s (rowN m ((bl + 7) / 8) 0))) := hst
  clear hst hown hgrow
  go_wp2_with fail
  go_loopw [19] (fun i wr => ∃ k : Nat, k ≤ (bl + 7) / 8 ∧ i = .int .i64 k ∧ wr.ownsRow w'.heap.size 5 1 (.slice (some ⟨w'.heap.size, 0, none⟩) (1 + (bl + 7) / 8) (1 + (bl + 7) / 8)) (1 + (bl + 7) / 8) (u8s (rowN m ((bl + 7) / 8) k)) ∧ Below w'.heap.size w' wr) (fun i _ => (bl + 7) / 8 - (intOf i).toNat)
  case atStart => exact ⟨0, Nat.zero_le _, rfl, HS.out, hbw⟩
  case round =>
    obtain ⟨k, hk, rfl, hown, hb⟩ := hrel
    clear hc0 hf0
    have hf := hown.frozenAt ((bl + 7) / 8 - k)
    have hcx : ∃ v, wr.cell? ⟨w'.heap.size, (bl + 7) / 8 - k, none⟩ = some v := by
      rw [hown.cellAt _ (by omega)]
      exact ⟨_, List.getElem?_eq_getElem (by simp [u8s]; rw [rowN_length _ _ _ HE.out hk]; omega)⟩
    obtain ⟨v, hc⟩ := hcx
    by_cases hlt : k < (bl + 7) / 8
    · have R := step_row m ((bl + 7) / 8) k HE.out hlt hm hown
      have hb2 := hb.setCell (p := ⟨w'.heap.size, (bl + 7) / 8 - k, none⟩) (Nat.le_refl _) (.int .u8 ((m : Int) / 2 ^ (8 * k) % 256))
      have HR := R
      clear hown R
      go_wp2
      go_roundw
      case rel => exact ⟨k + 1, by omega, by go_num, HR, hb2⟩
      case measure => simp [intOf]; omega
    · have hke : k = (bl + 7) / 8 := by omega
      have hcv := end_row m ((bl + 7) / 8) HE.out (hke ▸ hown)
      clear hown hc hf
      go_wp2
      go_ret
      exact ⟨rfl, hb⟩
end Go.Proofs.Ytnepednomejniaa
