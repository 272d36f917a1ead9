/- The document's own Check and Pack; the statement of a note's bytes, and back. -/
import Derived.Test.YtgmeehkikamkoaaWRBodyW
import Derived.Test.YtgmeehkikamkoaaWOpen
namespace Go.Proofs.Ytgmeehkikamkoaa
open Go.RowKit

theorem and_255 (n : Int) : bits .and .i64 n 255 = n % 256 := by
  have key : (BitVec.ofInt 64 n &&& BitVec.ofInt 64 255).toNat = (n % ((2 ^ 64 : Nat) : Int)).toNat % 2 ^ 8 := by
    rw [BitVec.toNat_and, BitVec.toNat_ofInt, show (BitVec.ofInt 64 255).toNat = 2 ^ 8 - 1 from by decide, Nat.and_two_pow_sub_one_eq_mod]
  show IntKind.i64.wrap ((BitVec.ofInt 64 n &&& BitVec.ofInt 64 255).toNat : Nat) = n % 256
  rw [key, IntKind.wrap_i64]
  omega

theorem rfour_conv (n : Nat) (w : World) :
    (convert 43 9 (.slice (some ⟨w.heap.size, 0, none⟩) 4 4)).run Try.prog (w.alloc (.cells #[.int .u8 ((n : Int) / 16777216 % 256), .int .u8 ((n : Int) / 65536 % 256), .int .u8 ((n : Int) / 256 % 256), .int .u8 ((n : Int) % 256)] 5))
      = .ok (.string ⟨(fourB n).toArray⟩) (w.alloc (.cells #[.int .u8 ((n : Int) / 16777216 % 256), .int .u8 ((n : Int) / 65536 % 256), .int .u8 ((n : Int) / 256 % 256), .int .u8 ((n : Int) % 256)] 5)) := by
  refine run_convert_bytes_back (P := Try.prog) _ 43 9 5 ⟨w.heap.size, 0, none⟩ 4 (fourB n) Try.underlying43 Try.underlying5 Try.underlying9 (fun j hj => ?_)
  rw [show (⟨w.heap.size, 0, none⟩ : Addr).add j = ⟨w.heap.size, j, none⟩ from by cases j <;> simp [Addr.add], World.cell?_alloc_at _ _ _ _ rfl]
  have hj4 : j < 4 := hj
  match j, hj4 with
  | 0, _ => simp [fourB]
  | 1, _ => simp [fourB]
  | 2, _ => simp [fourB]
  | 3, _ => simp [fourB]

set_option maxHeartbeats 1000000 in
theorem rFour_any (n : Nat) (w : World) (_ : n < 4294967296) :
    Calls Try.prog 25 #[.int .i64 n] w fun e w' => e = .returned (.string ⟨(fourB n).toArray⟩) ∧ Below w.heap.size w w' := by
  have hcv := rfour_conv n w
  have b3 : bits .and .i64 ((n : Int) / 16777216) 255 = (n : Int) / 16777216 % 256 := and_255 _
  have b2 : bits .and .i64 ((n : Int) / 65536) 255 = (n : Int) / 65536 % 256 := and_255 _
  have b1 : bits .and .i64 ((n : Int) / 256) 255 = (n : Int) / 256 % 256 := and_255 _
  have b0 : bits .and .i64 (n : Int) 255 = (n : Int) % 256 := and_255 _
  go_enter Try.func25, Try.ntmps25
  go_wp2
  go_ret
  exact ⟨rfl, (Below.refl _ _).alloc (Nat.le_refl _) _⟩

theorem rBody_may {v : Value} {n : NoteD} {w : World} (h : NoteAt w v n) (hm : n.may) :
    Calls Try.prog 24 #[v] w fun e w' => e = .returned (.tuple #[.string ⟨n.body.toArray⟩, .bool true]) ∧ Below w.heap.size w w' :=
  (rBody_any v n w h).mono fun e w' ⟨h1, h2⟩ => ⟨by rcases h1 with ⟨_, h1⟩ | ⟨h1, _⟩; exact h1; exact absurd hm h1, h2⟩
theorem rBody_not {v : Value} {n : NoteD} {w : World} (h : NoteAt w v n) (hm : ¬ n.may) :
    Calls Try.prog 24 #[v] w fun e w' => (∃ s, e = .returned (.tuple #[.string s, .bool false])) ∧ Below w.heap.size w w' :=
  (rBody_any v n w h).mono fun e w' ⟨h1, h2⟩ => ⟨by rcases h1 with ⟨h1, _⟩ | ⟨_, h1⟩; exact absurd h1 hm; exact h1, h2⟩

set_option maxHeartbeats 1000000 in
theorem rCheck_any (v : Value) (n : NoteD) (w : World) (h : NoteAt w v n) :
    Calls Try.prog 14 #[v] w fun e w' => e = .returned (.int .i64 (if n.may then 0 else 1)) ∧ Below w.heap.size w w' := by
  have hN := h
  obtain ⟨vn, vt, vr, rfl, hn, ht, hr⟩ := h
  have hbb : Below w.heap.size w (w.alloc (.cells #[.int .i64 n.kind, vn, vt, vr] 26)) := (Below.refl _ _).alloc (Nat.le_refl _) _
  have N0 := Hid.mk (hN.below hbb)
  clear hN hn ht hr
  have HBB := Hid.mk hbb
  clear hbb
  by_cases hm : n.may
  · have C := Hid.mk (rBody_may N0.out hm)
    go_enter Try.func14, Try.ntmps14
    go_wp2_with fail
    refine C.out.mono ?_
    rintro e w1 ⟨rfl, hb1⟩
    have B1 := Hid.mk (HBB.out.trans (hb1.mono (by simp)))
    clear hb1
    go_wp2
    go_ret
    exact ⟨rfl, B1.out⟩
  · have C := Hid.mk (rBody_not N0.out hm)
    go_enter Try.func14, Try.ntmps14
    go_wp2_with fail
    refine C.out.mono ?_
    rintro e w1 ⟨⟨s, rfl⟩, hb1⟩
    have B1 := Hid.mk (HBB.out.trans (hb1.mono (by simp)))
    clear hb1
    go_wp2
    go_ret
    exact ⟨rfl, B1.out⟩

set_option maxHeartbeats 1000000 in
theorem rPack_any (v : Value) (n : NoteD) (w : World) (h : NoteAt w v n) :
    Calls Try.prog 12 #[v] w fun e w' => e = .returned (packV n) ∧ Below w.heap.size w w' := by
  have hN := h
  obtain ⟨vn, vt, vr, rfl, hn, ht, hr⟩ := h
  have hbb : Below w.heap.size w (w.alloc (.cells #[.int .i64 n.kind, vn, vt, vr] 26)) := (Below.refl _ _).alloc (Nat.le_refl _) _
  have N0 := Hid.mk (hN.below hbb)
  clear hN hn ht hr
  have HBB := Hid.mk hbb
  clear hbb
  by_cases hm : n.may
  · have C := Hid.mk (rBody_may N0.out hm)
    have HP := Hid.mk (packV_may hm)
    have hbl := hm.2.2
    have HJ := Hid.mk (seal_join n.body)
    have HSUM := fun w => rSum_any ⟨n.body.toArray⟩ w (by rw [size_list]; omega)
    rw [data_list] at HSUM
    have HSUM := Hid.mk HSUM
    have hsl := sumN_lt n.body
    have hsz := size_list n.body
    clear hm
    obtain ⟨X, hX⟩ : ∃ X, X = sumN n.body := ⟨_, rfl⟩
    rw [← hX] at HSUM hsl HJ
    clear hX
    go_enter Try.func12, Try.ntmps12
    go_wp2_with fail
    refine C.out.mono ?_
    rintro e w1 ⟨rfl, hb1⟩
    have B1 := Hid.mk (HBB.out.trans (hb1.mono (by simp)))
    clear hb1
    go_wp2_with fail
    refine (rFour_any _ _ (by omega)).mono ?_
    rintro e w2 ⟨rfl, hb2⟩
    have B2 := Hid.mk (B1.out.trans (hb2.mono B1.out.size))
    clear hb2
    go_wp2_with fail
    refine (HSUM.out _).mono ?_
    rintro e w3 ⟨rfl, hw3⟩
    subst hw3
    go_wp2_with fail
    refine (rFour_any _ _ hsl).mono ?_
    rintro e w4 ⟨rfl, hb4⟩
    have B4 := Hid.mk (B2.out.trans (hb4.mono B2.out.size))
    clear hb4
    have q1 := fourB_len n.body.length
    have q2 := fourB_len X
    go_wp2
    go_ret2
    exact ⟨by rw [HP.out, ← HJ.out]; rfl, B4.out⟩
  · have C := Hid.mk (rBody_not N0.out hm)
    have HP := Hid.mk (packV_not hm)
    go_enter Try.func12, Try.ntmps12
    go_wp2_with fail
    refine C.out.mono ?_
    rintro e w1 ⟨⟨s, rfl⟩, hb1⟩
    have B1 := Hid.mk (HBB.out.trans (hb1.mono (by simp)))
    clear hb1
    go_wp2
    go_ret2
    exact ⟨by rw [HP.out]; rfl, B1.out⟩
end Go.Proofs.Ytgmeehkikamkoaa
