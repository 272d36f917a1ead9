/- Packets compared; what must come, whatever the arguments are. -/
import Derived.Test.YtnkgbinogblemaaDTo
import Derived.Laws.StructEq
namespace Go.Proofs.Ytnkgbinogblemaa
open Go.RowKit

theorem guardP : Try.prog.eqGuardType Try.prog.depth 40 = false := by kernel_rfl
theorem heldP : Try.prog.stoodInHeld 40 = false := by kernel_rfl
theorem structP : Try.prog.underlying 40 = some (.struct (Try.prog.fieldsOf 40)) := by kernel_rfl
set_option maxRecDepth 100000 in
theorem eqP_same (a b c : Int) (s : ByteArray) (w : World) : (Op.equalIn 10000 40 (.agg #[.int .i64 a, .int .i64 b, .int .i64 c, .string s]) (.agg #[.int .i64 a, .int .i64 b, .int .i64 c, .string s])).run Try.prog w = .ok true w := by
  rw [run_equalIn_agg (P := Try.prog) w 9999 _ _ _ structP heldP]
  simp [Program.fieldsOf, Try.underlying40, Op.eqFields, go_sem]
def bx : List UInt8 := [120]
def f1 : Fd := (Fd.mk 2 0 []).add ⟨0, 0, 1, bx⟩
theorem f1_ok : PkOk 2 ⟨0, 0, 1, bx⟩ := ⟨by simp, by simp, by simp, by simp, by simp [bx]⟩
theorem f1_l : f1.l = [⟨1, 0, 1, bx⟩] := rfl
theorem f2_l : (f1.add ⟨1, 0, 1, bx⟩).l = [] ++ ⟨1, 0, 1, bx⟩ :: [⟨2, 0, 1, bx⟩] := rfl
set_option maxRecDepth 100000 in
set_option maxHeartbeats 1000000 in
theorem awake_any (w : World) : Calls Try.prog 9 #[] w fun e w' => e = .returned (.bool true) ∧ Below w.heap.size w w' := by
  have CN : Hid (Calls Try.prog 7 #[.int .i64 2] w (NewE 2 w)) := Hid.mk (new_any 2 w)
  unfold NewE at CN
  have HL : Hid (Low (fun k => k < w.heap.size) w) := Hid.mk (fun k hk => hk)
  go_enter Try.func9, Try.ntmps9
  go_wp2_with fail
  refine CN.out.mono ?_
  rintro e w1 ⟨hb1, ⟨h, -⟩ | ⟨b, rfl, n, hn, -, -, hf⟩⟩
  · exact absurd ⟨by omega, by omega⟩ h
  obtain rfl : n = 2 := by omega
  have HF1 := Hid.mk (hf _ HL.out)
  have HL1 : Hid (Low (fun k => k < w.heap.size) w1) := Hid.mk (HL.out.below hb1)
  have HB1 := Hid.mk hb1
  have CS := Hid.mk (send_any HF1.out HL1.out ⟨0, 0, 1, bx⟩ f1_ok rfl (by simp))
  simp only [bx] at CS
  clear hf hn hb1 CN
  go_wp2_with fail
  refine CS.out.mono ?_
  rintro e w2 ⟨rfl, hf2, hr2⟩
  have HF2 : Hid (FB (fun k => k < w.heap.size) w2 b f1) := Hid.mk hf2
  have HL2 := Hid.mk (HL1.out.fr hr2)
  have HB2 : Hid (Below w.heap.size w w2) := Hid.mk (HB1.out.trans (hr2.below (fun _ h => h)))
  have CC : Hid (Calls Try.prog 14 #[.pointer (some ⟨b, 0, none⟩), .int .i64 1] w2 fun e w' => e = .returned (.tuple #[.int .i64 2, .int .i64 0]) ∧ FB (fun k => k < w.heap.size) w' b (f1.add ⟨1, 0, 1, bx⟩) ∧ Fr (fun k => k < w.heap.size) w2 w') := Hid.mk (copy_any HF2.out HL2.out (p := ⟨1, 0, 1, bx⟩) (by rw [f1_l]; simp) (by simp [f1, Fd.add]))
  clear hf2 hr2 CS
  go_wp2_with fail
  refine CC.out.mono ?_
  rintro e w3 ⟨rfl, hf3, hr3⟩
  have HF3 := Hid.mk hf3
  have HL3 := Hid.mk (HL2.out.fr hr3)
  have HB3 : Hid (Below w.heap.size w w3) := Hid.mk (HB2.out.trans (hr3.below (fun _ h => h)))
  have CA : Hid (Calls Try.prog 12 #[.pointer (some ⟨b, 0, none⟩), .int .i64 1] w3 fun e w' => e = .returned (.tuple #[.agg #[.int .i64 1, .int .i64 0, .int .i64 1, .string ⟨#[120]⟩], .int .i64 0]) ∧ FB (fun k => k < w.heap.size) w' b ⟨2, 2, [⟨2, 0, 1, bx⟩]⟩ ∧ Fr (fun k => k < w.heap.size) w3 w') := Hid.mk (arrive_any HF3.out HL3.out f2_l (by simp [f1, Fd.add]))
  clear hf3 hr3 CC
  go_wp2_with fail
  refine CA.out.mono ?_
  rintro e w4 ⟨rfl, hf4, hr4⟩
  have b4 : Below w4.heap.size w4 (w4.alloc (.cells #[.int .i64 1, .int .i64 0, .int .i64 1, .string ⟨#[120]⟩] 40)) := (Below.refl _ _).alloc (Nat.le_refl _) _
  have HB4 := HB3.out.trans (hr4.below (fun _ h => h))
  have HB5 : Hid (Below w.heap.size w (w4.alloc (.cells #[.int .i64 1, .int .i64 0, .int .i64 1, .string ⟨#[120]⟩] 40))) := Hid.mk (HB4.trans (b4.mono HB4.size))
  have CP : Hid (Calls Try.prog 16 #[.pointer (some ⟨b, 0, none⟩), .int .i64 7] (w4.alloc (.cells #[.int .i64 1, .int .i64 0, .int .i64 1, .string ⟨#[120]⟩] 40)) fun e w' => e = .returned (.int .i64 2) ∧ Below (w4.alloc (.cells #[.int .i64 1, .int .i64 0, .int .i64 1, .string ⟨#[120]⟩] 40)).heap.size (w4.alloc (.cells #[.int .i64 1, .int .i64 0, .int .i64 1, .string ⟨#[120]⟩] 40)) w') := Hid.mk (pick_any (hf4.below b4) 7 (by decide) (by simp))
  have heq := eqP_same 1 0 1 ⟨#[120]⟩ (w4.alloc (.cells #[.int .i64 1, .int .i64 0, .int .i64 1, .string ⟨#[120]⟩] 40))
  have hgd := guardP
  clear hf4 hr4 CA HB4 b4
  go_wp2_with fail
  refine CP.out.mono ?_
  rintro e w5 ⟨rfl, hb5⟩
  have HB6 := Hid.mk (HB5.out.trans (hb5.mono HB5.out.size))
  clear hb5 heq hgd
  go_wp2
  go_ret
  exact ⟨rfl, HB6.out⟩
end Go.Proofs.Ytnkgbinogblemaa
