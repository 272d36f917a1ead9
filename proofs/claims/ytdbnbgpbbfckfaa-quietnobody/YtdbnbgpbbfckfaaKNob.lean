/- A node that nobody made answers nothing. -/
import Derived.Test.YtdbnbgpbbfckfaaKQuiet
namespace Go.Proofs.Ytdbnbgpbbfckfaa
open Go.RowKit

/-- What a node that nobody made is: nil, or one that lies in a block, with no self. -/
def Nob (w : World) (v : Value) : Prop := v = .pointer none ∨ ∃ b, v = .pointer (some ⟨b, 0, none⟩) ∧ w.cell? ⟨b, 0, none⟩ = some (.pointer none)
theorem givenN_any {w : World} {v : Value} (h : Nob w v) : Calls Try.prog 22 #[v] w fun e w' => e = .returned (.bool false) ∧ w' = w := by
  rcases h with rfl | ⟨b, rfl, h⟩
  · exact given_nil w
  · exact given_not b w h
section
variable {w : World} {v : Value}
set_option maxRecDepth 100000 in
theorem takeN_any (h : Nob w v) (z : Int) : Calls Try.prog 15 #[v, .int .i64 z] w fun e w' => e = .returned (.tuple #[.int .i64 (-1), .int .i64 1]) ∧ w' = w := by
  have C := Hid.mk (givenN_any h)
  clear h
  go_enter Try.func15, Try.ntmps15
  go_wp2_with fail
  refine C.out.mono ?_
  rintro e w1 ⟨rfl, hw⟩
  rw [hw]
  clear hw
  go_wp2
  go_ret2
  exact ⟨rfl, rfl⟩
set_option maxRecDepth 100000 in
theorem restN_any (h : Nob w v) : Calls Try.prog 16 #[v] w fun e w' => e = .returned (.tuple #[.int .i64 (-1), .int .i64 1]) ∧ w' = w := by
  have C := Hid.mk (givenN_any h)
  clear h
  go_enter Try.func16, Try.ntmps16
  go_wp2_with fail
  refine C.out.mono ?_
  rintro e w1 ⟨rfl, hw⟩
  rw [hw]
  clear hw
  go_wp2
  go_ret2
  exact ⟨rfl, rfl⟩
set_option maxRecDepth 100000 in
theorem sendN_any (h : Nob w v) (z : Int) : Calls Try.prog 17 #[v, .int .i64 z] w fun e w' => e = .returned (.int .i64 1) ∧ w' = w := by
  have C := Hid.mk (givenN_any h)
  clear h
  go_enter Try.func17, Try.ntmps17
  go_wp2_with fail
  refine C.out.mono ?_
  rintro e w1 ⟨rfl, hw⟩
  rw [hw]
  clear hw
  go_wp2
  go_ret
  exact ⟨rfl, rfl⟩
set_option maxRecDepth 100000 in
theorem toldN_any (h : Nob w v) : Calls Try.prog 18 #[v] w fun e w' => e = .returned (.int .i64 1) ∧ w' = w := by
  have C := Hid.mk (givenN_any h)
  clear h
  go_enter Try.func18, Try.ntmps18
  go_wp2_with fail
  refine C.out.mono ?_
  rintro e w1 ⟨rfl, hw⟩
  rw [hw]
  clear hw
  go_wp2
  go_ret
  exact ⟨rfl, rfl⟩
set_option maxRecDepth 100000 in
theorem owesN_any (h : Nob w v) : Calls Try.prog 19 #[v] w fun e w' => e = .returned (.int .i64 0) ∧ w' = w := by
  have C := Hid.mk (givenN_any h)
  clear h
  go_enter Try.func19, Try.ntmps19
  go_wp2_with fail
  refine C.out.mono ?_
  rintro e w1 ⟨rfl, hw⟩
  rw [hw]
  clear hw
  go_wp2
  go_ret
  exact ⟨rfl, rfl⟩
set_option maxRecDepth 100000 in
theorem worksN_any (h : Nob w v) : Calls Try.prog 20 #[v] w fun e w' => e = .returned (.bool false) ∧ w' = w := by
  have C := Hid.mk (givenN_any h)
  clear h
  go_enter Try.func20, Try.ntmps20
  go_wp2_with fail
  refine C.out.mono ?_
  rintro e w1 ⟨rfl, hw⟩
  rw [hw]
  clear hw
  go_wp2
  go_ret
  exact ⟨rfl, rfl⟩
set_option maxRecDepth 100000 in
theorem doneN_any (h : Nob w v) : Calls Try.prog 12 #[v] w fun e w' => e = .returned (.bool false) ∧ w' = w := by
  have C := Hid.mk (givenN_any h)
  clear h
  go_enter Try.func12, Try.ntmps12
  go_wp2_with fail
  refine C.out.mono ?_
  rintro e w1 ⟨rfl, hw⟩
  rw [hw]
  clear hw
  go_wp2
  go_ret
  exact ⟨rfl, rfl⟩
end
set_option maxRecDepth 100000 in
set_option maxHeartbeats 4000000 in
theorem quietNobody_walk (z : Int) (w : World) (_ : (Lit.int .i64 z).wf = true) :
    Calls Try.prog 5 #[.int .i64 z] w fun e w' => e = .returned (.bool true) ∧ Below w.heap.size w w' := by
  obtain ⟨W1, hW1⟩ : ∃ W, W = w.alloc (.cells #[.pointer none, .int .i64 0, .int .i64 0, .int .i64 0, .bool false, .bool false] 39) := ⟨_, rfl⟩
  obtain ⟨W2, hW2⟩ : ∃ W, W = W1.alloc (.cells #[.pointer none, .pointer (some ⟨w.heap.size, 0, none⟩)] 32) := ⟨_, rfl⟩
  have hs1 : W1.heap.size = w.heap.size + 1 := by rw [hW1]; simp
  have HB2 : Hid (Below w.heap.size w W2) := Hid.mk (by rw [hW2]; exact Below.alloc (by rw [hW1]; exact (Below.refl _ _).alloc (Nat.le_refl _) _) (by omega) _)
  have q0 : W2.cell? ⟨w.heap.size + 1, 0, none⟩ = some (.pointer none) := by
    have h : W2.heap[w.heap.size + 1]? = some (.cells #[.pointer none, .pointer (some ⟨w.heap.size, 0, none⟩)] 32) := by rw [hW2, ← hs1]; exact heap_alloc_new _ _
    simp [World.cell?, h]
  have q1 : W2.cell? ⟨w.heap.size + 1, 1, none⟩ = some (.pointer (some ⟨w.heap.size, 0, none⟩)) := by
    have h : W2.heap[w.heap.size + 1]? = some (.cells #[.pointer none, .pointer (some ⟨w.heap.size, 0, none⟩)] 32) := by rw [hW2, ← hs1]; exact heap_alloc_new _ _
    simp [World.cell?, h]
  have q2 : W2.cell? ⟨w.heap.size, 0, none⟩ = some (.pointer none) := by
    have h : W2.heap[w.heap.size]? = some (.cells #[.pointer none, .int .i64 0, .int .i64 0, .int .i64 0, .bool false, .bool false] 39) := by
      rw [hW2, heap_alloc_old _ _ (by omega), hW1]; exact heap_alloc_new _ _
    simp [World.cell?, h]
  have CAW := Hid.mk (awake_any W2)
  obtain ⟨b, hb⟩ : ∃ b, b = w.heap.size := ⟨_, rfl⟩
  obtain ⟨c, hc⟩ : ∃ c, c = w.heap.size + 1 := ⟨_, rfl⟩
  rw [← hc, ← hb] at q1
  rw [← hc] at q0
  rw [← hb] at q2
  have HW2 : Hid (W2 = (w.alloc (.cells #[.pointer none, .int .i64 0, .int .i64 0, .int .i64 0, .bool false, .bool false] 39)).alloc (.cells #[.pointer none, .pointer (some ⟨w.heap.size, 0, none⟩)] 32)) := Hid.mk (by rw [hW2, hW1])
  have HBB := Hid.mk hb
  have HCC := Hid.mk hc
  clear hW1 hW2 hs1 hb hc
  go_enter Try.func5, Try.ntmps5
  go_wp2_with fail
  rw [← HW2.out, ← HCC.out]
  go_loopw [4] (fun x wr => (x = .int .i64 0 ∨ x = .int .i64 1 ∨ x = .int .i64 2) ∧ W2 = wr) (fun x _ => 2 - (intOf x).toNat)
  case atStart => exact ⟨.inl rfl, rfl⟩
  case round =>
    obtain ⟨hx, rfl⟩ := hrel
    rcases hx with rfl | rfl | rfl
    · skip
      have H : Nob W2 (.pointer none) := .inl rfl
      have C0 := Hid.mk (takeN_any H z)
      have C1 := Hid.mk (restN_any H)
      have C2 := Hid.mk (sendN_any H z)
      have C3 := Hid.mk (toldN_any H)
      have C4 := Hid.mk (owesN_any H)
      have C5 := Hid.mk (worksN_any H)
      have C6 := Hid.mk (doneN_any H)
      clear H
      go_wp2_with fail
      refine C0.out.mono ?_
      rintro e wq ⟨rfl, hw⟩
      rw [hw]
      clear hw
      go_wp2_with fail
      refine C1.out.mono ?_
      rintro e wq ⟨rfl, hw⟩
      rw [hw]
      clear hw
      go_wp2_with fail
      refine C2.out.mono ?_
      rintro e wq ⟨rfl, hw⟩
      rw [hw]
      clear hw
      go_wp2_with fail
      refine C3.out.mono ?_
      rintro e wq ⟨rfl, hw⟩
      rw [hw]
      clear hw
      go_wp2_with fail
      refine C4.out.mono ?_
      rintro e wq ⟨rfl, hw⟩
      rw [hw]
      clear hw
      go_wp2_with fail
      refine C5.out.mono ?_
      rintro e wq ⟨rfl, hw⟩
      rw [hw]
      clear hw
      go_wp2_with fail
      refine C6.out.mono ?_
      rintro e wq ⟨rfl, hw⟩
      rw [hw]
      clear hw
      go_wp2
      go_roundw
      case rel => exact ⟨.inr (.inl rfl), by trivial⟩
      case measure => simp [intOf]
    · skip
      have H : Nob W2 (.pointer (some ⟨b, 0, none⟩)) := .inr ⟨b, rfl, q2⟩
      have C0 := Hid.mk (takeN_any H z)
      have C1 := Hid.mk (restN_any H)
      have C2 := Hid.mk (sendN_any H z)
      have C3 := Hid.mk (toldN_any H)
      have C4 := Hid.mk (owesN_any H)
      have C5 := Hid.mk (worksN_any H)
      have C6 := Hid.mk (doneN_any H)
      clear H
      go_wp2_with fail
      refine C0.out.mono ?_
      rintro e wq ⟨rfl, hw⟩
      rw [hw]
      clear hw
      go_wp2_with fail
      refine C1.out.mono ?_
      rintro e wq ⟨rfl, hw⟩
      rw [hw]
      clear hw
      go_wp2_with fail
      refine C2.out.mono ?_
      rintro e wq ⟨rfl, hw⟩
      rw [hw]
      clear hw
      go_wp2_with fail
      refine C3.out.mono ?_
      rintro e wq ⟨rfl, hw⟩
      rw [hw]
      clear hw
      go_wp2_with fail
      refine C4.out.mono ?_
      rintro e wq ⟨rfl, hw⟩
      rw [hw]
      clear hw
      go_wp2_with fail
      refine C5.out.mono ?_
      rintro e wq ⟨rfl, hw⟩
      rw [hw]
      clear hw
      go_wp2_with fail
      refine C6.out.mono ?_
      rintro e wq ⟨rfl, hw⟩
      rw [hw]
      clear hw
      go_wp2
      go_roundw
      case rel => exact ⟨.inr (.inr rfl), by trivial⟩
      case measure => simp [intOf]
    · go_wp2_with fail
      refine CAW.out.mono ?_
      rintro e w3 ⟨rfl, hb3⟩
      have HB3 : Hid (Below w.heap.size w w3) := Hid.mk (HB2.out.trans (hb3.mono HB2.out.size))
      clear hb3
      go_wp2
      go_ret
      exact ⟨rfl, HB3.out⟩
end Go.Proofs.Ytdbnbgpbbfckfaa
