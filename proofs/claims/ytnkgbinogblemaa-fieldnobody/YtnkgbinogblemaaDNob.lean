/- A field that nobody made answers nothing. -/
import Derived.Test.YtnkgbinogblemaaDAwk
namespace Go.Proofs.Ytnkgbinogblemaa
open Go.RowKit

/-- What a field that nobody made is: nil, or one that lies in a block, with no self. -/
def Nob (w : World) (v : Value) : Prop := v = .pointer none ∨ ∃ b, v = .pointer (some ⟨b, 0, none⟩) ∧ b < w.heap.size ∧ w.cell? ⟨b, 0, none⟩ = some (.pointer none)
theorem Nob.below {w w' : World} {v : Value} (h : Nob w v) (hb : Below w.heap.size w w') : Nob w' v := by
  rcases h with h | ⟨b, e, hl, hc⟩
  · exact .inl h
  · exact .inr ⟨b, e, Nat.lt_of_lt_of_le hl hb.size, (hb.cell (p := ⟨b, 0, none⟩) hl).trans hc⟩
theorem givenN_any {w : World} {v : Value} (h : Nob w v) : Calls Try.prog 22 #[v] w fun e w' => e = .returned (.bool false) ∧ w' = w := by
  rcases h with rfl | ⟨b, rfl, _, h⟩
  · exact given_nil w
  · exact given_not b w h
section
variable {w : World} {v : Value}
set_option maxRecDepth 100000 in
theorem sendN_any (h : Nob w v) (fr to : Int) (s : ByteArray) : Calls Try.prog 10 #[v, .int .i64 fr, .int .i64 to, .string s] w fun e w' => e = .returned (.tuple #[.int .i64 0, .int .i64 1]) ∧ w' = w := by
  have C := Hid.mk (givenN_any h)
  clear h
  go_enter Try.func10, Try.ntmps10
  go_wp2_with fail
  refine C.out.mono ?_
  rintro e w1 ⟨rfl, hw⟩
  rw [hw]; clear hw
  go_wp2
  go_ret2
  exact ⟨rfl, rfl⟩
set_option maxRecDepth 100000 in
theorem copyN_any (h : Nob w v) (n : Int) : Calls Try.prog 14 #[v, .int .i64 n] w fun e w' => e = .returned (.tuple #[.int .i64 0, .int .i64 1]) ∧ w' = w := by
  have C := Hid.mk (givenN_any h)
  clear h
  go_enter Try.func14, Try.ntmps14
  go_wp2_with fail
  refine C.out.mono ?_
  rintro e w1 ⟨rfl, hw⟩
  rw [hw]; clear hw
  go_wp2
  go_ret2
  exact ⟨rfl, rfl⟩
set_option maxRecDepth 100000 in
theorem idsN_any (h : Nob w v) : Calls Try.prog 21 #[v] w fun e w' => e = .returned (.slice none 0 0) ∧ w' = w := by
  have C := Hid.mk (givenN_any h)
  clear h
  go_enter Try.func21, Try.ntmps21
  go_wp2_with fail
  refine C.out.mono ?_
  rintro e w1 ⟨rfl, hw⟩
  rw [hw]; clear hw
  go_wp2
  go_ret
  exact ⟨rfl, rfl⟩
set_option maxRecDepth 100000 in
theorem pickN_any (h : Nob w v) (n : Int) : Calls Try.prog 16 #[v, .int .i64 n] w fun e w' => e = .returned (.int .i64 (-1)) ∧ w' = w := by
  have C := Hid.mk (givenN_any h)
  clear h
  go_enter Try.func16, Try.ntmps16
  go_wp2_with fail
  refine C.out.mono ?_
  rintro e w1 ⟨rfl, hw⟩
  rw [hw]; clear hw
  go_wp2
  go_ret
  exact ⟨rfl, rfl⟩
set_option maxRecDepth 100000 in
theorem toN_any (h : Nob w v) (n : Int) : Calls Try.prog 19 #[v, .int .i64 n] w fun e w' => e = .returned (.slice none 0 0) ∧ w' = w := by
  have C := Hid.mk (givenN_any h)
  clear h
  go_enter Try.func19, Try.ntmps19
  go_wp2_with fail
  refine C.out.mono ?_
  rintro e w1 ⟨rfl, hw⟩
  rw [hw]; clear hw
  go_wp2
  go_ret
  exact ⟨rfl, rfl⟩
set_option maxRecDepth 100000 in
theorem arriveN_any (h : Nob w v) (n : Int) : Calls Try.prog 12 #[v, .int .i64 n] w fun e w' => e = .returned (.tuple #[.agg #[.int .i64 0, .int .i64 0, .int .i64 0, .string ⟨#[]⟩], .int .i64 1]) ∧ Below w.heap.size w w' := by
  have hb : Below w.heap.size w (w.alloc zP) := (Below.refl _ _).alloc (Nat.le_refl _) _
  have C := Hid.mk (givenN_any (h.below hb))
  have HB := Hid.mk hb
  clear h hb
  go_enter Try.func12, Try.ntmps12
  go_wp2_with fail
  refine C.out.mono ?_
  rintro e w1 ⟨rfl, hw⟩
  rw [hw]; clear hw
  obtain ⟨⟨x0, x1, x2, x3⟩, ⟨y0, y1, y2, y3⟩⟩ := four_cells (box_at w zP)
  go_wp2
  refine bodyPost_ret (v := .tuple #[.agg #[.int .i64 0, .int .i64 0, .int .i64 0, .string ⟨#[]⟩], .int .i64 1]) ?_ rfl ⟨rfl, HB.out⟩
  simp [results, Try.results12, go_sem]
end
set_option maxRecDepth 100000 in
set_option maxHeartbeats 2000000 in
theorem fieldNobody_walk (n : Int) (s : ByteArray) (w : World) (_hn : (Lit.int .i64 n).wf = true) (_hz : s.size ≤ 140737488351232) :
    Calls Try.prog 5 #[.int .i64 n, .string s] w fun e w' => e = .returned (.bool true) ∧ Below w.heap.size w w' := by
  clear _hn _hz
  obtain ⟨W, hW⟩ : ∃ W, W = (w.alloc (.cells #[.pointer none, .int .i64 0, .int .i64 0, .map none, .slice none 0 0] 61)).alloc (.cells #[.pointer none, .pointer (some ⟨w.heap.size, 0, none⟩)] 23) := ⟨_, rfl⟩
  have hb1 : Below w.heap.size w (w.alloc (.cells #[.pointer none, .int .i64 0, .int .i64 0, .map none, .slice none 0 0] 61)) := (Below.refl _ _).alloc (Nat.le_refl _) _
  have hbW : Below w.heap.size w W := by rw [hW]; exact hb1.alloc hb1.size _
  have b1 : Below (w.alloc (.cells #[.pointer none, .int .i64 0, .int .i64 0, .map none, .slice none 0 0] 61)).heap.size (w.alloc (.cells #[.pointer none, .int .i64 0, .int .i64 0, .map none, .slice none 0 0] 61)) W := by rw [hW]; exact (Below.refl _ _).alloc (Nat.le_refl _) _
  have q1 : W.heap[w.heap.size]? = some (.cells #[.pointer none, .int .i64 0, .int .i64 0, .map none, .slice none 0 0] 61) := (b1.block _ (by simp)).trans (box_at w _)
  have q2 : W.heap[w.heap.size + 1]? = some (.cells #[.pointer none, .pointer (some ⟨w.heap.size, 0, none⟩)] 23) := by
    rw [hW]
    have := box_at (w.alloc (.cells #[.pointer none, .int .i64 0, .int .i64 0, .map none, .slice none 0 0] 61)) (.cells #[.pointer none, .pointer (some ⟨w.heap.size, 0, none⟩)] 23)
    simpa using this
  have HBW := Hid.mk hbW
  have HV : Hid (∀ (i : Nat), i < 2 → ∃ u, W.cell? ⟨w.heap.size + 1, i, none⟩ = some u ∧ Nob W u) := Hid.mk (fun i hi => by
    match i, hi with
    | 0, _ => exact ⟨.pointer none, by simp only [World.cell?, q2]; rfl, .inl rfl⟩
    | 1, _ => exact ⟨.pointer (some ⟨w.heap.size, 0, none⟩), by simp only [World.cell?, q2]; rfl, .inr ⟨_, rfl, lt_of_block q1, by simp only [World.cell?, q1]; rfl⟩⟩)
  have CA : Hid (∀ X, Calls Try.prog 9 #[] X fun e w' => e = .returned (.bool true) ∧ Below X.heap.size X w') := Hid.mk (fun X => awake_any X)
  have HLT : Hid (w.heap.size + 1 < W.heap.size) := Hid.mk (lt_of_block q2)
  have HWE := Hid.mk hW
  clear hb1 hbW q1 q2 hW b1
  go_enter Try.func5, Try.ntmps5
  go_wp2_with fail
  rw [← HWE.out]
  go_loopw [6] (fun c wr => ∃ i : Nat, i ≤ 2 ∧ c = .int .i64 i ∧ Below W.heap.size W wr) (fun c _ => 2 - (intOf c).toNat)
  case atStart => exact ⟨0, by omega, rfl, Below.refl _ _⟩
  case round =>
    obtain ⟨i, hi, rfl, hbq⟩ := hrel
    obtain ⟨wx, hwx⟩ : ∃ wx, wx = wr := ⟨_, rfl⟩
    subst hwx
    have HBQ := Hid.mk hbq
    clear hbq
    by_cases hlt : i < 2
    · have hltI : (i : Int) < 2 := by omega
      obtain ⟨u, hu, hnob⟩ := HV.out i hlt
      have HU : Hid (∀ X, Below W.heap.size W X → X.cell? ⟨w.heap.size + 1, i, none⟩ = some u ∧ Nob X u) := Hid.mk (fun X hX => ⟨(hX.cell (p := ⟨w.heap.size + 1, i, none⟩) HLT.out).trans hu, hnob.below hX⟩)
      obtain ⟨u1, n1⟩ := HU.out _ HBQ.out
      have C1 := Hid.mk (sendN_any n1 0 0 s)
      have C2 := Hid.mk (arriveN_any n1 n)
      clear hu hnob n1
      go_wp2_with fail
      refine C1.out.mono ?_
      rintro e w1 ⟨rfl, hw⟩
      rw [hw]; clear hw C1 w1
      go_wp2_with fail
      refine C2.out.mono ?_
      rintro e w2 ⟨rfl, hb2⟩
      have HB2 : Hid (Below W.heap.size W (w2.alloc zP)) := Hid.mk ((HBQ.out.trans (hb2.mono HBQ.out.size)).alloc (Nat.le_trans HBQ.out.size hb2.size) _)
      clear hb2 C2 u1
      obtain ⟨u1, n1⟩ := HU.out _ HB2.out
      have C3 := Hid.mk (copyN_any n1 n)
      have C4 := Hid.mk (idsN_any n1)
      have C5 := Hid.mk (pickN_any n1 n)
      have C6 := Hid.mk (toN_any n1 0)
      have heq := eqP_same 0 0 0 ⟨#[]⟩ (w2.alloc zP)
      have hgd := guardP
      clear n1
      go_wp2_with fail
      refine C3.out.mono ?_
      rintro e w1 ⟨rfl, hw⟩
      rw [hw]; clear hw w1
      go_wp2_with fail
      refine C4.out.mono ?_
      rintro e w1 ⟨rfl, hw⟩
      rw [hw]; clear hw w1
      go_wp2_with fail
      refine C5.out.mono ?_
      rintro e w1 ⟨rfl, hw⟩
      rw [hw]; clear hw w1
      go_wp2_with fail
      refine C6.out.mono ?_
      rintro e w1 ⟨rfl, hw⟩
      rw [hw]; clear hw w1
      go_wp2
      go_roundw
      case rel => exact ⟨i + 1, by omega, by go_num, HB2.out⟩
      case measure => simp [intOf]; omega
    · have hltI : ¬ (i : Int) < 2 := by omega
      have C := Hid.mk (CA.out wx)
      go_wp2_with fail
      refine C.out.mono ?_
      rintro x w1 ⟨rfl, hb1⟩
      have HE : Hid (Below w.heap.size w w1) := Hid.mk ((HBW.out.trans (HBQ.out.mono HBW.out.size)).trans (hb1.mono (Nat.le_trans HBW.out.size HBQ.out.size)))
      clear hb1
      go_wp2
      go_ret
      exact ⟨rfl, HE.out⟩
end Go.Proofs.Ytnkgbinogblemaa
