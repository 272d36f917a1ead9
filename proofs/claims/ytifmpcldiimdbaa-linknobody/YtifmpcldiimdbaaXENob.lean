/- LinkNobody: an end that nobody made (nil, or a zero one) answers nothing to Put, Take, Tick, Waits and Other, for every note and every text that the memory of the model bears. -/
import Derived.Test.YtifmpcldiimdbaaZJ
import Derived.Test.YtifmpcldiimdbaaZF
namespace Go.Proofs.Ytifmpcldiimdbaa
open Go.RowKit Go.Shelf

/-- What an end that nobody made is: nil, or one that lies in a block, with no self. -/
def Nob (w : World) (v : Value) : Prop := v = .pointer none ∨ ∃ b, v = .pointer (some ⟨b, 0, none⟩) ∧ b < w.heap.size ∧ w.cell? ⟨b, 0, none⟩ = some (.pointer none)
theorem Nob.below {w w' : World} {v : Value} (h : Nob w v) (hb : Below w.heap.size w w') : Nob w' v := by
  rcases h with h | ⟨b, e, hl, hc⟩
  · exact .inl h
  · exact .inr ⟨b, e, Nat.lt_of_lt_of_le hl hb.size, (hb.cell (p := ⟨b, 0, none⟩) hl).trans hc⟩
theorem givenN_any {w : World} {v : Value} (h : Nob w v) : Calls Try.prog 31 #[v] w fun e w' => e = .returned (.bool false) ∧ w' = w := by
  rcases h with rfl | ⟨b, rfl, _, h⟩
  · exact given_nil w
  · exact given_not b w h
section
variable {w : World} {v : Value}
set_option maxRecDepth 100000 in
theorem putN_any (h : Nob w v) (k : Int) (u1 u2 u3 : Value) : Calls Try.prog 13 #[v, .agg #[.int .i64 k, u1, u2, u3]] w fun e w' => e = .returned (.tuple #[.slice none 0 0, .int .i64 1]) ∧ Below w.heap.size w w' := by
  have hb : Below w.heap.size w (w.alloc (.cells #[.int .i64 k, u1, u2, u3] 36)) := (Below.refl _ _).alloc (Nat.le_refl _) _
  have C := Hid.mk (givenN_any (h.below hb))
  have HB := Hid.mk hb
  clear h hb
  go_enter Try.func13, Try.ntmps13
  go_wp2_with fail
  refine C.out.mono ?_
  rintro e w1 ⟨rfl, hw⟩
  rw [hw]; clear hw
  go_wp2
  go_ret2
  exact ⟨rfl, HB.out⟩
set_option maxRecDepth 100000 in
theorem tickN_any (h : Nob w v) : Calls Try.prog 16 #[v] w fun e w' => e = .returned (.slice none 0 0) ∧ w' = w := by
  have C := Hid.mk (givenN_any h)
  clear h
  go_enter Try.func16, Try.ntmps16
  go_wp2_with fail
  refine C.out.mono ?_
  rintro e w1 ⟨rfl, hw⟩
  rw [hw]; clear hw
  go_wp2
  go_ret
  exact ⟨rfl, rfl⟩
set_option maxRecDepth 100000 in
theorem waitsN_any (h : Nob w v) : Calls Try.prog 22 #[v] w fun e w' => e = .returned (.int .i64 0) ∧ w' = w := by
  have C := Hid.mk (givenN_any h)
  clear h
  go_enter Try.func22, Try.ntmps22
  go_wp2_with fail
  refine C.out.mono ?_
  rintro e w1 ⟨rfl, hw⟩
  rw [hw]; clear hw
  go_wp2
  go_ret
  exact ⟨rfl, rfl⟩
set_option maxRecDepth 100000 in
theorem otherN_any (h : Nob w v) : Calls Try.prog 23 #[v] w fun e w' => e = .returned (.int .i64 0) ∧ w' = w := by
  have C := Hid.mk (givenN_any h)
  clear h
  go_enter Try.func23, Try.ntmps23
  go_wp2_with fail
  refine C.out.mono ?_
  rintro e w1 ⟨rfl, hw⟩
  rw [hw]; clear hw
  go_wp2
  go_ret
  exact ⟨rfl, rfl⟩
set_option maxRecDepth 100000 in
theorem takeN_any (h : Nob w v) (s : ByteArray) : Calls Try.prog 19 #[v, .string s] w fun e w' => e = .returned (.agg #[.slice none 0 0, .slice none 0 0, .bool false]) ∧ Below w.heap.size w w' := by
  have hb : Below w.heap.size w (w.alloc (.cells #[.slice none 0 0, .slice none 0 0, .bool false] 50)) := (Below.refl _ _).alloc (Nat.le_refl _) _
  have C := Hid.mk (givenN_any (h.below hb))
  have hr := box_at w (.cells #[.slice none 0 0, .slice none 0 0, .bool false] 50)
  obtain ⟨⟨r0, r1, r2⟩, ⟨s0, s1, s2⟩⟩ := three_cells hr
  obtain ⟨⟨z0, z1, z2⟩, -⟩ := three_cells (set3_block hr (.slice none 0 0) (.slice none 0 0) (.bool false))
  have Z0 := Hid.mk z0
  have Z1 := Hid.mk z1
  have Z2 := Hid.mk z2
  have HE : Hid ((Ending.returned (.agg #[.slice none 0 0, .slice none 0 0, .bool false]) = .returned (.agg #[.slice none 0 0, .slice none 0 0, .bool false])) ∧ Below w.heap.size w (set3 (w.alloc (.cells #[.slice none 0 0, .slice none 0 0, .bool false] 50)) w.heap.size (.slice none 0 0) (.slice none 0 0) (.bool false))) := Hid.mk ⟨rfl, ((hb.setCell (p := ⟨w.heap.size, 0, none⟩) (Nat.le_refl _) _).setCell (p := ⟨w.heap.size, 1, none⟩) (Nat.le_refl _) _).setCell (p := ⟨w.heap.size, 2, none⟩) (Nat.le_refl _) _⟩
  clear h hb hr z0 z1 z2
  go_enter Try.func19, Try.ntmps19
  go_wp2_with fail
  refine C.out.mono ?_
  rintro e w1 ⟨rfl, hw⟩
  rw [hw]; clear hw
  go_wp2
  first
    | (refine bodyPost_ret (v := .agg #[.slice none 0 0, .slice none 0 0, .bool false]) ?_ rfl HE.out
       simp [results, Try.results19, go_sem, Z0.out, Z1.out, Z2.out])
    | (refine bodyPost_ret (v := .agg #[.slice none 0 0, .slice none 0 0, .bool false]) ?_ rfl ⟨rfl, (Below.refl _ _).alloc (Nat.le_refl _) _⟩
       simp [results, Try.results19, go_sem])
end
set_option maxRecDepth 100000 in
set_option maxHeartbeats 2000000 in
theorem linkNobody_walk (v : Value) (n : NoteD) (s : ByteArray) (w : World) (hn : NoteAt w v n) (_hs : n.sane) (_hz : s.size ≤ 140737488351232) :
    Calls Try.prog 7 #[v, .string s] w fun e w' => e = .returned (.bool true) ∧ Below w.heap.size w w' := by
  obtain ⟨vn, vt, vr, rfl, -, -, -⟩ := hn
  obtain ⟨kd, hkd⟩ : ∃ k, n.kind = k := ⟨_, rfl⟩
  rw [hkd]
  clear hkd _hs _hz n
  obtain ⟨W, hW⟩ : ∃ W, W = ((w.alloc (.cells #[.int .i64 kd, vn, vt, vr] 36)).alloc (.cells #[.pointer none, .int .i64 0, .int .i64 0, .int .i64 0, .int .i64 0, .slice none 0 0] 75)).alloc (.cells #[.pointer none, .pointer (some ⟨w.heap.size + 1, 0, none⟩)] 23) := ⟨_, rfl⟩
  have hb1 : Below w.heap.size w (w.alloc (.cells #[.int .i64 kd, vn, vt, vr] 36)) := (Below.refl _ _).alloc (Nat.le_refl _) _
  have hb2 := hb1.alloc (o := .cells #[.pointer none, .int .i64 0, .int .i64 0, .int .i64 0, .int .i64 0, .slice none 0 0] 75) hb1.size
  have hbW : Below w.heap.size w W := by rw [hW]; exact hb2.alloc hb2.size _
  have q0 : W.heap[w.heap.size]? = some (.cells #[.int .i64 kd, vn, vt, vr] 36) := by rw [hW]; exact alloc_old (alloc_old (box_at w _))
  have q1 : W.heap[w.heap.size + 1]? = some (.cells #[.pointer none, .int .i64 0, .int .i64 0, .int .i64 0, .int .i64 0, .slice none 0 0] 75) := by
    rw [hW]
    have := box_at (w.alloc (.cells #[.int .i64 kd, vn, vt, vr] 36)) (.cells #[.pointer none, .int .i64 0, .int .i64 0, .int .i64 0, .int .i64 0, .slice none 0 0] 75)
    exact alloc_old (by simpa using this)
  have q2 : W.heap[w.heap.size + 2]? = some (.cells #[.pointer none, .pointer (some ⟨w.heap.size + 1, 0, none⟩)] 23) := by
    rw [hW]
    have := box_at ((w.alloc (.cells #[.int .i64 kd, vn, vt, vr] 36)).alloc (.cells #[.pointer none, .int .i64 0, .int .i64 0, .int .i64 0, .int .i64 0, .slice none 0 0] 75)) (.cells #[.pointer none, .pointer (some ⟨w.heap.size + 1, 0, none⟩)] 23)
    simpa using this
  have HBW := Hid.mk hbW
  have HV : Hid (∀ (i : Nat), i < 2 → ∃ u, W.cell? ⟨w.heap.size + 2, i, none⟩ = some u ∧ Nob W u) := Hid.mk (fun i hi => by
    match i, hi with
    | 0, _ => exact ⟨.pointer none, by simp only [World.cell?, q2]; rfl, .inl rfl⟩
    | 1, _ => exact ⟨.pointer (some ⟨w.heap.size + 1, 0, none⟩), by simp only [World.cell?, q2]; rfl, .inr ⟨_, rfl, lt_of_block q1, by simp only [World.cell?, q1]; rfl⟩⟩)
  have HN : Hid (∀ X, Below W.heap.size W X → X.cell? ⟨w.heap.size, 0, none⟩ = some (.int .i64 kd) ∧ X.cell? ⟨w.heap.size, 1, none⟩ = some vn ∧ X.cell? ⟨w.heap.size, 2, none⟩ = some vt ∧ X.cell? ⟨w.heap.size, 3, none⟩ = some vr) := Hid.mk (fun X hX => (four_cells (kpB hX q0)).1)
  have CA : Hid (∀ X, Calls Try.prog 11 #[] X fun e w' => e = .returned (.bool true) ∧ Below X.heap.size X w') := Hid.mk (fun X => awake_any X)
  have HLT : Hid (w.heap.size + 2 < W.heap.size) := Hid.mk (lt_of_block q2)
  have HWE := Hid.mk hW
  clear hb1 hb2 hbW q0 q1 q2 hW
  go_enter Try.func7, Try.ntmps7
  go_wp2_with fail
  rw [← HWE.out]
  go_loopw [6] (fun c wr => ∃ i : Nat, i ≤ 2 ∧ c = .int .i64 i ∧ Below W.heap.size W wr) (fun c _ => 2 - (intOf c).toNat)
  case atStart => exact ⟨0, by omega, rfl, Below.refl _ _⟩
  case round =>
    obtain ⟨i, hi, rfl, hbq⟩ := hrel
    obtain ⟨wx, hwx⟩ : ∃ wx, wx = wr := ⟨_, rfl⟩
    subst hwx
    have HBQ := Hid.mk hbq
    clear hbq
    by_cases hlt : i < 2
    · have hltI : (i : Int) < 2 := by omega
      obtain ⟨u, hu, hnob⟩ := HV.out i hlt
      have HU : Hid (∀ X, Below W.heap.size W X → X.cell? ⟨w.heap.size + 2, i, none⟩ = some u ∧ Nob X u) := Hid.mk (fun X hX => ⟨(hX.cell (p := ⟨w.heap.size + 2, i, none⟩) HLT.out).trans hu, hnob.below hX⟩)
      have KS : Hid (∀ X, Below W.heap.size W X → X.cell? ⟨w.heap.size + 2, i, none⟩ = some u ∧ X.cell? ⟨w.heap.size, 0, none⟩ = some (.int .i64 kd) ∧ X.cell? ⟨w.heap.size, 1, none⟩ = some vn ∧ X.cell? ⟨w.heap.size, 2, none⟩ = some vt ∧ X.cell? ⟨w.heap.size, 3, none⟩ = some vr) := Hid.mk (fun X hX => ⟨(HU.out X hX).1, HN.out X hX⟩)
      have CP := Hid.mk (putN_any (HU.out _ (below_drewE HBQ.out)).2 kd vn vt vr)
      have HBD : Hid (Below W.heap.size W wx.drew) := Hid.mk (below_drewE HBQ.out)
      clear hu hnob
      go_wp2_with fail
      go_region_held3 (fun y => y.cell? ⟨w.heap.size + 2, i, none⟩ = some u ∧ y.cell? ⟨w.heap.size, 0, none⟩ = some (.int .i64 kd) ∧ y.cell? ⟨w.heap.size, 1, none⟩ = some vn ∧ y.cell? ⟨w.heap.size, 2, none⟩ = some vt ∧ y.cell? ⟨w.heap.size, 3, none⟩ = some vr)
        (first | with_reducible exact KS.out _ (HBD.out.trans (hb1.mono HBD.out.size)) | with_reducible exact KS.out _ HBD.out | with_reducible exact KS.out _ HBQ.out)
        (first | (with_reducible refine CP.out.mono ?_; rintro x w1 ⟨rfl, hb1⟩))
      have HB1 : Hid (Below W.heap.size W w1) := Hid.mk (HBD.out.trans (hb1.mono HBD.out.size))
      have CT := Hid.mk (takeN_any (HU.out _ HB1.out).2 s)
      obtain ⟨u1, -⟩ := HU.out _ HB1.out
      clear hb1 CP
      go_wp2_with fail
      refine CT.out.mono ?_
      rintro x w2 ⟨rfl, hb2⟩
      have HB2 : Hid (Below W.heap.size W (w2.alloc (.cells #[.slice none 0 0, .slice none 0 0, .bool false] 50))) := Hid.mk ((HB1.out.trans (hb2.mono HB1.out.size)).alloc (Nat.le_trans HB1.out.size hb2.size) _)
      obtain ⟨u2, hn2⟩ := HU.out _ HB2.out
      obtain ⟨⟨x0, x1, x2⟩, -⟩ := three_cells (box_at w2 (.cells #[.slice none 0 0, .slice none 0 0, .bool false] 50))
      have C1 := Hid.mk (tickN_any hn2)
      have C2 := Hid.mk (waitsN_any hn2)
      have C3 := Hid.mk (otherN_any hn2)
      clear hb2 hn2 u1 CT
      go_wp2_with fail
      refine C1.out.mono ?_
      rintro x w3 ⟨rfl, hw⟩
      rw [hw]; clear hw C1 w3
      go_wp2_with fail
      refine C2.out.mono ?_
      rintro x w3 ⟨rfl, hw⟩
      rw [hw]; clear hw C2 w3
      go_wp2_with fail
      refine C3.out.mono ?_
      rintro x w3 ⟨rfl, hw⟩
      rw [hw]; clear hw C3 w3
      go_wp2
      go_roundw
      case rel => exact ⟨i + 1, by omega, by go_num, HB2.out⟩
      case measure => simp [intOf]; omega
    · have hltI : ¬ (i : Int) < 2 := by omega
      have C := Hid.mk (CA.out wx)
      go_wp2_with fail
      refine C.out.mono ?_
      rintro x w1 ⟨rfl, hb1⟩
      have HE : Hid (Below w.heap.size w w1) := Hid.mk ((HBW.out.trans (HBQ.out.mono HBW.out.size)).trans (hb1.mono (Nat.le_trans HBW.out.size HBQ.out.size)))
      clear hb1
      go_wp2
      go_ret
      exact ⟨rfl, HE.out⟩
end Go.Proofs.Ytifmpcldiimdbaa
