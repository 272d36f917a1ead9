/- The statement that a journal that nobody made answers nothing. -/
import Derived.Test.YtnepednomejniaaJAwake
namespace Go.Proofs.Ytnepednomejniaa
open Go.RowKit

/-- No journal that New gave. -/
def NotGiven (w : World) (v : Value) : Prop := v = .pointer none ∨ ∃ b, v = .pointer (some ⟨b, 0, none⟩) ∧ b < w.heap.size ∧ w.cell? ⟨b, 0, none⟩ = some (.pointer none)
theorem NotGiven.below {w w' : World} {v : Value} (h : NotGiven w v) (hb : Below w.heap.size w w') : NotGiven w' v := by
  rcases h with h | ⟨b, h1, h2, h3⟩
  · exact .inl h
  · exact .inr ⟨b, h1, Nat.lt_of_lt_of_le h2 hb.size, (hb.cell (p := ⟨b, 0, none⟩) h2).trans h3⟩
theorem given_no {w : World} {v : Value} (h : NotGiven w v) : Calls Try.prog 27 #[v] w fun e w' => e = .returned (.bool false) ∧ w' = w := by
  rcases h with rfl | ⟨b, rfl, _, h3⟩
  · exact given_nil w
  · exact given_not b w h3

set_option maxRecDepth 100000 in
theorem size_no {w : World} {v : Value} (h : NotGiven w v) : Calls Try.prog 14 #[v] w fun e w' => e = .returned (.tuple #[.int .i64 0, .int .i64 0]) ∧ Below w.heap.size w w' := by
  have C := Hid.mk (given_no h)
  go_enter Try.func14, Try.ntmps14
  go_wp2_with fail
  refine C.out.mono ?_
  rintro e w1 ⟨rfl, hw⟩
  subst hw
  go_wp2
  go_ret2
  exact ⟨rfl, Below.refl _ _⟩
set_option maxRecDepth 100000 in
theorem sure_no {w : World} {v : Value} (h : NotGiven w v) : Calls Try.prog 19 #[v] w fun e w' => e = .returned (.int .i64 1) ∧ Below w.heap.size w w' := by
  have C := Hid.mk (given_no h)
  go_enter Try.func19, Try.ntmps19
  go_wp2_with fail
  refine C.out.mono ?_
  rintro e w1 ⟨rfl, hw⟩
  subst hw
  go_wp2
  go_ret
  exact ⟨rfl, Below.refl _ _⟩
set_option maxRecDepth 100000 in
theorem notes_no {w : World} {v : Value} (h : NotGiven w v) : Calls Try.prog 16 #[v] w fun e w' => e = .returned (.slice none 0 0) ∧ Below w.heap.size w w' := by
  have C := Hid.mk (given_no h)
  go_enter Try.func16, Try.ntmps16
  go_wp2_with fail
  refine C.out.mono ?_
  rintro e w1 ⟨rfl, hw⟩
  subst hw
  go_wp2
  go_ret
  exact ⟨rfl, Below.refl _ _⟩
set_option maxRecDepth 100000 in
theorem begin_no {w : World} {v : Value} (h : NotGiven w v) (u : Value) : Calls Try.prog 21 #[v, u] w fun e w' => e = .returned (.int .i64 1) ∧ Below w.heap.size w w' := by
  have C := Hid.mk (given_no h)
  go_enter Try.func21, Try.ntmps21
  go_wp2_with fail
  refine C.out.mono ?_
  rintro e w1 ⟨rfl, hw⟩
  subst hw
  go_wp2
  go_ret
  exact ⟨rfl, Below.refl _ _⟩
set_option maxRecDepth 100000 in
theorem write_no {w : World} {v : Value} (h : NotGiven w v) (k : Int) (x1 x2 x3 : Value) : Calls Try.prog 18 #[v, .agg #[.int .i64 k, x1, x2, x3]] w fun e w' => e = .returned (.int .i64 1) ∧ Below w.heap.size w w' := by
  have bel : Below w.heap.size w (w.alloc (.cells #[.int .i64 k, x1, x2, x3] 37)) := (Below.refl _ _).alloc (Nat.le_refl _) _
  have C := Hid.mk (given_no (h.below bel))
  have HB := Hid.mk bel
  clear bel
  go_enter Try.func18, Try.ntmps18
  go_wp2_with fail
  refine C.out.mono ?_
  rintro e w1 ⟨rfl, hw⟩
  subst hw
  go_wp2
  go_ret
  exact ⟨rfl, HB.out⟩
set_option maxRecDepth 100000 in
theorem fail_no {w : World} {v : Value} (h : NotGiven w v) (k : Int) : Calls Try.prog 20 #[v, .int .i64 k] w fun e w' => e = .returned (.int .i64 1) ∧ Below w.heap.size w w' := by
  obtain ⟨p, rfl⟩ : ∃ p, v = .pointer p := by
    rcases h with rfl | ⟨b, rfl, _⟩
    · exact ⟨_, rfl⟩
    · exact ⟨_, rfl⟩
  have bel : Below w.heap.size w (w.alloc (.cells #[.pointer p] 23)) := (Below.refl _ _).alloc (Nat.le_refl _) _
  have C := Hid.mk (given_no (h.below bel))
  have HB := Hid.mk bel
  clear bel
  go_enter Try.func20, Try.ntmps20
  go_wp2_with fail
  refine C.out.mono ?_
  rintro e w1 ⟨rfl, hw⟩
  subst hw
  go_wp2
  go_ret
  exact ⟨rfl, HB.out⟩

set_option maxHeartbeats 4000000 in
set_option maxRecDepth 100000 in
theorem journalNobody_walk (va : Value) (n : NoteD) (k : Int) (w : World) (ha : NoteAt w va n) (_ : n.sane) (_ : (Lit.int .i64 k).wf = true) :
    Calls Try.prog 7 #[va, .int .i64 k] w fun e w' => e = .returned (.bool true) ∧ Below w.heap.size w w' := by
  obtain ⟨x1, x2, x3, rfl, _⟩ := ha
  obtain ⟨W0, hW0⟩ : ∃ W0, W0 = ((w.alloc (.cells #[.int .i64 n.kind, x1, x2, x3] 37)).alloc (.cells #[.pointer none, .int .i64 0, .slice none 0 0, .slice none 0 0, .int .i64 0] 58)).alloc (.cells #[.pointer none, .pointer (some ⟨w.heap.size + 1, 0, none⟩)] 23) := ⟨_, rfl⟩
  have s1 : (w.alloc (.cells #[.int .i64 n.kind, x1, x2, x3] 37)).heap.size = w.heap.size + 1 := by simp
  have s2 : ((w.alloc (.cells #[.int .i64 n.kind, x1, x2, x3] 37)).alloc (.cells #[.pointer none, .int .i64 0, .slice none 0 0, .slice none 0 0, .int .i64 0] 58)).heap.size = w.heap.size + 2 := by simp
  have t1 : W0.heap[w.heap.size + 2]? = some (.cells #[.pointer none, .pointer (some ⟨w.heap.size + 1, 0, none⟩)] 23 (0, 0)) := by rw [hW0, ← s2]; exact box_at _ _
  have t2 : W0.heap[w.heap.size + 1]? = some (.cells #[.pointer none, .int .i64 0, .slice none 0 0, .slice none 0 0, .int .i64 0] 58 (0, 0)) := by
    rw [hW0]
    refine (Below.heap_alloc _ _ _ (by rw [s2]; omega)).trans ?_
    rw [← s1]; exact box_at _ _
  have t3 : W0.heap[w.heap.size]? = some (.cells #[.int .i64 n.kind, x1, x2, x3] 37 (0, 0)) := by
    rw [hW0]
    refine (Below.heap_alloc _ _ _ (by rw [s2]; omega)).trans ((Below.heap_alloc _ _ _ (by rw [s1]; omega)).trans (box_at w _))
  have t4 : Below w.heap.size w W0 := by
    rw [hW0]
    exact (((Below.refl _ _).alloc (Nat.le_refl _) _).alloc (by rw [s1]; omega) _).alloc (by rw [s2]; omega) _
  have T4 := Hid.mk t4
  have HW0 := Hid.mk hW0
  have CELLS : Hid (∀ wr, Below W0.heap.size W0 wr → (wr.cell? ⟨w.heap.size, 0, none⟩ = some (.int .i64 n.kind) ∧ wr.cell? ⟨w.heap.size, 1, none⟩ = some x1 ∧ wr.cell? ⟨w.heap.size, 2, none⟩ = some x2 ∧ wr.cell? ⟨w.heap.size, 3, none⟩ = some x3) ∧
      ∀ i, i < 2 → ∃ v, wr.cell? ⟨w.heap.size + 2, i, none⟩ = some v ∧ NotGiven wr v) := Hid.mk (fun wr h => by
    refine ⟨(four_cells ((h.block _ (lt_of_block t3)).trans t3)).1, fun i hi => ?_⟩
    have b1 := (h.block _ (lt_of_block t1)).trans t1
    have b2 := (h.block _ (lt_of_block t2)).trans t2
    have hi2 : i = 0 ∨ i = 1 := by omega
    rcases hi2 with rfl | rfl
    · exact ⟨.pointer none, by simp [World.cell?, b1], .inl rfl⟩
    · exact ⟨.pointer (some ⟨w.heap.size + 1, 0, none⟩), by simp [World.cell?, b1], .inr ⟨_, rfl, lt_of_block b2, by simp [World.cell?, b2]⟩⟩)
  clear hW0 s1 s2 t1 t2 t3 t4
  go_enter Try.func7, Try.ntmps7
  go_wp2
  go_loopw [6] (fun c wr => ∃ i : Nat, c = .int .i64 i ∧ i ≤ 2 ∧ Below W0.heap.size W0 wr) (fun c _ => 2 - (intOf c).toNat)
  case atStart => exact ⟨0, rfl, by omega, by rw [HW0.out]; exact Below.refl _ _⟩
  case round =>
    obtain ⟨i, rfl, hi2, hb⟩ := hrel
    have HB := Hid.mk hb
    clear hb
    by_cases hlt : i < 2
    · have hltI : (i : Int) < 2 := by omega
      obtain ⟨⟨r0, r1, r2, r3⟩, hcs⟩ := CELLS.out _ HB.out
      obtain ⟨v, hv, hng⟩ := hcs i hlt
      have CZ := Hid.mk (size_no hng)
      have HNG := Hid.mk hng
      clear hcs hng
      obtain ⟨W1, hW1⟩ : ∃ W, W = wr := ⟨_, rfl⟩
      subst hW1
      go_wp2_with fail
      refine CZ.out.mono ?_
      rintro e w2 ⟨rfl, hb2⟩
      have B2 := Hid.mk (keepB HB.out hb2 (Nat.le_refl _))
      have hlt1 : w.heap.size + 2 < W1.heap.size := World.block_lt_of_cell? W1 _ hv
      have hlt0 : w.heap.size < W1.heap.size := by omega
      have NG2 := Hid.mk (HNG.out.below hb2)
      have hv2 : w2.cell? ⟨w.heap.size + 2, i, none⟩ = some v := (hb2.cell (p := ⟨w.heap.size + 2, i, none⟩) hlt1).trans hv
      have q0 := (hb2.cell (p := ⟨w.heap.size, 0, none⟩) hlt0).trans r0
      have q1 := (hb2.cell (p := ⟨w.heap.size, 1, none⟩) hlt0).trans r1
      have q2 := (hb2.cell (p := ⟨w.heap.size, 2, none⟩) hlt0).trans r2
      have q3 := (hb2.cell (p := ⟨w.heap.size, 3, none⟩) hlt0).trans r3
      have S2 : Hid ((w2.drew.cell? ⟨w.heap.size + 2, i, none⟩ = some v ∧ w2.drew.cell? ⟨w.heap.size, 0, none⟩ = some (.int .i64 n.kind) ∧ w2.drew.cell? ⟨w.heap.size, 1, none⟩ = some x1 ∧ w2.drew.cell? ⟨w.heap.size, 2, none⟩ = some x2 ∧ w2.drew.cell? ⟨w.heap.size, 3, none⟩ = some x3 ∧ Below w2.heap.size w2 w2.drew)) := Hid.mk ⟨hv2, q0, q1, q2, q3, (Below.refl _ _).drew⟩
      have hltv : w.heap.size + 2 < w2.heap.size := Nat.lt_of_lt_of_le hlt1 hb2.size
      have KP : Hid (∀ w3 w4, (w3.cell? ⟨w.heap.size + 2, i, none⟩ = some v ∧ w3.cell? ⟨w.heap.size, 0, none⟩ = some (.int .i64 n.kind) ∧ w3.cell? ⟨w.heap.size, 1, none⟩ = some x1 ∧ w3.cell? ⟨w.heap.size, 2, none⟩ = some x2 ∧ w3.cell? ⟨w.heap.size, 3, none⟩ = some x3 ∧ Below w2.heap.size w2 w3) → Below w3.heap.size w3 w4 →
          (w4.cell? ⟨w.heap.size + 2, i, none⟩ = some v ∧ w4.cell? ⟨w.heap.size, 0, none⟩ = some (.int .i64 n.kind) ∧ w4.cell? ⟨w.heap.size, 1, none⟩ = some x1 ∧ w4.cell? ⟨w.heap.size, 2, none⟩ = some x2 ∧ w4.cell? ⟨w.heap.size, 3, none⟩ = some x3 ∧ Below w2.heap.size w2 w4)) := Hid.mk (fun w3 w4 h h4 => by
        obtain ⟨h0, h1, h2, h3, h5, h6⟩ := h
        have l1 : w.heap.size + 2 < w3.heap.size := Nat.lt_of_lt_of_le hltv h6.size
        have l0 : w.heap.size < w3.heap.size := by omega
        exact ⟨(h4.cell (p := ⟨w.heap.size + 2, i, none⟩) l1).trans h0, (h4.cell (p := ⟨w.heap.size, 0, none⟩) l0).trans h1, (h4.cell (p := ⟨w.heap.size, 1, none⟩) l0).trans h2, (h4.cell (p := ⟨w.heap.size, 2, none⟩) l0).trans h3, (h4.cell (p := ⟨w.heap.size, 3, none⟩) l0).trans h5, keepB h6 h4 (Nat.le_refl _)⟩)
      have CW : Hid (∀ w3, Below w2.heap.size w2 w3 → Calls Try.prog 18 #[v, .agg #[.int .i64 n.kind, x1, x2, x3]] w3 fun e w' => e = .returned (.int .i64 1) ∧ Below w3.heap.size w3 w') := Hid.mk (fun w3 h => write_no (NG2.out.below h) n.kind x1 x2 x3)
      have CS : Hid (∀ w3, Below w2.heap.size w2 w3 → Calls Try.prog 19 #[v] w3 fun e w' => e = .returned (.int .i64 1) ∧ Below w3.heap.size w3 w') := Hid.mk (fun w3 h => sure_no (NG2.out.below h))
      have CN : Hid (∀ w3, Below w2.heap.size w2 w3 → Calls Try.prog 16 #[v] w3 fun e w' => e = .returned (.slice none 0 0) ∧ Below w3.heap.size w3 w') := Hid.mk (fun w3 h => notes_no (NG2.out.below h))
      have CF : Hid (∀ w3, Below w2.heap.size w2 w3 → Calls Try.prog 20 #[v, .int .i64 k] w3 fun e w' => e = .returned (.int .i64 1) ∧ Below w3.heap.size w3 w') := Hid.mk (fun w3 h => fail_no (NG2.out.below h) k)
      have CB : Hid (∀ w3, Below w2.heap.size w2 w3 → Calls Try.prog 21 #[v, .slice none 0 0] w3 fun e w' => e = .returned (.int .i64 1) ∧ Below w3.heap.size w3 w') := Hid.mk (fun w3 h => begin_no (NG2.out.below h) _)
      clear hb2 r0 r1 r2 r3 hv q0 q1 q2 q3 hv2 hlt1 hlt0 hltv CZ HNG HB
      go_wp2_with fail
      go_region_held (fun w' => w'.cell? ⟨w.heap.size + 2, i, none⟩ = some v ∧ w'.cell? ⟨w.heap.size, 0, none⟩ = some (.int .i64 n.kind) ∧ w'.cell? ⟨w.heap.size, 1, none⟩ = some x1 ∧ w'.cell? ⟨w.heap.size, 2, none⟩ = some x2 ∧ w'.cell? ⟨w.heap.size, 3, none⟩ = some x3 ∧ Below w2.heap.size w2 w')
        (first | exact S2.out | exact KP.out _ _ (by assumption) (by assumption))
        (first
          | (go_at_call 18; refine (CW.out _ (by assumption : _ ∧ _ ∧ _ ∧ _ ∧ _ ∧ Below w2.heap.size w2 _).2.2.2.2.2).mono ?_; rintro e w4 ⟨rfl, hb4⟩)
          | (go_at_call 19; refine (CS.out _ (by assumption : _ ∧ _ ∧ _ ∧ _ ∧ _ ∧ Below w2.heap.size w2 _).2.2.2.2.2).mono ?_; rintro e w4 ⟨rfl, hb4⟩)
          | (go_at_call 16; refine (CN.out _ (by assumption : _ ∧ _ ∧ _ ∧ _ ∧ _ ∧ Below w2.heap.size w2 _).2.2.2.2.2).mono ?_; rintro e w4 ⟨rfl, hb4⟩)
          | (go_at_call 20; refine (CF.out _ (by assumption : _ ∧ _ ∧ _ ∧ _ ∧ _ ∧ Below w2.heap.size w2 _).2.2.2.2.2).mono ?_; rintro e w4 ⟨rfl, hb4⟩)
          | (go_at_call 21; refine (CB.out _ (by assumption : _ ∧ _ ∧ _ ∧ _ ∧ _ ∧ Below w2.heap.size w2 _).2.2.2.2.2).mono ?_; rintro e w4 ⟨rfl, hb4⟩))
      all_goals (
        have hfin := (by assumption : _ ∧ _ ∧ _ ∧ _ ∧ _ ∧ Below w2.heap.size w2 w4).2.2.2.2.2
        have B4 := Hid.mk (keepB B2.out hfin (Nat.le_refl _))
        obtain ⟨W4, hW4⟩ : ∃ W, W = w4 := ⟨_, rfl⟩
        subst hW4
        clear hfin hb4 S2 KP CW CS CN CF CB
        go_wp2
        go_roundw
        case rel => exact ⟨i + 1, by go_num, by omega, B4.out⟩
        case measure => simp [intOf]; omega)
    · have hltI : ¬ (i : Int) < 2 := by omega
      go_wp2_with fail
      refine (jawake_any _).mono ?_
      rintro e w2 ⟨rfl, hb2⟩
      have B2 := Hid.mk (keepB HB.out hb2 (Nat.le_refl _))
      go_wp2
      go_ret
      exact ⟨rfl, T4.out.trans (B2.out.mono T4.out.size)⟩
end Go.Proofs.Ytnepednomejniaa
