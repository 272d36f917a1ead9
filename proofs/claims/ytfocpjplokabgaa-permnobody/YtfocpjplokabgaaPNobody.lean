/- An index, and a walk, that nobody made. -/
import Derived.Test.YtfocpjplokabgaaPAwake
namespace Go.Proofs.Ytfocpjplokabgaa
open Go.RowKit Go.Sort Go.Lib Go.Shelf

theorem eql_nil_left (a : Addr) (w : World) : (binOp .eql 25 (.pointer none) (.pointer (some a))).run Try.prog w = .ok (.bool false) w := by
  have h : ∀ d : Nat, (Op.equalIn (d + 1) 25 (.pointer none) (.pointer (some a))).run Try.prog w = .ok false w := fun d => by
    simp [Op.equalIn, run_underlying Try.underlying25]
  simp only [binOp]
  simp [Op.equal, Op.maxDepth, h 9999]
theorem eql_nil_leftW (a : Addr) (w : World) : (binOp .eql 39 (.pointer none) (.pointer (some a))).run Try.prog w = .ok (.bool false) w := by
  have h : ∀ d : Nat, (Op.equalIn (d + 1) 39 (.pointer none) (.pointer (some a))).run Try.prog w = .ok false w := fun d => by
    simp [Op.equalIn, run_underlying Try.underlying39]
  simp only [binOp]
  simp [Op.equal, Op.maxDepth, h 9999]
/-- A pointer to what nobody made. -/
def NoI (w : World) (v : Value) : Prop := v = .pointer none ∨ ∃ b, v = .pointer (some ⟨b, 0, none⟩) ∧ w.cell? ⟨b, 0, none⟩ = some (.pointer none)
theorem NoI.below {w w' : World} {v : Value} (h : NoI w v) (hb : Below w.heap.size w w') : NoI w' v := by
  rcases h with h | ⟨b, h1, h2⟩
  · exact .inl h
  · exact .inr ⟨b, h1, (hb.cell (p := ⟨b, 0, none⟩) (World.block_lt_of_cell? _ _ h2)).trans h2⟩
theorem NoI.ptr {w : World} {v : Value} (h : NoI w v) : ∃ a, v = .pointer a := by
  rcases h with h | ⟨b, h1, _⟩
  · exact ⟨_, h⟩
  · exact ⟨_, h1⟩
set_option maxRecDepth 100000 in
theorem noI_given {w : World} {v : Value} (h : NoI w v) : Calls Try.prog 35 #[v] w fun e w' => e = .returned (.bool false) ∧ w' = w := by
  rcases h with rfl | ⟨b, rfl, h⟩
  · go_enter Try.func35, Try.ntmps35
    go_wp2
    go_ret
    exact ⟨rfl, rfl⟩
  · have he := eql_nil_left ⟨b, 0, none⟩ w
    go_enter Try.func35, Try.ntmps35
    go_wp2
    go_ret
    exact ⟨rfl, rfl⟩
set_option maxRecDepth 100000 in
theorem noW_given {w : World} {v : Value} (h : NoI w v) : Calls Try.prog 36 #[v] w fun e w' => e = .returned (.bool false) ∧ w' = w := by
  rcases h with rfl | ⟨b, rfl, h⟩
  · go_enter Try.func36, Try.ntmps36
    go_wp2
    go_ret
    exact ⟨rfl, rfl⟩
  · have he := eql_nil_leftW ⟨b, 0, none⟩ w
    go_enter Try.func36, Try.ntmps36
    go_wp2
    go_ret
    exact ⟨rfl, rfl⟩
set_option maxRecDepth 100000 in
theorem no_len {w : World} {v : Value} (h : NoI w v) : Calls Try.prog 12 #[v] w fun e w' => e = .returned (.int .i64 0) ∧ w' = w := by
  have C := Hid.mk (noI_given h)
  obtain ⟨a, rfl⟩ := h.ptr
  clear h
  go_enter Try.func12, Try.ntmps12
  go_wp2_with fail
  refine C.out.mono ?_
  rintro e w1 ⟨rfl, hw⟩
  subst hw
  go_wp2
  go_ret
  exact ⟨rfl, rfl⟩
set_option maxRecDepth 100000 in
theorem no_rows {w : World} {v : Value} (h : NoI w v) : Calls Try.prog 14 #[v] w fun e w' => e = .returned (.slice none 0 0) ∧ w' = w := by
  have C := Hid.mk (noI_given h)
  obtain ⟨a, rfl⟩ := h.ptr
  clear h
  go_enter Try.func14, Try.ntmps14
  go_wp2_with fail
  refine C.out.mono ?_
  rintro e w1 ⟨rfl, hw⟩
  subst hw
  go_wp2
  go_ret
  exact ⟨rfl, rfl⟩
set_option maxRecDepth 100000 in
theorem no_walk {w : World} {v : Value} (h : NoI w v) : Calls Try.prog 16 #[v] w fun e w' => e = .returned (.pointer none) ∧ w' = w := by
  have C := Hid.mk (noI_given h)
  obtain ⟨a, rfl⟩ := h.ptr
  clear h
  go_enter Try.func16, Try.ntmps16
  go_wp2_with fail
  refine C.out.mono ?_
  rintro e w1 ⟨rfl, hw⟩
  subst hw
  go_wp2
  go_ret
  exact ⟨rfl, rfl⟩
set_option maxRecDepth 100000 in
theorem no_open {w : World} {v : Value} (h : NoI w v) : Calls Try.prog 17 #[v] w fun e w' => e = .returned (.int .i64 1) ∧ w' = w := by
  have C := Hid.mk (noW_given h)
  obtain ⟨a, rfl⟩ := h.ptr
  clear h
  go_enter Try.func17, Try.ntmps17
  go_wp2_with fail
  refine C.out.mono ?_
  rintro e w1 ⟨rfl, hw⟩
  subst hw
  go_wp2
  go_ret
  exact ⟨rfl, rfl⟩
set_option maxRecDepth 100000 in
theorem no_up {w : World} {v : Value} (h : NoI w v) : Calls Try.prog 19 #[v] w fun e w' => e = .returned (.int .i64 1) ∧ w' = w := by
  have C := Hid.mk (noW_given h)
  obtain ⟨a, rfl⟩ := h.ptr
  clear h
  go_enter Try.func19, Try.ntmps19
  go_wp2_with fail
  refine C.out.mono ?_
  rintro e w1 ⟨rfl, hw⟩
  subst hw
  go_wp2
  go_ret
  exact ⟨rfl, rfl⟩
set_option maxRecDepth 100000 in
theorem no_next {w : World} {v : Value} (h : NoI w v) : Calls Try.prog 21 #[v] w fun e w' => e = .returned (.int .i64 1) ∧ w' = w := by
  have C := Hid.mk (noW_given h)
  obtain ⟨a, rfl⟩ := h.ptr
  clear h
  go_enter Try.func21, Try.ntmps21
  go_wp2_with fail
  refine C.out.mono ?_
  rintro e w1 ⟨rfl, hw⟩
  subst hw
  go_wp2
  go_ret
  exact ⟨rfl, rfl⟩
set_option maxRecDepth 100000 in
theorem no_key {w : World} {v : Value} (h : NoI w v) : Calls Try.prog 25 #[v] w fun e w' => e = .returned (.tuple #[.int .i64 0, .bool false]) ∧ w' = w := by
  have C := Hid.mk (noW_given h)
  obtain ⟨a, rfl⟩ := h.ptr
  clear h
  go_enter Try.func25, Try.ntmps25
  go_wp2_with fail
  refine C.out.mono ?_
  rintro e w1 ⟨rfl, hw⟩
  subst hw
  go_wp2
  go_ret2
  exact ⟨rfl, rfl⟩
set_option maxRecDepth 100000 in
theorem no_depth {w : World} {v : Value} (h : NoI w v) : Calls Try.prog 27 #[v] w fun e w' => e = .returned (.int .i64 0) ∧ w' = w := by
  have C := Hid.mk (noW_given h)
  obtain ⟨a, rfl⟩ := h.ptr
  clear h
  go_enter Try.func27, Try.ntmps27
  go_wp2_with fail
  refine C.out.mono ?_
  rintro e w1 ⟨rfl, hw⟩
  subst hw
  go_wp2
  go_ret
  exact ⟨rfl, rfl⟩
set_option maxRecDepth 100000 in
theorem no_seek {w : World} {v : Value} (h : NoI w v) (n : Int) : Calls Try.prog 23 #[v, .int .i64 n] w fun e w' => e = .returned (.int .i64 1) ∧ Below w.heap.size w w' := by
  have hb : Below w.heap.size w (w.alloc (.cells #[.int .i64 n] 3)) := (Below.refl _ _).alloc (Nat.le_refl _) _
  have C := Hid.mk (noW_given (h.below hb))
  have HB := Hid.mk hb
  obtain ⟨a, rfl⟩ := h.ptr
  clear h hb
  go_enter Try.func23, Try.ntmps23
  go_wp2_with fail
  refine C.out.mono ?_
  rintro e w1 ⟨rfl, hw⟩
  subst hw
  go_wp2
  go_ret
  exact ⟨rfl, HB.out⟩

theorem two_ptrs {w W2 : World} {cs : List Value} {t u : TypeId} (hW : W2 = (w.alloc (.cells (.pointer none :: cs).toArray t)).alloc (.cells #[.pointer none, .pointer (some ⟨w.heap.size, 0, none⟩)] u)) (i : Nat) (hi : i < 2) : ∃ a, W2.cell? ⟨w.heap.size + 1, i, none⟩ = some (.pointer a) ∧ NoI W2 (.pointer a) := by
  have b1 : W2.heap[w.heap.size]? = some (.cells (.pointer none :: cs).toArray t) := by
    rw [hW]
    exact (((Below.refl (w.alloc (.cells (.pointer none :: cs).toArray t)).heap.size _).alloc (Nat.le_refl _) _).block w.heap.size (by simp)).trans (box_at w _)
  have b2 : W2.heap[w.heap.size + 1]? = some (.cells #[.pointer none, .pointer (some ⟨w.heap.size, 0, none⟩)] u) := by
    rw [hW]
    have := box_at (w.alloc (.cells (.pointer none :: cs).toArray t)) (.cells #[.pointer none, .pointer (some ⟨w.heap.size, 0, none⟩)] u)
    rw [show (w.alloc (.cells (.pointer none :: cs).toArray t)).heap.size = w.heap.size + 1 by simp] at this
    exact this
  match i, hi with
  | 0, _ => exact ⟨none, by simp only [World.cell?, b2]; rfl, .inl rfl⟩
  | 1, _ => exact ⟨some ⟨w.heap.size, 0, none⟩, by simp only [World.cell?, b2]; rfl, .inr ⟨_, rfl, cell_of_blk b1⟩⟩
set_option maxHeartbeats 4000000 in
set_option maxRecDepth 100000 in
theorem permNobody_walk (n : Int) (w : World) (_hn : (Lit.int .i64 n).wf = true) :
    Calls Try.prog 7 #[.int .i64 n] w fun e w' => e = .returned (.bool true) ∧ Below w.heap.size w w' := by
  obtain ⟨W2, hW2⟩ : ∃ W2, W2 = (w.alloc (.cells #[.pointer none, .int .i64 0, .int .i64 0, .int .i64 0, .slice none 0 0] 58)).alloc (.cells #[.pointer none, .pointer (some ⟨w.heap.size, 0, none⟩)] 25) := ⟨_, rfl⟩
  have hB2 : Below w.heap.size w W2 := by
    rw [hW2]; exact ((Below.refl _ _).alloc (Nat.le_refl _) _).alloc (by simp) _
  have HB2 := Hid.mk hB2
  have HP2 : Hid (∀ i : Nat, i < 2 → ∃ a, W2.cell? ⟨w.heap.size + 1, i, none⟩ = some (.pointer a) ∧ NoI W2 (.pointer a)) := Hid.mk (two_ptrs hW2)
  have HW2 := Hid.mk hW2
  clear hB2 hW2
  go_enter Try.func7, Try.ntmps7
  go_wp2_with fail
  rw [← HW2.out]
  go_loopw [4] (fun c wr => ∃ i : Nat, i ≤ 2 ∧ c = .int .i64 i ∧ wr = W2) (fun c _ => 2 - (intOf c).toNat)
  case atStart => exact ⟨0, by omega, rfl, rfl⟩
  case round =>
    obtain ⟨i, hi, rfl, hwr⟩ := hrel
    subst hwr
    obtain ⟨U, hU⟩ : ∃ U, U = wr := ⟨_, rfl⟩
    subst hU
    by_cases hlt : i < 2
    · have hltI : (i : Int) < 2 := by omega
      obtain ⟨a, hc, hno⟩ := HP2.out i hlt
      have HNO := Hid.mk hno
      clear hno
      go_wp2_with fail
      refine (no_len HNO.out).mono ?_
      rintro e w1 ⟨rfl, hw⟩
      subst hw
      go_wp2_with fail
      refine (no_rows HNO.out).mono ?_
      rintro e w1 ⟨rfl, hw⟩
      subst hw
      go_wp2_with fail
      refine (no_walk HNO.out).mono ?_
      rintro e w1 ⟨rfl, hw⟩
      subst hw
      go_wp2
      go_roundw
      case rel => exact ⟨i + 1, by omega, by go_num, by trivial⟩
      case measure => simp [intOf]; omega
    · have hnI : ¬ (i : Int) < 2 := by omega
      obtain ⟨W4, hW4⟩ : ∃ W4, W4 = (U.alloc (.cells #[.pointer none, .pointer none, .int .i64 0, .int .i64 0, .int .i64 0, .int .i64 0, .int .i64 0, .int .i64 0, .int .i64 0, .int .i64 0, .int .i64 0] 64)).alloc (.cells #[.pointer none, .pointer (some ⟨U.heap.size, 0, none⟩)] 39) := ⟨_, rfl⟩
      have hB4 : Below U.heap.size U W4 := by
        rw [hW4]; exact ((Below.refl _ _).alloc (Nat.le_refl _) _).alloc (by simp) _
      have HB4 : Hid (Below w.heap.size w W4) := Hid.mk (HB2.out.trans (hB4.mono HB2.out.size))
      have HP4 : Hid (∀ i : Nat, i < 2 → ∃ a, W4.cell? ⟨U.heap.size + 1, i, none⟩ = some (.pointer a) ∧ NoI W4 (.pointer a)) := Hid.mk (two_ptrs hW4)
      have HZ4 : Hid (W4.heap.size = U.heap.size + 2) := Hid.mk (by rw [hW4]; simp)
      have HW4 := Hid.mk hW4
      clear hW4 hB4
      go_wp2_with fail
      rw [← HW4.out]
      go_loopw [6] (fun c wx => ∃ i : Nat, i ≤ 2 ∧ c = .int .i64 i ∧ Below W4.heap.size W4 wx) (fun c _ => 2 - (intOf c).toNat)
      case atStart => exact ⟨0, by omega, rfl, Below.refl _ _⟩
      case round =>
        obtain ⟨i, hi, rfl, hbx⟩ := hrel
        have HBX := Hid.mk hbx
        clear hbx
        by_cases hlt : i < 2
        · have hltI : (i : Int) < 2 := by omega
          obtain ⟨a, hc0, hno⟩ := HP4.out i hlt
          have hc := (HBX.out.cell (p := ⟨U.heap.size + 1, i, none⟩) (by rw [HZ4.out]; simp only; omega)).trans hc0
          have NP := Hid.mk (hno.below HBX.out)
          clear hno hc0
          go_wp2_with fail
          refine (no_key NP.out).mono ?_
          rintro e w1 ⟨rfl, hw⟩
          subst hw
          go_wp2_with fail
          refine (no_open NP.out).mono ?_
          rintro e w1 ⟨rfl, hw⟩
          subst hw
          go_wp2_with fail
          refine (no_up NP.out).mono ?_
          rintro e w1 ⟨rfl, hw⟩
          subst hw
          go_wp2_with fail
          refine (no_next NP.out).mono ?_
          rintro e w1 ⟨rfl, hw⟩
          subst hw
          go_wp2_with fail
          refine (no_seek NP.out n).mono ?_
          rintro e w2 ⟨rfl, hb2⟩
          have hc2 := (hb2.cell (p := ⟨U.heap.size + 1, i, none⟩) (World.block_lt_of_cell? _ _ hc)).trans hc
          have NP2 := Hid.mk (NP.out.below hb2)
          have HBX2 : Hid (Below W4.heap.size W4 w2) := Hid.mk (HBX.out.trans (hb2.mono HBX.out.size))
          clear hb2 hc
          go_wp2_with fail
          refine (no_depth NP2.out).mono ?_
          rintro e w3 ⟨rfl, hw⟩
          subst hw
          go_wp2
          go_roundw
          case rel => exact ⟨i + 1, by omega, by go_num, HBX2.out⟩
          case measure => simp [intOf]; omega
        · have hnI2 : ¬ (i : Int) < 2 := by omega
          go_wp2_with fail
          refine (awake_any _).mono ?_
          rintro e w2 ⟨rfl, hb2⟩
          have HF : Hid (Below w.heap.size w w2) := Hid.mk (by
            have h1 : Below w.heap.size w _ := HB4.out.trans (HBX.out.mono HB4.out.size)
            exact h1.trans (hb2.mono h1.size))
          clear hb2
          go_wp2
          go_ret
          exact ⟨rfl, HF.out⟩
end Go.Proofs.Ytfocpjplokabgaa
