/- What an order is: isOrder of the program. -/
import Derived.Test.YtfocpjplokabgaaPCompW
namespace Go.Proofs.Ytfocpjplokabgaa
open Go.RowKit Go.Sort Go.Lib Go.Shelf

/-- Is a row of numbers an order? As an answer. -/
def isOB (r : R3) : Bool := decide (((0 ≤ r.a ∧ r.a < 3) ∧ (0 ≤ r.b ∧ r.b < 3) ∧ (0 ≤ r.c ∧ r.c < 3)) ∧ r.a ≠ r.b ∧ r.a ≠ r.c ∧ r.b ≠ r.c)
theorem isOB_iff (r : R3) : isOB r = true ↔ IsO r := by
  unfold isOB IsO
  rw [decide_eq_true_eq]
  constructor
  · rintro ⟨⟨h1, h2, h3⟩, h4, h5, h6⟩
    refine ⟨⟨r.a.toNat, r.b.toNat, r.c.toNat⟩, ⟨⟨by simp only; omega, by simp only; omega, by simp only; omega⟩, by simp only; omega, by simp only; omega, by simp only; omega⟩, ?_⟩
    obtain ⟨a, b, c⟩ := r
    simp only [Od.r3, R3.mk.injEq]
    simp only at h1 h2 h3
    omega
  · rintro ⟨o, ⟨⟨h1, h2, h3⟩, h4, h5, h6⟩, rfl⟩
    simp only [Od.r3]
    omega
theorem isOB_od {o : Od} (h : o.ok) : isOB o.r3 = true := (isOB_iff _).2 ⟨o, h, rfl⟩

/-- A block that holds a row. -/
def RowB (w : World) (g : Nat) (t : R3) : Prop := w.heap[g]? = some (.cells #[.int .i64 t.a, .int .i64 t.b, .int .i64 t.c] 23 (0, 0))
def R3.put (t : R3) (p : Nat) (x : Int) : R3 := if p = 0 then ⟨x, t.b, t.c⟩ else if p = 1 then ⟨t.a, x, t.c⟩ else ⟨t.a, t.b, x⟩
theorem RowB.cell {w : World} {g : Nat} {t : R3} (h : RowB w g t) {p : Nat} (hp : p < 3) : w.cell? ⟨g, p, none⟩ = some (.int .i64 (t.at p)) ∧ w.frozen? ⟨g, p, none⟩ = false := by
  unfold RowB at h
  match p, hp with
  | 0, _ => simp [World.cell?, World.frozen?, h]; rfl
  | 1, _ => simp [World.cell?, World.frozen?, h]; rfl
  | 2, _ => simp [World.cell?, World.frozen?, h]; rfl
theorem RowB.set {w : World} {g : Nat} {t : R3} (h : RowB w g t) {p : Nat} (hp : p < 3) (x : Int) : RowB (w.setCell ⟨g, p, none⟩ (.int .i64 x)) g (t.put p x) := by
  unfold RowB at *
  match p, hp with
  | 0, _ => simp [World.setCell, Array.getElem?_modify, h, R3.put]
  | 1, _ => simp [World.setCell, Array.getElem?_modify, h, R3.put]
  | 2, _ => simp [World.setCell, Array.getElem?_modify, h, R3.put]
theorem RowB.row {w : World} {g : Nat} {t : R3} (h : RowB w g t) : RowAt w g 0 t := by
  unfold RowB at h
  refine ⟨?_, ?_, ?_⟩ <;> simp [World.cell?, h]
theorem RowB.below {w w' : World} {g : Nat} {t : R3} (h : RowB w g t) (hb : Below w.heap.size w w') : RowB w' g t := (hb.block g (lt_of_block h)).trans h

/-- How often each place comes among the first. -/
def cnt (r : R3) : Nat → R3
  | 0 => ⟨0, 0, 0⟩
  | i + 1 => (cnt r i).put (r.at i).toNat ((cnt r i).at (r.at i).toNat + 1)
theorem put_at (t : R3) (q p : Nat) (x : Int) : (t.put q x).at p = x ∨ (t.put q x).at p = t.at p := by
  unfold R3.put
  by_cases h0 : q = 0
  · rw [if_pos h0]
    match p with
    | 0 => exact .inl rfl
    | 1 => exact .inr rfl
    | p + 2 => exact .inr rfl
  · rw [if_neg h0]
    by_cases h1 : q = 1
    · rw [if_pos h1]
      match p with
      | 0 => exact .inr rfl
      | 1 => exact .inl rfl
      | p + 2 => exact .inr rfl
    · rw [if_neg h1]
      match p with
      | 0 => exact .inr rfl
      | 1 => exact .inr rfl
      | p + 2 => exact .inl rfl
theorem cnt_le (r : R3) (i : Nat) : ∀ p, 0 ≤ (cnt r i).at p ∧ (cnt r i).at p ≤ i := by
  induction i with
  | zero =>
    intro p
    match p with
    | 0 => simp [cnt, R3.at]
    | 1 => simp [cnt, R3.at]
    | p + 2 => simp [cnt, R3.at]
  | succ i ih =>
    intro p
    have h1 := ih p
    have h2 := ih (r.at i).toNat
    have e0 : cnt r (i + 1) = (cnt r i).put (r.at i).toNat ((cnt r i).at (r.at i).toNat + 1) := rfl
    rw [e0]
    rcases put_at (cnt r i) (r.at i).toNat p ((cnt r i).at (r.at i).toNat + 1) with e | e <;> rw [e] <;> omega
theorem cnt_end {r : R3} (h : ∀ k, k < 3 → 0 ≤ r.at k ∧ r.at k < 3) : decide (cnt r 3 = ⟨1, 1, 1⟩) = isOB r := by
  have h0 := h 0 (by omega)
  have h1 := h 1 (by omega)
  have h2 := h 2 (by omega)
  obtain ⟨a, b, c⟩ := r
  simp only [R3.at] at h0 h1 h2
  have ha : a = 0 ∨ a = 1 ∨ a = 2 := by omega
  have hb : b = 0 ∨ b = 1 ∨ b = 2 := by omega
  have hc : c = 0 ∨ c = 1 ∨ c = 2 := by omega
  rcases ha with rfl | rfl | rfl <;> rcases hb with rfl | rfl | rfl <;> rcases hc with rfl | rfl | rfl <;> decide

set_option maxHeartbeats 4000000 in
set_option maxRecDepth 100000 in
theorem isOrder_any (r : R3) (w : World) :
    Calls Try.prog 28 #[agg3 r] w fun e w' => e = .returned (.bool (isOB r)) ∧ Below w.heap.size w w' := by
  obtain ⟨W2, hW2⟩ : ∃ W2, W2 = (w.alloc (.cells #[.int .i64 r.a, .int .i64 r.b, .int .i64 r.c] 23)).alloc (.cells #[.int .i64 0, .int .i64 0, .int .i64 0] 23) := ⟨_, rfl⟩
  have hB2 : Below w.heap.size w W2 := by
    rw [hW2]; exact ((Below.refl _ _).alloc (Nat.le_refl _) _).alloc (by simp) _
  have hT : RowB W2 (w.heap.size + 1) ⟨0, 0, 0⟩ := by
    rw [hW2]
    have := box_at (w.alloc (.cells #[.int .i64 r.a, .int .i64 r.b, .int .i64 r.c] 23)) (.cells #[.int .i64 0, .int .i64 0, .int .i64 0] 23)
    rw [show (w.alloc (.cells #[.int .i64 r.a, .int .i64 r.b, .int .i64 r.c] 23)).heap.size = w.heap.size + 1 by simp] at this
    exact this
  have HW2 := Hid.mk hW2
  have HB2 := Hid.mk hB2
  have HT := Hid.mk hT
  have ix0 := index3_0 r.a r.b r.c
  have ix1 := index3_1 r.a r.b r.c
  have ix2 := index3_2 r.a r.b r.c
  clear hW2 hB2 hT
  go_enter Try.func28, Try.ntmps28
  go_wp2_with fail
  rw [← HW2.out]
  go_loopw [7] (fun c wr => ∃ i : Nat, i ≤ 3 ∧ c = .int .i64 i ∧ (∀ k, k < i → 0 ≤ r.at k ∧ r.at k < 3) ∧ RowB wr (w.heap.size + 1) (cnt r i) ∧ Below w.heap.size w wr) (fun c _ => 3 - (intOf c).toNat)
  case atStart => exact ⟨0, by omega, rfl, fun k hk => absurd hk (by omega), HT.out, HB2.out⟩
  case round =>
    obtain ⟨i, hi, rfl, hall, hrow, hbel⟩ := hrel
    have HA := Hid.mk hall
    have HR := Hid.mk hrow
    have HB := Hid.mk hbel
    clear hall hrow hbel HT HB2
    rcases (by omega : i = 0 ∨ i = 1 ∨ i = 2 ∨ i = 3) with rfl | rfl | rfl | rfl
    · obtain ⟨X, hX⟩ : ∃ X, X = r.a := ⟨_, rfl⟩
      have hXa : r.at 0 = X := hX.symm
      rw [← hX] at ix0 ix1 ix2 ⊢
      by_cases h0 : X < 0
      · have HF : Hid (isOB r = false) := Hid.mk (by unfold isOB; rw [decide_eq_false_iff_not]; omega)
        clear hX hXa
        go_wp2
        go_ret
        exact ⟨by rw [HF.out]; rfl, HB.out⟩
      · by_cases h3 : X < 3
        · obtain ⟨P, rfl⟩ : ∃ P : Nat, X = (P : Int) := ⟨X.toNat, by omega⟩
          have hP : P < 3 := by omega
          obtain ⟨c1, f1⟩ := HR.out.cell hP
          obtain ⟨Y, hY⟩ : ∃ Y, Y = (cnt r 0).at P := ⟨_, rfl⟩
          have hyl := cnt_le r 0 P
          rw [← hY] at c1 hyl
          have HR2 : Hid (RowB (wr.setCell ⟨w.heap.size + 1, P, none⟩ (.int .i64 (Y + 1))) (w.heap.size + 1) (cnt r (0 + 1))) := Hid.mk (by
            have := HR.out.set hP (Y + 1)
            have e : cnt r (0 + 1) = (cnt r 0).put P (Y + 1) := by
              show (cnt r 0).put (r.at 0).toNat ((cnt r 0).at (r.at 0).toNat + 1) = _
              rw [hXa, hY]; rfl
            rw [e]; exact this)
          have HA2 : Hid (∀ k, k < 0 + 1 → 0 ≤ r.at k ∧ r.at k < 3) := Hid.mk (fun k hk => by
            by_cases e : k = 0
            · subst e; rw [hXa]; omega
            · exact HA.out k (by omega))
          clear hX hXa hY
          go_wp2
          go_roundw
          case rel => exact ⟨0 + 1, by omega, by rfl, HA2.out, HR2.out, HB.out.setCell (p := ⟨w.heap.size + 1, P, none⟩) (by simp only; omega) _⟩
          case measure => simp [intOf]
        · have HF : Hid (isOB r = false) := Hid.mk (by unfold isOB; rw [decide_eq_false_iff_not]; omega)
          clear hX hXa
          go_wp2
          go_ret
          exact ⟨by rw [HF.out]; rfl, HB.out⟩
    · obtain ⟨X, hX⟩ : ∃ X, X = r.b := ⟨_, rfl⟩
      have hXa : r.at 1 = X := hX.symm
      rw [← hX] at ix0 ix1 ix2 ⊢
      by_cases h0 : X < 0
      · have HF : Hid (isOB r = false) := Hid.mk (by unfold isOB; rw [decide_eq_false_iff_not]; omega)
        clear hX hXa
        go_wp2
        go_ret
        exact ⟨by rw [HF.out]; rfl, HB.out⟩
      · by_cases h3 : X < 3
        · obtain ⟨P, rfl⟩ : ∃ P : Nat, X = (P : Int) := ⟨X.toNat, by omega⟩
          have hP : P < 3 := by omega
          obtain ⟨c1, f1⟩ := HR.out.cell hP
          obtain ⟨Y, hY⟩ : ∃ Y, Y = (cnt r 1).at P := ⟨_, rfl⟩
          have hyl := cnt_le r 1 P
          rw [← hY] at c1 hyl
          have HR2 : Hid (RowB (wr.setCell ⟨w.heap.size + 1, P, none⟩ (.int .i64 (Y + 1))) (w.heap.size + 1) (cnt r (1 + 1))) := Hid.mk (by
            have := HR.out.set hP (Y + 1)
            have e : cnt r (1 + 1) = (cnt r 1).put P (Y + 1) := by
              show (cnt r 1).put (r.at 1).toNat ((cnt r 1).at (r.at 1).toNat + 1) = _
              rw [hXa, hY]; rfl
            rw [e]; exact this)
          have HA2 : Hid (∀ k, k < 1 + 1 → 0 ≤ r.at k ∧ r.at k < 3) := Hid.mk (fun k hk => by
            by_cases e : k = 1
            · subst e; rw [hXa]; omega
            · exact HA.out k (by omega))
          clear hX hXa hY
          go_wp2
          go_roundw
          case rel => exact ⟨1 + 1, by omega, by rfl, HA2.out, HR2.out, HB.out.setCell (p := ⟨w.heap.size + 1, P, none⟩) (by simp only; omega) _⟩
          case measure => simp [intOf]
        · have HF : Hid (isOB r = false) := Hid.mk (by unfold isOB; rw [decide_eq_false_iff_not]; omega)
          clear hX hXa
          go_wp2
          go_ret
          exact ⟨by rw [HF.out]; rfl, HB.out⟩
    · obtain ⟨X, hX⟩ : ∃ X, X = r.c := ⟨_, rfl⟩
      have hXa : r.at 2 = X := hX.symm
      rw [← hX] at ix0 ix1 ix2 ⊢
      by_cases h0 : X < 0
      · have HF : Hid (isOB r = false) := Hid.mk (by unfold isOB; rw [decide_eq_false_iff_not]; omega)
        clear hX hXa
        go_wp2
        go_ret
        exact ⟨by rw [HF.out]; rfl, HB.out⟩
      · by_cases h3 : X < 3
        · obtain ⟨P, rfl⟩ : ∃ P : Nat, X = (P : Int) := ⟨X.toNat, by omega⟩
          have hP : P < 3 := by omega
          obtain ⟨c1, f1⟩ := HR.out.cell hP
          obtain ⟨Y, hY⟩ : ∃ Y, Y = (cnt r 2).at P := ⟨_, rfl⟩
          have hyl := cnt_le r 2 P
          rw [← hY] at c1 hyl
          have HR2 : Hid (RowB (wr.setCell ⟨w.heap.size + 1, P, none⟩ (.int .i64 (Y + 1))) (w.heap.size + 1) (cnt r (2 + 1))) := Hid.mk (by
            have := HR.out.set hP (Y + 1)
            have e : cnt r (2 + 1) = (cnt r 2).put P (Y + 1) := by
              show (cnt r 2).put (r.at 2).toNat ((cnt r 2).at (r.at 2).toNat + 1) = _
              rw [hXa, hY]; rfl
            rw [e]; exact this)
          have HA2 : Hid (∀ k, k < 2 + 1 → 0 ≤ r.at k ∧ r.at k < 3) := Hid.mk (fun k hk => by
            by_cases e : k = 2
            · subst e; rw [hXa]; omega
            · exact HA.out k (by omega))
          clear hX hXa hY
          go_wp2
          go_roundw
          case rel => exact ⟨2 + 1, by omega, by rfl, HA2.out, HR2.out, HB.out.setCell (p := ⟨w.heap.size + 1, P, none⟩) (by simp only; omega) _⟩
          case measure => simp [intOf]
        · have HF : Hid (isOB r = false) := Hid.mk (by unfold isOB; rw [decide_eq_false_iff_not]; omega)
          clear hX hXa
          go_wp2
          go_ret
          exact ⟨by rw [HF.out]; rfl, HB.out⟩
    · obtain ⟨T, hT⟩ : ∃ T, T = cnt r 3 := ⟨_, rfl⟩
      have hrow := HR.out
      rw [← hT] at hrow
      have c0 := (hrow.cell (p := 0) (by omega)).1
      have c1 := (hrow.cell (p := 1) (by omega)).1
      have c2 := (hrow.cell (p := 2) (by omega)).1
      simp only [R3.at] at c0 c1 c2
      have heq := eqIn3 T ⟨1, 1, 1⟩
      simp only at heq
      have he : decide (T = ⟨1, 1, 1⟩) = isOB r := by rw [hT]; exact cnt_end HA.out
      rw [he] at heq
      clear hrow hT he
      go_wp2
      go_ret
      exact ⟨rfl, HB.out⟩
end Go.Proofs.Ytfocpjplokabgaa
