/- The document's Is and before. -/
import Derived.Test.YtfocpjplokabgaaPSame
namespace Go.Proofs.Ytfocpjplokabgaa
open Go.RowKit Go.Shelf

theorem isOB_out {r : R3} {i : Nat} (hi : i < 3) (h : r.at i < 0 ∨ 2 < r.at i) : isOB r = false := by
  unfold isOB
  rw [decide_eq_false_iff_not]
  match i, hi with
  | 0, _ => simp only [R3.at] at h; omega
  | 1, _ => simp only [R3.at] at h; omega
  | 2, _ => simp only [R3.at] at h; omega
theorem isOB_in {r : R3} (h : ∀ k, k < 3 → 0 ≤ r.at k ∧ r.at k < 3) : isOB r = (decide (r.a ≠ r.b) && decide (r.a ≠ r.c) && decide (r.b ≠ r.c)) := by
  have h0 := h 0 (by omega)
  have h1 := h 1 (by omega)
  have h2 := h 2 (by omega)
  simp only [R3.at] at h0 h1 h2
  unfold isOB
  rw [← Bool.decide_and, ← Bool.decide_and]
  congr 1
  simp only [eq_iff_iff]
  omega

set_option maxHeartbeats 2000000 in
set_option maxRecDepth 100000 in
theorem rIs_any (r : R3) (w : World) : Calls Try.prog 15 #[agg3 r] w fun e w' => e = .returned (.bool (isOB r)) ∧ Below w.heap.size w w' := by
  obtain ⟨W1, hW1⟩ : ∃ W1, W1 = w.alloc (.cells #[.int .i64 r.a, .int .i64 r.b, .int .i64 r.c] 23) := ⟨_, rfl⟩
  have hB : Below w.heap.size w W1 := by rw [hW1]; exact (Below.refl _ _).alloc (Nat.le_refl _) _
  have hT : RowB W1 w.heap.size r := by rw [hW1]; exact box_at w _
  have HW := Hid.mk hW1
  have HB := Hid.mk hB
  have HT := Hid.mk hT
  clear hW1 hB hT
  go_enter Try.func15, Try.ntmps15
  go_wp2_with fail
  rw [← HW.out]
  go_loopw [3] (fun c wr => ∃ i : Nat, i ≤ 3 ∧ c = .int .i64 i ∧ (∀ k, k < i → 0 ≤ r.at k ∧ r.at k < 3) ∧ wr = W1) (fun c _ => 3 - (intOf c).toNat)
  case atStart => exact ⟨0, by omega, rfl, fun k hk => absurd hk (by omega), rfl⟩
  case round =>
    obtain ⟨i, hi, rfl, hall, rfl⟩ := hrel
    have HA := Hid.mk hall
    clear hall
    by_cases hlt : i < 3
    · have hltI : (i : Int) < 3 := by omega
      have c1 := (HT.out.cell hlt).1
      obtain ⟨X, hX⟩ : ∃ X, X = r.at i := ⟨_, rfl⟩
      rw [← hX] at c1
      by_cases h0 : X < 0
      · have HF : Hid (isOB r = false) := Hid.mk (isOB_out hlt (.inl (by rw [← hX]; exact h0)))
        clear hX
        go_wp2
        go_ret
        exact ⟨by rw [HF.out]; rfl, HB.out⟩
      · by_cases h2 : 2 < X
        · have HF : Hid (isOB r = false) := Hid.mk (isOB_out hlt (.inr (by rw [← hX]; exact h2)))
          clear hX
          go_wp2
          go_ret
          exact ⟨by rw [HF.out]; rfl, HB.out⟩
        · have HA2 : Hid (∀ k, k < i + 1 → 0 ≤ r.at k ∧ r.at k < 3) := Hid.mk (fun k hk => by
            by_cases e : k = i
            · subst e; rw [← hX]; omega
            · exact HA.out k (by omega))
          clear hX
          go_wp2
          go_roundw
          case rel => exact ⟨i + 1, by omega, by go_num, HA2.out, trivial⟩
          case measure => simp [intOf]; omega
    · have hnI : ¬ (i : Int) < 3 := by omega
      have c0 := (HT.out.cell (p := 0) (by omega)).1
      have c1 := (HT.out.cell (p := 1) (by omega)).1
      have c2 := (HT.out.cell (p := 2) (by omega)).1
      simp only [R3.at] at c0 c1 c2
      have HI : Hid (isOB r = (decide (r.a ≠ r.b) && decide (r.a ≠ r.c) && decide (r.b ≠ r.c))) := Hid.mk (isOB_in (fun k hk => HA.out k (by omega)))
      by_cases e1 : r.a = r.b
      · have HF : Hid (isOB r = false) := Hid.mk (by rw [HI.out]; simp [e1])
        go_wp2
        go_ret
        exact ⟨by rw [HF.out]; rfl, HB.out⟩
      · by_cases e2 : r.a = r.c
        · have HF : Hid (isOB r = false) := Hid.mk (by rw [HI.out]; simp [e2])
          go_wp2
          go_ret
          exact ⟨by rw [HF.out]; rfl, HB.out⟩
        · by_cases e3 : r.b = r.c
          · have HF : Hid (isOB r = false) := Hid.mk (by rw [HI.out]; simp [e3])
            go_wp2
            go_ret
            exact ⟨by rw [HF.out]; rfl, HB.out⟩
          · have HF : Hid (isOB r = true) := Hid.mk (by rw [HI.out]; simp [e1, e2, e3])
            have HG : Hid ((r.a != r.b && r.a != r.c && r.b != r.c) = true) := Hid.mk (by simp [e1, e2, e3])
            go_wp2
            go_ret
            exact ⟨by rw [HF.out]; exact congrArg (fun b => Ending.returned (.bool b)) HG.out, HB.out⟩

/-- Does a row stand ahead of another one? -/
def ltB (o : Od) (x y : R3) : Bool := decide (cf o x y < 0)
theorem ltB_iff {o : Od} {x y : R3} : ltB o x y = true ↔ lt o x y := by
  unfold ltB
  rw [decide_eq_true_eq]
  exact cmpL_neg _ _
theorem cmpI_lt (x y : Int) : decide (cmpI x y < 0) = decide (x < y) := by
  unfold cmpI
  by_cases h : x < y
  · rw [if_pos h]; simp [h]
  · rw [if_neg h]
    split <;> simp [h]
theorem ltB_at {o : Od} {x y : R3} {i : Nat} (hi : i < 3) (h : ∀ k, k < i → num o x k = num o y k) (hne : num o x i ≠ num o y i) : ltB o x y = decide (num o x i < num o y i) := by
  unfold ltB
  match i, hi with
  | 0, _ => rw [cf_0 hne, cmpI_lt]
  | 1, _ => rw [cf_1 (h 0 (by omega)) hne, cmpI_lt]
  | 2, _ => rw [cf_2 (h 0 (by omega)) (h 1 (by omega)), cmpI_lt]
theorem ltB_end {o : Od} {x y : R3} (h : ∀ k, k < 3 → num o x k = num o y k) : ltB o x y = false := by
  unfold ltB
  rw [cf_2 (h 0 (by omega)) (h 1 (by omega)), cmpI_lt, h 2 (by omega)]
  simp
theorem three_blocks (w : World) (o1 o2 o3 : Obj) : (((w.alloc o1).alloc o2).alloc o3).heap[w.heap.size]? = some o1 ∧ (((w.alloc o1).alloc o2).alloc o3).heap[w.heap.size + 1]? = some o2 ∧ (((w.alloc o1).alloc o2).alloc o3).heap[w.heap.size + 1 + 1]? = some o3 ∧ Below w.heap.size w (((w.alloc o1).alloc o2).alloc o3) := by
  have b1 : Below (w.alloc o1).heap.size (w.alloc o1) (((w.alloc o1).alloc o2).alloc o3) := ((Below.refl _ _).alloc (Nat.le_refl _) _).alloc (by simp) _
  have b2 : Below ((w.alloc o1).alloc o2).heap.size ((w.alloc o1).alloc o2) (((w.alloc o1).alloc o2).alloc o3) := (Below.refl _ _).alloc (Nat.le_refl _) _
  refine ⟨(b1.block _ (by simp)).trans (box_at w o1), ?_, ?_, (((Below.refl _ _).alloc (Nat.le_refl _) _).alloc (by simp) _).alloc (by simp; omega) _⟩
  · have := (b2.block (w.alloc o1).heap.size (by simp)).trans (box_at (w.alloc o1) o2)
    simpa using this
  · have := box_at ((w.alloc o1).alloc o2) o3
    simpa using this

set_option maxHeartbeats 2000000 in
set_option maxRecDepth 100000 in
theorem before_any {o : Od} (ho : o.ok) (x y : R3) (w : World) : Calls Try.prog 34 #[agg3 x, agg3 y, agg3 o.r3] w fun e w' => e = .returned (.bool (ltB o x y)) ∧ Below w.heap.size w w' := by
  obtain ⟨W3, hW3⟩ : ∃ W3, W3 = ((w.alloc (.cells #[.int .i64 x.a, .int .i64 x.b, .int .i64 x.c] 23)).alloc (.cells #[.int .i64 y.a, .int .i64 y.b, .int .i64 y.c] 23)).alloc (.cells #[.int .i64 o.r3.a, .int .i64 o.r3.b, .int .i64 o.r3.c] 23) := ⟨_, rfl⟩
  obtain ⟨t0, t1, t2, hB⟩ := three_blocks w (.cells #[.int .i64 x.a, .int .i64 x.b, .int .i64 x.c] 23) (.cells #[.int .i64 y.a, .int .i64 y.b, .int .i64 y.c] 23) (.cells #[.int .i64 o.r3.a, .int .i64 o.r3.b, .int .i64 o.r3.c] 23)
  rw [← hW3] at t0 t1 t2 hB
  have HX : Hid (RowB W3 w.heap.size x) := Hid.mk t0
  have HY : Hid (RowB W3 (w.heap.size + 1) y) := Hid.mk t1
  have HO : Hid (RowB W3 (w.heap.size + 1 + 1) o.r3) := Hid.mk t2
  have HW := Hid.mk hW3
  have HB := Hid.mk hB
  have HOK := Hid.mk ho
  clear t0 t1 t2 hB hW3 ho
  go_enter Try.func34, Try.ntmps34
  go_wp2_with fail
  rw [← HW.out]
  go_loopw [7] (fun c wr => ∃ i q : Nat, i ≤ 3 ∧ c = .int .i64 i ∧ (∀ k, k < i → num o x k = num o y k) ∧ wr = W3.drewN q) (fun c _ => 3 - (intOf c).toNat)
  case atStart => exact ⟨0, 0, by omega, rfl, fun k hk => absurd hk (by omega), rfl⟩
  case round =>
    obtain ⟨i, q, hi, rfl, hall, rfl⟩ := hrel
    have HA := Hid.mk hall
    clear hall
    by_cases hlt : i < 3
    · have hltI : (i : Int) < 3 := by omega
      have hp := Od.lt HOK.out i
      have co := (HO.out.cell hlt).1
      have e1 : o.r3.at i = (o.at i : Int) := by
        match i, hlt with
        | 0, _ => rfl
        | 1, _ => rfl
        | 2, _ => rfl
      rw [e1] at co
      obtain ⟨P, hP⟩ : ∃ P, P = o.at i := ⟨_, rfl⟩
      rw [← hP] at co hp
      have hpI : (P : Int) < 3 := by omega
      have cx := (HX.out.cell hp).1
      have cy := (HY.out.cell hp).1
      obtain ⟨X, hX⟩ : ∃ X, X = x.at P := ⟨_, rfl⟩
      obtain ⟨Y, hY⟩ : ∃ Y, Y = y.at P := ⟨_, rfl⟩
      have hXn : num o x i = X := by rw [hX, hP]; rfl
      have hYn : num o y i = Y := by rw [hY, hP]; rfl
      rw [← hX] at cx
      rw [← hY] at cy
      by_cases hne : X = Y
      · have HA2 : Hid (∀ k, k < i + 1 → num o x k = num o y k) := Hid.mk (fun k hk => by
          by_cases e : k = i
          · subst e; rw [hXn, hYn, hne]
          · exact HA.out k (by omega))
        subst hne
        clear hP hX hY hXn hYn e1 HA
        go_wp2_with fail
        go_region
        go_wp2
        go_roundw
        case rel => exact ⟨i + 1, q + 1, by omega, by go_num, HA2.out, by simp⟩
        case measure => simp [intOf]; omega
      · have HR : Hid (ltB o x y = decide (X < Y)) := Hid.mk (by
          rw [← hXn, ← hYn]
          exact ltB_at hlt HA.out (by rw [hXn, hYn]; exact hne))
        clear hP hX hY hXn hYn e1 HA
        go_wp2_with fail
        go_region
        go_wp2_with fail
        go_region
        go_wp2
        go_ret
        exact ⟨by rw [HR.out]; rfl, below_drewN HB.out _⟩
    · have hnI : ¬ (i : Int) < 3 := by omega
      have HF : Hid (ltB o x y = false) := Hid.mk (ltB_end (fun k hk => HA.out k (by omega)))
      go_wp2
      go_ret
      exact ⟨by rw [HF.out]; rfl, below_drewN HB.out q⟩
end Go.Proofs.Ytfocpjplokabgaa
