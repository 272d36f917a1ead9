/- The sort of rows by an order of places. -/
import Derived.Test.YtfocpjplokabgaaPState
import Derived.Test.YtfocpjplokabgaaPBeh2
import Derived.Test.YtfocpjplokabgaaShelf
namespace Go.Proofs.Ytfocpjplokabgaa
open Go.RowKit Go.Sort Go.Lib Go.Shelf

/-- What cmp.Compare answers. -/
def cmpI (x y : Int) : Int := if x < y then -1 else if y < x then 1 else 0
set_option maxRecDepth 100000 in
theorem isNaN_any (x : Int) (w : World) : Calls Try.prog 46 #[.int .i64 x] w fun e w' => e = .returned (.bool false) ∧ w' = w := by
  go_enter Try.func46, Try.ntmps46
  go_wp2
  go_ret
  exact ⟨rfl, rfl⟩
set_option maxRecDepth 100000 in
theorem compare_any (x y : Int) (w : World) : Calls Try.prog 32 #[.int .i64 x, .int .i64 y] w fun e w' => e = .returned (.int .i64 (cmpI x y)) ∧ w' = w := by
  unfold cmpI
  have C1 := Hid.mk (isNaN_any x w)
  have C2 := Hid.mk (isNaN_any y w)
  by_cases h1 : x < y
  · rw [if_pos h1]
    go_enter Try.func32, Try.ntmps32
    go_wp2_with fail
    refine C1.out.mono ?_
    rintro e w1 ⟨rfl, hw⟩
    subst hw
    go_wp2_with fail
    refine C2.out.mono ?_
    rintro e w2 ⟨rfl, hw⟩
    subst hw
    go_wp2
    go_ret
    exact ⟨rfl, rfl⟩
  · rw [if_neg h1]
    by_cases h2 : y < x
    · rw [if_pos h2]
      go_enter Try.func32, Try.ntmps32
      go_wp2_with fail
      refine C1.out.mono ?_
      rintro e w1 ⟨rfl, hw⟩
      subst hw
      go_wp2_with fail
      refine C2.out.mono ?_
      rintro e w2 ⟨rfl, hw⟩
      subst hw
      go_wp2
      go_ret
      exact ⟨rfl, rfl⟩
    · rw [if_neg h2]
      go_enter Try.func32, Try.ntmps32
      go_wp2_with fail
      refine C1.out.mono ?_
      rintro e w1 ⟨rfl, hw⟩
      subst hw
      go_wp2_with fail
      refine C2.out.mono ?_
      rintro e w2 ⟨rfl, hw⟩
      subst hw
      go_wp2
      go_ret
      exact ⟨rfl, rfl⟩

/-- A row's cells. -/
def enc3 (r : R3) : List Value := [.int .i64 r.a, .int .i64 r.b, .int .i64 r.c]
abbrev agg3 (r : R3) : Value := .agg #[.int .i64 r.a, .int .i64 r.b, .int .i64 r.c]
theorem cf_0 {o : Od} {x y : R3} (h : num o x 0 ≠ num o y 0) : cf o x y = cmpI (num o x 0) (num o y 0) := by
  unfold cf key cmpL cmpI
  change (if num o x 0 < num o y 0 then (-1 : Int) else if num o y 0 < num o x 0 then 1 else _) = _
  by_cases h1 : num o x 0 < num o y 0
  · rw [if_pos h1, if_pos h1]
  · rw [if_neg h1, if_neg h1, if_pos (by omega), if_pos (by omega)]
theorem cf_1 {o : Od} {x y : R3} (h0 : num o x 0 = num o y 0) (h : num o x 1 ≠ num o y 1) : cf o x y = cmpI (num o x 1) (num o y 1) := by
  unfold cf key cmpL cmpI
  change (if num o x 0 < num o y 0 then (-1 : Int) else if num o y 0 < num o x 0 then 1 else if num o x 1 < num o y 1 then (-1 : Int) else if num o y 1 < num o x 1 then 1 else _) = _
  rw [if_neg (by omega), if_neg (by omega)]
  by_cases h1 : num o x 1 < num o y 1
  · rw [if_pos h1, if_pos h1]
  · rw [if_neg h1, if_neg h1, if_pos (by omega), if_pos (by omega)]
theorem cf_2 {o : Od} {x y : R3} (h0 : num o x 0 = num o y 0) (h1 : num o x 1 = num o y 1) : cf o x y = cmpI (num o x 2) (num o y 2) := by
  unfold cf key cmpL cmpI
  change (if num o x 0 < num o y 0 then (-1 : Int) else if num o y 0 < num o x 0 then 1 else if num o x 1 < num o y 1 then (-1 : Int) else if num o y 1 < num o x 1 then 1 else if num o x 2 < num o y 2 then (-1 : Int) else if num o y 2 < num o x 2 then 1 else 0) = _
  rw [if_neg (by omega), if_neg (by omega), if_neg (by omega), if_neg (by omega)]
theorem cmpI_ne {x y : Int} (h : x ≠ y) : ¬ cmpI x y = 0 := by
  unfold cmpI
  by_cases h1 : x < y
  · rw [if_pos h1]; omega
  · rw [if_neg h1, if_pos (by omega)]; omega
theorem cmpI_eq (x : Int) : cmpI x x = 0 := by
  unfold cmpI
  rw [if_neg (by omega), if_neg (by omega)]

theorem index3_0 (a b c : Int) (w : World) : (Instr.index 23 (.agg #[.int .i64 a, .int .i64 b, .int .i64 c]) (.int .i64 0)).run Try.prog w = .ok (.int .i64 a) w := by kernel_rfl
theorem index3_1 (a b c : Int) (w : World) : (Instr.index 23 (.agg #[.int .i64 a, .int .i64 b, .int .i64 c]) (.int .i64 1)).run Try.prog w = .ok (.int .i64 b) w := by kernel_rfl
theorem index3_2 (a b c : Int) (w : World) : (Instr.index 23 (.agg #[.int .i64 a, .int .i64 b, .int .i64 c]) (.int .i64 2)).run Try.prog w = .ok (.int .i64 c) w := by kernel_rfl
set_option maxHeartbeats 4000000 in
set_option maxRecDepth 100000 in
/-- The closure. -/
theorem cmp_any {o : Od} (ho : o.ok) (x y : R3) (p : Nat) (W : World) (hp : RowAt W p 0 o.r3) :
    Calls Try.prog 31 #[agg3 x, agg3 y, .pointer (some ⟨p, 0, none⟩)] W fun e w' => e = .returned (.int .i64 (cf o x y)) ∧ ∃ q os', w' = grow (W.drewN q) os' := by
  obtain ⟨c0, c1, c2⟩ := hp
  have hpl : p < W.heap.size := World.block_lt_of_cell? _ _ c0
  simp only [Od.r3, Nat.zero_add] at c0 c1 c2
  obtain ⟨W2, hW2⟩ : ∃ W2, W2 = (W.alloc (.cells #[.int .i64 x.a, .int .i64 x.b, .int .i64 x.c] 23)).alloc (.cells #[.int .i64 y.a, .int .i64 y.b, .int .i64 y.c] 23) := ⟨_, rfl⟩
  have hB2 : Below W.heap.size W W2 := by
    rw [hW2]; exact ((Below.refl _ _).alloc (Nat.le_refl _) _).alloc (by simp) _
  have HG : Hid (∃ os', W2 = grow W os') := Hid.mk ⟨_, by rw [hW2, alloc_eq_grow, alloc_eq_grow, grow_grow]⟩
  have b1 : W2.heap[W.heap.size]? = some (.cells #[.int .i64 x.a, .int .i64 x.b, .int .i64 x.c] 23) := by
    rw [hW2]
    exact (((Below.refl (W.alloc (.cells #[.int .i64 x.a, .int .i64 x.b, .int .i64 x.c] 23)).heap.size _).alloc (Nat.le_refl _) _).block W.heap.size (by simp)).trans (box_at W _)
  have b2 : W2.heap[W.heap.size + 1]? = some (.cells #[.int .i64 y.a, .int .i64 y.b, .int .i64 y.c] 23) := by
    rw [hW2]
    have := box_at (W.alloc (.cells #[.int .i64 x.a, .int .i64 x.b, .int .i64 x.c] 23)) (.cells #[.int .i64 y.a, .int .i64 y.b, .int .i64 y.c] 23)
    simpa using this
  have hx : ∀ k, k < 3 → W2.cell? ⟨W.heap.size, k, none⟩ = some (.int .i64 (x.at k)) := fun k hk => by
    match k, hk with
    | 0, _ => simp only [World.cell?, b1]; rfl
    | 1, _ => simp only [World.cell?, b1]; rfl
    | 2, _ => simp only [World.cell?, b1]; rfl
  have hy : ∀ k, k < 3 → W2.cell? ⟨W.heap.size + 1, k, none⟩ = some (.int .i64 (y.at k)) := fun k hk => by
    match k, hk with
    | 0, _ => simp only [World.cell?, b2]; rfl
    | 1, _ => simp only [World.cell?, b2]; rfl
    | 2, _ => simp only [World.cell?, b2]; rfl
  have k0 := (hB2.cell (p := ⟨p, 0, none⟩) hpl).trans c0
  have k1 := (hB2.cell (p := ⟨p, 1, none⟩) hpl).trans c1
  have k2 := (hB2.cell (p := ⟨p, 2, none⟩) hpl).trans c2
  have HX := Hid.mk hx
  have HY := Hid.mk hy
  have HW2 := Hid.mk hW2
  have q0 := k0
  have q1 := k1
  have q2 := k2
  rw [hW2] at q0 q1 q2
  clear hx hy b1 b2 hB2 c0 c1 c2 hW2
  have ix0 := index3_0 (o.x : Int) (o.y : Int) (o.z : Int)
  have ix1 := index3_1 (o.x : Int) (o.y : Int) (o.z : Int)
  have ix2 := index3_2 (o.x : Int) (o.y : Int) (o.z : Int)
  go_enter Try.func31, Try.ntmps31
  go_wp2_with fail
  rw [← HW2.out]
  clear q0 q1 q2
  go_loopw [10] (fun c wr => ∃ i q : Nat, i ≤ 3 ∧ c = .int .i64 i ∧ (∀ k, k < i → num o x k = num o y k) ∧ wr = W2.drewN q) (fun c _ => 3 - (intOf c).toNat)
  case atStart => exact ⟨0, 0, by omega, rfl, fun k hk => absurd hk (by omega), rfl⟩
  case round =>
    obtain ⟨i, q, hi, rfl, hall, rfl⟩ := hrel
    have HA := Hid.mk hall
    clear hall
    rcases (by omega : i = 0 ∨ i = 1 ∨ i = 2 ∨ i = 3) with rfl | rfl | rfl | rfl
    · have hp3 := Od.lt ho 0
      obtain ⟨P, hP⟩ : ∃ P, P = o.at 0 := ⟨_, rfl⟩
      have hP2 : o.x = P := hP.symm
      have cx := HX.out P (by omega)
      have cy := HY.out P (by omega)
      have hPI : (P : Int) < 3 := by omega
      obtain ⟨X, hX⟩ : ∃ X, X = x.at P := ⟨_, rfl⟩
      obtain ⟨Y, hY⟩ : ∃ Y, Y = y.at P := ⟨_, rfl⟩
      have hXn : num o x 0 = X := by rw [hX, hP]; rfl
      have hYn : num o y 0 = Y := by rw [hY, hP]; rfl
      rw [← hX] at cx
      rw [← hY] at cy
      rw [hP2] at ix0 ix1 ix2 ⊢
      have C : Hid (∀ n, Calls Try.prog 32 #[.int .i64 X, .int .i64 Y] (W2.drewN (q + n)) fun e w' => e = .returned (.int .i64 (cmpI X Y)) ∧ ∃ m, w' = W2.drewN (q + m)) := Hid.mk (fun n => (compare_any X Y _).mono (fun e w' ⟨h1, h2⟩ => ⟨h1, n, h2⟩))
      by_cases hne : X = Y
      · rw [hne, cmpI_eq] at C
        rw [hne] at cx hXn
        have HA2 : Hid (∀ k, k < 0 + 1 → num o x k = num o y k) := Hid.mk (fun k hk => by
          by_cases e : k = 0
          · subst e; rw [hXn, hYn]
          · exact HA.out k (by omega))
        clear hP hP2 hX hY hXn hYn hp3 HA hne
        go_wp2_with fail
        go_quiet ((go_at_call 32; exact C.out _))
        go_wp2
        go_roundw
        case rel => exact ⟨0 + 1, q + nq, by omega, by rfl, HA2.out, by simp⟩
        case measure => simp [intOf]
      · obtain ⟨R, hR⟩ : ∃ R, R = cmpI X Y := ⟨_, rfl⟩
        have hR0 : ¬ R = 0 := by rw [hR]; exact cmpI_ne hne
        have hR1 : (R != 0) = true := by simpa using hR0
        rw [← hR] at C
        have HR : Hid (cf o x y = R) := Hid.mk (by
          rw [← hXn, ← hYn] at hne hR
          rw [hR]
          exact cf_0 hne)
        clear hP hP2 hX hY hXn hYn hp3 hne hR
        go_wp2_with fail
        go_quiet ((go_at_call 32; exact C.out _))
        go_wp2
        go_ret
        obtain ⟨os', hos⟩ := HG.out
        refine ⟨by rw [HR.out]; rfl, q + nq, os', ?_⟩
        rw [hos]
        simp [grow, World.drewN]
    · have hp3 := Od.lt ho 1
      obtain ⟨P, hP⟩ : ∃ P, P = o.at 1 := ⟨_, rfl⟩
      have hP2 : o.y = P := hP.symm
      have cx := HX.out P (by omega)
      have cy := HY.out P (by omega)
      have hPI : (P : Int) < 3 := by omega
      obtain ⟨X, hX⟩ : ∃ X, X = x.at P := ⟨_, rfl⟩
      obtain ⟨Y, hY⟩ : ∃ Y, Y = y.at P := ⟨_, rfl⟩
      have hXn : num o x 1 = X := by rw [hX, hP]; rfl
      have hYn : num o y 1 = Y := by rw [hY, hP]; rfl
      rw [← hX] at cx
      rw [← hY] at cy
      rw [hP2] at ix0 ix1 ix2 ⊢
      have C : Hid (∀ n, Calls Try.prog 32 #[.int .i64 X, .int .i64 Y] (W2.drewN (q + n)) fun e w' => e = .returned (.int .i64 (cmpI X Y)) ∧ ∃ m, w' = W2.drewN (q + m)) := Hid.mk (fun n => (compare_any X Y _).mono (fun e w' ⟨h1, h2⟩ => ⟨h1, n, h2⟩))
      by_cases hne : X = Y
      · rw [hne, cmpI_eq] at C
        rw [hne] at cx hXn
        have HA2 : Hid (∀ k, k < 1 + 1 → num o x k = num o y k) := Hid.mk (fun k hk => by
          by_cases e : k = 1
          · subst e; rw [hXn, hYn]
          · exact HA.out k (by omega))
        clear hP hP2 hX hY hXn hYn hp3 HA hne
        go_wp2_with fail
        go_quiet ((go_at_call 32; exact C.out _))
        go_wp2
        go_roundw
        case rel => exact ⟨1 + 1, q + nq, by omega, by rfl, HA2.out, by simp⟩
        case measure => simp [intOf]
      · obtain ⟨R, hR⟩ : ∃ R, R = cmpI X Y := ⟨_, rfl⟩
        have hR0 : ¬ R = 0 := by rw [hR]; exact cmpI_ne hne
        have hR1 : (R != 0) = true := by simpa using hR0
        rw [← hR] at C
        have HR : Hid (cf o x y = R) := Hid.mk (by
          rw [← hXn, ← hYn] at hne hR
          rw [hR]
          exact cf_1 (HA.out 0 (by omega)) hne)
        clear hP hP2 hX hY hXn hYn hp3 hne hR
        go_wp2_with fail
        go_quiet ((go_at_call 32; exact C.out _))
        go_wp2
        go_ret
        obtain ⟨os', hos⟩ := HG.out
        refine ⟨by rw [HR.out]; rfl, q + nq, os', ?_⟩
        rw [hos]
        simp [grow, World.drewN]
    · have hp3 := Od.lt ho 2
      obtain ⟨P, hP⟩ : ∃ P, P = o.at 2 := ⟨_, rfl⟩
      have hP2 : o.z = P := hP.symm
      have cx := HX.out P (by omega)
      have cy := HY.out P (by omega)
      have hPI : (P : Int) < 3 := by omega
      obtain ⟨X, hX⟩ : ∃ X, X = x.at P := ⟨_, rfl⟩
      obtain ⟨Y, hY⟩ : ∃ Y, Y = y.at P := ⟨_, rfl⟩
      have hXn : num o x 2 = X := by rw [hX, hP]; rfl
      have hYn : num o y 2 = Y := by rw [hY, hP]; rfl
      rw [← hX] at cx
      rw [← hY] at cy
      rw [hP2] at ix0 ix1 ix2 ⊢
      have C : Hid (∀ n, Calls Try.prog 32 #[.int .i64 X, .int .i64 Y] (W2.drewN (q + n)) fun e w' => e = .returned (.int .i64 (cmpI X Y)) ∧ ∃ m, w' = W2.drewN (q + m)) := Hid.mk (fun n => (compare_any X Y _).mono (fun e w' ⟨h1, h2⟩ => ⟨h1, n, h2⟩))
      by_cases hne : X = Y
      · rw [hne, cmpI_eq] at C
        rw [hne] at cx hXn
        have HA2 : Hid (∀ k, k < 2 + 1 → num o x k = num o y k) := Hid.mk (fun k hk => by
          by_cases e : k = 2
          · subst e; rw [hXn, hYn]
          · exact HA.out k (by omega))
        clear hP hP2 hX hY hXn hYn hp3 HA hne
        go_wp2_with fail
        go_quiet ((go_at_call 32; exact C.out _))
        go_wp2
        go_roundw
        case rel => exact ⟨2 + 1, q + nq, by omega, by rfl, HA2.out, by simp⟩
        case measure => simp [intOf]
      · obtain ⟨R, hR⟩ : ∃ R, R = cmpI X Y := ⟨_, rfl⟩
        have hR0 : ¬ R = 0 := by rw [hR]; exact cmpI_ne hne
        have hR1 : (R != 0) = true := by simpa using hR0
        rw [← hR] at C
        have HR : Hid (cf o x y = R) := Hid.mk (by
          rw [← hXn, ← hYn] at hne hR
          rw [hR]
          exact cf_2 (HA.out 0 (by omega)) (HA.out 1 (by omega)))
        clear hP hP2 hX hY hXn hYn hp3 hne hR
        go_wp2_with fail
        go_quiet ((go_at_call 32; exact C.out _))
        go_wp2
        go_ret
        obtain ⟨os', hos⟩ := HG.out
        refine ⟨by rw [HR.out]; rfl, q + nq, os', ?_⟩
        rw [hos]
        simp [grow, World.drewN]
    · have HR : Hid (cf o x y = 0) := Hid.mk (by
        rw [cf_2 (HA.out 0 (by omega)) (HA.out 1 (by omega)), HA.out 2 (by omega), cmpI_eq])
      go_wp2
      go_ret
      obtain ⟨os', hos⟩ := HG.out
      refine ⟨by rw [HR.out]; rfl, q, os', ?_⟩
      rw [hos]
      simp [grow, World.drewN]
end Go.Proofs.Ytfocpjplokabgaa
