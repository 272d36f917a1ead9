/- A store that nobody made. -/
import Derived.Test.YtiabnjjdeikefaaSOpen
namespace Go.Proofs.Ytiabnjjdeikefaa
open Go.RowKit

/-- A pointer to a store that nobody made. -/
def NoS (w : World) (v : Value) : Prop := v = .pointer none ∨ ∃ b, v = .pointer (some ⟨b, 0, none⟩) ∧ w.cell? ⟨b, 0, none⟩ = some (.pointer none)
theorem NoS.below {w w' : World} {v : Value} (h : NoS w v) (hb : Below w.heap.size w w') : NoS w' v := by
  rcases h with h | ⟨b, h1, h2⟩
  · exact .inl h
  · exact .inr ⟨b, h1, (hb.cell (p := ⟨b, 0, none⟩) (World.block_lt_of_cell? _ _ h2)).trans h2⟩
theorem NoS.ptr {w : World} {v : Value} (h : NoS w v) : ∃ a, v = .pointer a := by
  rcases h with h | ⟨b, h1, _⟩
  · exact ⟨_, h⟩
  · exact ⟨_, h1⟩
theorem no_given {w : World} {v : Value} (h : NoS w v) : Calls Try.prog 28 #[v] w fun e w' => e = .returned (.bool false) ∧ w' = w := by
  rcases h with rfl | ⟨b, rfl, h⟩
  · exact given_nil w
  · exact given_not b w h
set_option maxRecDepth 100000 in
theorem no_version {w : World} {v : Value} (h : NoS w v) : Calls Try.prog 23 #[v] w fun e w' => e = .returned (.int .i64 0) ∧ w' = w := by
  have C := Hid.mk (no_given h)
  obtain ⟨a, rfl⟩ := h.ptr
  clear h
  go_enter Try.func23, Try.ntmps23
  go_wp2_with fail
  refine C.out.mono ?_
  rintro e w1 ⟨rfl, hw⟩
  subst hw
  go_wp2
  go_ret
  exact ⟨rfl, rfl⟩
set_option maxRecDepth 100000 in
theorem no_homes {w : World} {v : Value} (h : NoS w v) (x y : Int) : Calls Try.prog 21 #[v, .int .i64 x, .int .i64 y] w fun e w' => e = .returned (.bool false) ∧ w' = w := by
  have C := Hid.mk (no_given h)
  obtain ⟨a, rfl⟩ := h.ptr
  clear h
  go_enter Try.func21, Try.ntmps21
  go_wp2_with fail
  refine C.out.mono ?_
  rintro e w1 ⟨rfl, hw⟩
  subst hw
  go_wp2
  go_ret
  exact ⟨rfl, rfl⟩
set_option maxRecDepth 100000 in
theorem no_room {w : World} {v : Value} (h : NoS w v) (ao : Option Addr) (n cap : Nat) : Calls Try.prog 12 #[v, .slice ao n cap] w fun e w' => e = .returned (.bool false) ∧ w' = w := by
  have C := Hid.mk (no_given h)
  obtain ⟨a, rfl⟩ := h.ptr
  clear h
  go_enter Try.func12, Try.ntmps12
  go_wp2_with fail
  refine C.out.mono ?_
  rintro e w1 ⟨rfl, hw⟩
  subst hw
  go_wp2
  go_ret
  exact ⟨rfl, rfl⟩
set_option maxRecDepth 100000 in
theorem no_apply {w : World} {v : Value} (h : NoS w v) (k : Int) (ao : Option Addr) (n cap : Nat) : Calls Try.prog 15 #[v, .int .i64 k, .slice ao n cap] w fun e w' => e = .returned (.int .i64 1) ∧ w' = w := by
  have C := Hid.mk (no_given h)
  obtain ⟨a, rfl⟩ := h.ptr
  clear h
  go_enter Try.func15, Try.ntmps15
  go_wp2_with fail
  refine C.out.mono ?_
  rintro e w1 ⟨rfl, hw⟩
  subst hw
  go_wp2
  go_ret
  exact ⟨rfl, rfl⟩
set_option maxRecDepth 100000 in
theorem no_match {w : World} {v : Value} (h : NoS w v) (k : Int) (like : Tri) : Calls Try.prog 18 #[v, .int .i64 k, encT like] w fun e w' => e = .returned (.tuple #[.slice none 0 0, .int .i64 1]) ∧ Below w.heap.size w w' := by
  have hb : Below w.heap.size w (w.alloc (.cells #[strV like.1, strV like.2.1, strV like.2.2] 25)) := (Below.refl _ _).alloc (Nat.le_refl _) _
  have C := Hid.mk (no_given (h.below hb))
  have HB := Hid.mk hb
  obtain ⟨a, rfl⟩ := h.ptr
  clear h hb
  go_enter Try.func18, Try.ntmps18
  go_wp2_with fail
  refine C.out.mono ?_
  rintro e w1 ⟨rfl, hw⟩
  subst hw
  go_wp2
  go_ret2
  exact ⟨rfl, HB.out⟩
set_option maxRecDepth 100000 in
theorem no_facts {w : World} {v : Value} (h : NoS w v) (k : Int) : Calls Try.prog 16 #[v, .int .i64 k] w fun e w' => e = .returned (.tuple #[.slice none 0 0, .int .i64 1]) ∧ Below w.heap.size w w' := by
  have C := Hid.mk (no_match h k ([], [], []))
  obtain ⟨a, rfl⟩ := h.ptr
  clear h
  go_enter Try.func16, Try.ntmps16
  go_wp2_with fail
  refine C.out.mono ?_
  rintro e w1 ⟨rfl, hb⟩
  go_wp2
  go_ret2
  exact ⟨rfl, hb⟩

set_option maxHeartbeats 8000000 in
set_option maxRecDepth 100000 in
theorem storeNobody_walk (n : Int) (v : Value) (bt : List Chg) (w : World) (_ : (Lit.int .i64 n).wf = true) (hv : ChgsA w v bt) :
    Calls Try.prog 8 #[.int .i64 n, v] w fun e w' => e = .returned (.bool true) ∧ Below w.heap.size w w' := by
  obtain ⟨ao, cap, rfl⟩ := hv.1.slice
  obtain ⟨m, hm⟩ : ∃ m, m = bt.length := ⟨_, rfl⟩
  rw [← hm]
  clear hm hv
  obtain ⟨W1, hW1⟩ : ∃ W1, W1 = w.alloc (.cells #[.pointer none, .int .i64 0, .map none, .slice none 0 0] 62) := ⟨_, rfl⟩
  obtain ⟨W2, hW2⟩ : ∃ W2, W2 = W1.alloc (.cells #[.pointer none, .pointer (some ⟨w.heap.size, 0, none⟩)] 26) := ⟨_, rfl⟩
  have hz1 : W1.heap.size = w.heap.size + 1 := by rw [hW1]; simp
  have hB1 : Below w.heap.size w W1 := by rw [hW1]; exact (Below.refl _ _).alloc (Nat.le_refl _) _
  have hB2 : Below W1.heap.size W1 W2 := by rw [hW2]; exact (Below.refl _ _).alloc (Nat.le_refl _) _
  have hs : W2.cell? ⟨w.heap.size, 0, none⟩ = some (.pointer none) := (hB2.cell (p := ⟨w.heap.size, 0, none⟩) (by rw [hz1]; exact Nat.lt_succ_self _)).trans (by rw [hW1]; exact cell_new_at w 0 rfl)
  have hx0 : W2.cell? ⟨W1.heap.size, 0, none⟩ = some (.pointer none) := by rw [hW2]; exact cell_new_at W1 0 rfl
  have hx1 : W2.cell? ⟨W1.heap.size, 1, none⟩ = some (.pointer (some ⟨w.heap.size, 0, none⟩)) := by rw [hW2]; exact cell_new_at W1 1 rfl
  have HX : Hid (∀ i : Nat, i < 2 → ∃ p, W2.cell? ⟨W1.heap.size, i, none⟩ = some (.pointer p) ∧ NoS W2 (.pointer p)) := Hid.mk (fun i hi => by
    match i, hi with
    | 0, _ => exact ⟨none, hx0, .inl rfl⟩
    | 1, _ => exact ⟨_, hx1, .inr ⟨_, rfl, hs⟩⟩)
  have hlx : W1.heap.size < W2.heap.size := World.block_lt_of_cell? _ _ hx0
  have HB := Hid.mk (hB1.trans (hB2.mono hB1.size))
  have HW2 : Hid (W2 = (w.alloc (.cells #[.pointer none, .int .i64 0, .map none, .slice none 0 0] 62)).alloc (.cells #[.pointer none, .pointer (some ⟨w.heap.size, 0, none⟩)] 26)) := Hid.mk (by rw [hW2, hW1])
  rw [hz1] at HX hlx
  clear hW1 hW2 hB1 hB2 hs hx0 hx1 hz1
  go_enter Try.func8, Try.ntmps8
  go_wp2_with fail
  rw [← HW2.out]
  go_loopw [6] (fun c wr => ∃ i : Nat, i ≤ 2 ∧ c = .int .i64 i ∧ Below W2.heap.size W2 wr) (fun c _ => 2 - (intOf c).toNat)
  case atStart => exact ⟨0, by omega, rfl, Below.refl _ _⟩
  case round =>
    obtain ⟨i, hi, rfl, hB⟩ := hrel
    have HR := Hid.mk hB
    clear hB
    by_cases hlt : i < 2
    · have hltI : (i : Int) < 2 := by omega
      obtain ⟨p, hp, hn⟩ := HX.out i hlt
      have HN := Hid.mk hn
      have KX : Hid (∀ u, Below W2.heap.size W2 u → u.cell? ⟨w.heap.size + 1, i, none⟩ = some (.pointer p)) := Hid.mk (fun u hu => (hu.cell (p := ⟨w.heap.size + 1, i, none⟩) hlx).trans hp)
      have c0 := KX.out wr HR.out
      clear hn hp
      go_wp2_with fail
      refine (no_facts (HN.out.below HR.out) n).mono ?_
      rintro e w3 ⟨rfl, hb3⟩
      have H3 := Hid.mk (HR.out.trans (hb3.mono HR.out.size))
      clear c0 hb3
      have c0 := KX.out w3 H3.out
      go_wp2_with fail
      refine (no_match (HN.out.below H3.out) n ([], [], [])).mono ?_
      rintro e w4 ⟨rfl, hb4⟩
      have H4 := Hid.mk (H3.out.trans (hb4.mono H3.out.size))
      clear c0 hb4
      have c0 := KX.out w4 H4.out
      have HN4 := Hid.mk (HN.out.below H4.out)
      go_wp2_with fail
      refine (no_apply HN4.out n ao m cap).mono ?_
      rintro e w5 ⟨rfl, hw⟩
      have hw := hw.symm
      subst hw
      go_wp2_with fail
      refine (no_room HN4.out ao m cap).mono ?_
      rintro e w5 ⟨rfl, hw⟩
      have hw := hw.symm
      subst hw
      go_wp2_with fail
      refine (no_version HN4.out).mono ?_
      rintro e w5 ⟨rfl, hw⟩
      have hw := hw.symm
      subst hw
      go_wp2_with fail
      refine (no_homes HN4.out 0 1).mono ?_
      rintro e w5 ⟨rfl, hw⟩
      have hw := hw.symm
      subst hw
      go_wp2
      go_roundw
      case rel => exact ⟨i + 1, by omega, by go_num, H4.out⟩
      case measure => simp [intOf]; omega
    · have hltI : ¬ (i : Int) < 2 := by omega
      go_wp2_with fail
      refine (awake_any _).mono ?_
      rintro e w3 ⟨rfl, hb3⟩
      have HF := Hid.mk ((HB.out.trans (HR.out.mono HB.out.size)).trans (hb3.mono (HB.out.trans (HR.out.mono HB.out.size)).size))
      clear hb3
      go_wp2
      go_ret
      exact ⟨rfl, HF.out⟩
end Go.Proofs.Ytiabnjjdeikefaa
