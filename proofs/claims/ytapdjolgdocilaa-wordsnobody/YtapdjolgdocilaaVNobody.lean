/- The statement of a dictionary that nobody made. -/
import Derived.Test.YtapdjolgdocilaaVAwake
namespace Go.Proofs.Ytapdjolgdocilaa
open Go.RowKit

/-- A dictionary that New did not give. -/
def Nob (w : World) (v : Value) : Prop := v = .pointer none ∨ ∃ b, v = .pointer (some ⟨b, 0, none⟩) ∧ w.cell? ⟨b, 0, none⟩ = some (.pointer none)
theorem Nob.below {w w' : World} {v : Value} (h : Nob w v) (hb : Below w.heap.size w w') : Nob w' v := by
  rcases h with h | ⟨b, h1, h2⟩
  · exact .inl h
  · exact .inr ⟨b, h1, (hb.cell (p := ⟨b, 0, none⟩) (World.block_lt_of_cell? _ _ h2)).trans h2⟩
theorem given_nob {w : World} {v : Value} (h : Nob w v) : Calls Try.prog 22 #[v] w fun e w' => e = .returned (.bool false) ∧ w' = w := by
  rcases h with rfl | ⟨b, rfl, h2⟩
  · exact given_nil w
  · exact given_not b w h2
section
variable {w : World} {v : Value}
set_option maxRecDepth 100000 in
theorem put_nob (h : Nob w v) (s : ByteArray) : Calls Try.prog 15 #[v, .string s] w fun e w' => e = .returned (.tuple #[.int .i64 0, .int .i64 1]) ∧ w' = w := by
  have C := Hid.mk (given_nob h)
  clear h
  go_enter Try.func15, Try.ntmps15
  go_wp2_with fail
  refine C.out.mono ?_
  rintro e w1 ⟨rfl, hw⟩
  subst hw
  go_wp2
  go_ret2
  exact ⟨rfl, rfl⟩
set_option maxRecDepth 100000 in
theorem id_nob (h : Nob w v) (s : ByteArray) : Calls Try.prog 12 #[v, .string s] w fun e w' => e = .returned (.tuple #[.int .i64 0, .int .i64 1]) ∧ w' = w := by
  have C := Hid.mk (given_nob h)
  clear h
  go_enter Try.func12, Try.ntmps12
  go_wp2_with fail
  refine C.out.mono ?_
  rintro e w1 ⟨rfl, hw⟩
  subst hw
  go_wp2
  go_ret2
  exact ⟨rfl, rfl⟩
set_option maxRecDepth 100000 in
theorem word_nob (h : Nob w v) (n : Int) : Calls Try.prog 16 #[v, .int .i64 n] w fun e w' => e = .returned (.tuple #[.string ⟨#[]⟩, .int .i64 1]) ∧ w' = w := by
  have C := Hid.mk (given_nob h)
  clear h
  go_enter Try.func16, Try.ntmps16
  go_wp2_with fail
  refine C.out.mono ?_
  rintro e w1 ⟨rfl, hw⟩
  subst hw
  go_wp2
  go_ret2
  exact ⟨rfl, rfl⟩
set_option maxRecDepth 100000 in
theorem len_nob (h : Nob w v) : Calls Try.prog 19 #[v] w fun e w' => e = .returned (.int .i64 0) ∧ w' = w := by
  have C := Hid.mk (given_nob h)
  clear h
  go_enter Try.func19, Try.ntmps19
  go_wp2_with fail
  refine C.out.mono ?_
  rintro e w1 ⟨rfl, hw⟩
  subst hw
  go_wp2
  go_ret
  exact ⟨rfl, rfl⟩
set_option maxRecDepth 100000 in
theorem sorted_nob (h : Nob w v) : Calls Try.prog 17 #[v] w fun e w' => e = .returned (.slice none 0 0) ∧ Below w.heap.size w w' := by
  have h1 : ∃ a, v = .pointer a := by
    rcases h with rfl | ⟨b, rfl, _⟩
    · exact ⟨_, rfl⟩
    · exact ⟨_, rfl⟩
  obtain ⟨a, rfl⟩ := h1
  have hb : Below w.heap.size w (w.alloc (.cells #[.pointer a] 24)) := (Below.refl _ _).alloc (Nat.le_refl _) _
  have C := Hid.mk (given_nob (h.below hb))
  have HB := Hid.mk hb
  clear h hb
  go_enter Try.func17, Try.ntmps17
  go_wp2_with fail
  refine C.out.mono ?_
  rintro e w1 ⟨rfl, hw⟩
  subst hw
  go_wp2
  go_ret
  exact ⟨rfl, HB.out⟩
end

set_option maxRecDepth 100000 in
set_option maxHeartbeats 4000000 in
theorem wordsNobody_walk (s : ByteArray) (n : Int) (w : World) (_ : s.size ≤ 140737488351232) (_ : (Lit.int .i64 n).wf = true) :
    Calls Try.prog 7 #[.string s, .int .i64 n] w fun e w' => e = .returned (.bool true) ∧ Below w.heap.size w w' := by
  obtain ⟨W1, hW1⟩ : ∃ W, W = w.alloc (.cells #[.pointer none, .map none, .slice none 0 0] 43) := ⟨_, rfl⟩
  obtain ⟨W2, hW2⟩ : ∃ W, W = W1.alloc (.cells #[.pointer none, .pointer (some ⟨w.heap.size, 0, none⟩)] 24) := ⟨_, rfl⟩
  have hz1 : W1.heap.size = w.heap.size + 1 := by rw [hW1]; simp
  have b1 : Below w.heap.size w W1 := by rw [hW1]; exact (Below.refl _ _).alloc (Nat.le_refl _) _
  have b2 : Below W1.heap.size W1 W2 := by rw [hW2]; exact (Below.refl _ _).alloc (Nat.le_refl _) _
  have hq : W2.cell? ⟨w.heap.size, 0, none⟩ = some (.pointer none) := by
    rw [b2.cell (p := ⟨w.heap.size, 0, none⟩) (by show w.heap.size < _; omega), hW1]
    simp only [World.cell?, box_at w _]; rfl
  have hs0 : W2.cell? ⟨w.heap.size + 1, 0, none⟩ = some (.pointer none) := by
    rw [hW2, ← hz1]; simp only [World.cell?, box_at W1 _]; rfl
  have hs1 : W2.cell? ⟨w.heap.size + 1, 1, none⟩ = some (.pointer (some ⟨w.heap.size, 0, none⟩)) := by
    rw [hW2, ← hz1]; simp only [World.cell?, box_at W1 _]; rfl
  have N0 := Hid.mk (show Nob W2 (.pointer none) from .inl rfl)
  have N1 := Hid.mk (show Nob W2 (.pointer (some ⟨w.heap.size, 0, none⟩)) from .inr ⟨_, rfl, hq⟩)
  have HB : Hid (Below w.heap.size w W2) := Hid.mk (b1.trans (b2.mono b1.size))
  have HW := Hid.mk hW2
  rw [hW1] at HW
  have HZ : Hid (w.heap.size + 1 < W2.heap.size) := Hid.mk (by rw [hW2]; simp; omega)
  have CELL : Hid (∀ i : Nat, i < 2 → ∃ a, W2.cell? ⟨w.heap.size + 1, i, none⟩ = some (.pointer a) ∧ Nob W2 (.pointer a)) := Hid.mk (fun i hi => by
    rcases (by omega : i = 0 ∨ i = 1) with rfl | rfl
    · exact ⟨_, hs0, N0.out⟩
    · exact ⟨_, hs1, N1.out⟩)
  clear hW1 hW2 hz1 b1 b2 hq hs0 hs1 N0 N1
  go_enter Try.func7, Try.ntmps7
  go_wp2_with fail
  rw [← HW.out]
  obtain ⟨q, hq⟩ : ∃ q, q = w.heap.size + 1 := ⟨_, rfl⟩
  have HCELL : Hid (∀ (wr : World) (i : Nat), Below W2.heap.size W2 wr → i < 2 → ∃ a, wr.cell? ⟨w.heap.size + 1, i, none⟩ = some (.pointer a) ∧ Nob W2 (.pointer a)) := Hid.mk (fun wr i hb hi => by
    obtain ⟨a, h1, h2⟩ := CELL.out i hi
    exact ⟨a, (hb.cell (p := ⟨w.heap.size + 1, i, none⟩) HZ.out).trans h1, h2⟩)
  clear HW CELL hq q
  go_loopw [6] (fun c wr => ∃ i : Nat, i ≤ 2 ∧ c = .int .i64 i ∧ Below W2.heap.size W2 wr) (fun c _ => 2 - (intOf c).toNat)
  case atStart => exact ⟨0, by omega, rfl, Below.refl _ _⟩
  case round =>
    obtain ⟨i, hi, rfl, hbr⟩ := hrel
    have HBR := Hid.mk hbr
    by_cases hlt : i < 2
    · have hltI : (i : Int) < 2 := by omega
      obtain ⟨a, hc, hn⟩ := HCELL.out wr i hbr hlt
      have HNB := Hid.mk (hn.below hbr)
      clear hbr hn
      go_wp2_with fail
      refine (put_nob HNB.out s).mono ?_
      rintro e w1 ⟨rfl, hw⟩
      subst hw
      go_wp2_with fail
      refine (id_nob HNB.out s).mono ?_
      rintro e w2 ⟨rfl, hw⟩
      subst hw
      go_wp2_with fail
      refine (word_nob HNB.out n).mono ?_
      rintro e w3 ⟨rfl, hw⟩
      subst hw
      go_wp2_with fail
      refine (len_nob HNB.out).mono ?_
      rintro e w4 ⟨rfl, hw⟩
      subst hw
      go_wp2_with fail
      refine (sorted_nob HNB.out).mono ?_
      rintro e w5 ⟨rfl, hb5⟩
      have HB5 : Hid (Below W2.heap.size W2 w5) := Hid.mk (HBR.out.trans (hb5.mono HBR.out.size))
      clear hb5
      go_wp2
      go_roundw
      case rel => exact ⟨i + 1, by omega, by go_num, HB5.out⟩
      case measure => simp [intOf]; omega
    · clear hbr
      go_wp2_with fail
      refine (awake_any _).mono ?_
      rintro e w1 ⟨rfl, hb1⟩
      have HB1 : Hid (Below w.heap.size w w1) := Hid.mk ((HB.out.trans (HBR.out.mono HB.out.size)).trans (hb1.mono (Nat.le_trans HB.out.size HBR.out.size)))
      clear hb1
      go_wp2
      go_ret
      exact ⟨rfl, HB1.out⟩
end Go.Proofs.Ytapdjolgdocilaa
