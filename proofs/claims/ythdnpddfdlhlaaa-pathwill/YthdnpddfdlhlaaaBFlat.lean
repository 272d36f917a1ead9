/- Flat of the document, flat of the statements: some answer. -/
import Derived.Test.YthdnpddfdlhlaaaQRTree
import Derived.Test.YthdnpddfdlhlaaaBPath
namespace Go.Proofs.Ythdnpddfdlhlaaa
open Go.RowKit

/-- Some truth value. -/
def SomeB (e : Ending) : Prop := ∃ b : Bool, e = .returned (.bool b)
set_option maxRecDepth 100000 in
set_option maxHeartbeats 2000000 in
theorem rFlat_any {S : Nat → Prop} {w : World} {t : Vt} (h : VOk S w t) {g : Nat} (hc2 : w.cell? ⟨g, 2, none⟩ = some (.int .i64 t.kind)) (hc3 : w.cell? ⟨g, 3, none⟩ = some (.string ⟨t.word.toArray⟩)) (hc4 : w.cell? ⟨g, 4, none⟩ = some t.val) (hg : g < w.heap.size) :
    Calls Try.prog 28 #[.agg #[.int .i64 0, .slice none 0 0, .slice (some ⟨g, 0, none⟩) 1 1, .slice none 0 0]] w fun e w' => SomeB e ∧ Below w.heap.size w w' := by
  obtain ⟨ao, cap, hv⟩ := h.parts.1.slice
  have hkl := h.parts.2.2.1
  have CC := Hid.mk (fun u (hu : Below w.heap.size w u) => rCount_any t 40 u (h.below hu))
  obtain ⟨k, wd, v, l⟩ := t
  dsimp only at hv hkl hc2 hc3 hc4
  subst hv
  obtain ⟨n, hn⟩ : ∃ n, n = l.length := ⟨_, rfl⟩
  rw [← hn] at hc4 CC hkl
  clear h hn
  obtain ⟨o, ho⟩ : ∃ o, o = Obj.cells #[.int .i64 0, .slice none 0 0, .slice (some ⟨g, 0, none⟩) 1 1, .slice none 0 0] 57 := ⟨_, rfl⟩
  have HO := Hid.mk ho
  have HC : Hid (∀ wr, Below (w.alloc o).heap.size (w.alloc o) wr → (wr.cell? ⟨w.heap.size, 1, none⟩ = some (.slice none 0 0) ∧ wr.cell? ⟨w.heap.size, 2, none⟩ = some (.slice (some ⟨g, 0, none⟩) 1 1) ∧ wr.cell? ⟨w.heap.size, 3, none⟩ = some (.slice none 0 0)) ∧ wr.cell? ⟨g, 2, none⟩ = some (.int .i64 k) ∧ wr.cell? ⟨g, 3, none⟩ = some (.string ⟨wd.toArray⟩) ∧ wr.cell? ⟨g, 4, none⟩ = some (.slice ao n cap)) := Hid.mk (fun wr hb => by
    have h := box_keptQ hb
    rw [HO.out] at h
    have hb2 := below_boxQ hb
    exact ⟨by simp [World.cell?, h], (hb2.cell (p := ⟨g, 2, none⟩) hg).trans hc2, (hb2.cell (p := ⟨g, 3, none⟩) hg).trans hc3, (hb2.cell (p := ⟨g, 4, none⟩) hg).trans hc4⟩)
  have HB0 : Hid (Below (w.alloc o).heap.size (w.alloc o) (w.alloc (.cells #[.int .i64 0, .slice none 0 0, .slice (some ⟨g, 0, none⟩) 1 1, .slice none 0 0] 57))) := Hid.mk (by rw [HO.out]; exact Below.refl _ _)
  clear ho hc2 hc3 hc4
  go_enter Try.func28, Try.ntmps28
  go_wp2_with fail
  go_loopw [3] (fun c wr => ∃ i : Nat, i ≤ 1 ∧ c = .int .i64 i ∧ Below (w.alloc o).heap.size (w.alloc o) wr) (fun c _ => 1 - (intOf c).toNat)
  case atStart => exact ⟨0, Nat.zero_le _, rfl, HB0.out⟩
  case round =>
    obtain ⟨i, hi, rfl, hbq⟩ := hrel
    have HBQ := Hid.mk hbq
    obtain ⟨⟨c1, c2, c3⟩, p2, p3, p4⟩ := HC.out _ hbq
    clear hbq
    by_cases hlt : i = 0
    · subst hlt
      go_wp2_with fail
      refine (CC.out _ (below_boxQ HBQ.out)).mono ?_
      rintro e w2 ⟨⟨z, rfl⟩, hb2⟩
      have HB2 := Hid.mk (HBQ.out.trans (hb2.mono HBQ.out.size))
      clear hb2 c1 c2 c3 p2 p3 p4
      by_cases hz : 400 < z
      · have hd : decide (400 < z) = true := decide_eq_true hz
        go_wp2
        go_ret
        exact ⟨⟨_, rfl⟩, below_boxQ HB2.out⟩
      · have hd : decide (400 < z) = false := decide_eq_false hz
        go_wp2
        go_roundw
        case rel => exact ⟨1, by omega, by go_num, HB2.out⟩
        case measure => simp [intOf]
    · have hi1 : i = 1 := by omega
      subst hi1
      go_wp2
      go_ret
      exact ⟨⟨_, rfl⟩, below_boxQ HBQ.out⟩

set_option maxRecDepth 100000 in
set_option maxHeartbeats 2000000 in
theorem flat_any {S : Nat → Prop} {w : World} {t : Vt} (h : VOk S w t) :
    Calls Try.prog 9 #[encN t] w fun e w' => SomeB e ∧ Below w.heap.size w w' := by
  obtain ⟨ao, cap, hv⟩ := h.parts.1.slice
  have hkl := h.parts.2.2.1
  have H := Hid.mk h
  obtain ⟨k, wd, v, l⟩ := t
  dsimp only at hv hkl
  subst hv
  clear h
  show Calls Try.prog _ #[.agg #[.int .i64 k, .string ⟨wd.toArray⟩, .slice ao l.length cap]] w _
  obtain ⟨n, hn⟩ : ∃ n, n = l.length := ⟨_, rfl⟩
  rw [← hn] at H hkl ⊢
  clear hn
  have C : Hid (∀ u, Below w.heap.size w u → w.heap.size + 1 < u.heap.size → u.cell? ⟨w.heap.size + 1, 2, none⟩ = some (.int .i64 k) → u.cell? ⟨w.heap.size + 1, 3, none⟩ = some (.string ⟨wd.toArray⟩) → u.cell? ⟨w.heap.size + 1, 4, none⟩ = some (.slice ao n cap) → Calls Try.prog 28 #[.agg #[.int .i64 0, .slice none 0 0, .slice (some ⟨w.heap.size + 1, 0, none⟩) 1 1, .slice none 0 0]] u fun e w' => SomeB e ∧ Below u.heap.size u w') := Hid.mk (fun u hu hsz h2 h3 h4 => rFlat_any (H.out.below hu) h2 h3 h4 hsz)
  clear H
  go_enter Try.func9, Try.ntmps9
  go_wp2_with fail
  refine (C.out _ ?b1 ?b2 ?b3 ?b4 ?b5).mono ?_
  case b1 => exact ((Below.refl _ _).alloc (Nat.le_refl _) _).alloc (by simp) _
  case b2 => simp
  case b3 => simp [go_sem]
  case b4 => simp [go_sem]
  case b5 => simp [go_sem]
  rintro e w1 ⟨⟨b, rfl⟩, hb1⟩
  have HB1 := Hid.mk hb1
  clear hb1
  go_wp2
  go_ret
  exact ⟨⟨_, rfl⟩, (((Below.refl _ _).alloc (Nat.le_refl _) _).alloc (by simp) _).trans (HB1.out.mono (by simp; omega))⟩
end Go.Proofs.Ythdnpddfdlhlaaa
