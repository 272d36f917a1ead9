/- cloned, Apply, Room of the program. -/
import Derived.Test.YtiabnjjdeikefaaSRange
import Derived.Test.YtiabnjjdeikefaaShelf
import Derived.Laws.ResultCell
namespace Go.Proofs.Ytiabnjjdeikefaa
open Go.RowKit

theorem infoS : (Try.prog.info? 9).map (fun i => (i.zero, i.size, i.bytes)) = some (some (.string ⟨#[]⟩), 1, 16) := by kernel_rfl

set_option maxRecDepth 100000 in
set_option maxHeartbeats 400000 in
theorem clone_any (s : ByteArray) (w : World) (hs : s.size ≤ 140737488355328) :
    Calls Try.prog 44 #[.string s] w fun e w' => e = .returned (.string s) ∧ Below w.heap.size w w' := by
  go_enter Try.func44, Try.ntmps44
  go_wp2_with fail
  refine (Try.stringslite_Clone _ _ (by omega)).mono ?_
  rintro e w1 ⟨rfl, hb⟩
  go_wp2
  go_ret
  exact ⟨rfl, hb⟩

theorem cl_any (s : List UInt8) (w : World) (hs : s.length ≤ 16) : Calls Try.prog 44 #[strV s] w fun e w' => e = .returned (strV s) ∧ Below w.heap.size w w' :=
  clone_any _ _ (by rw [size_list]; omega)
/-- The block b holds a fact. -/
def BoxT (b : Nat) (t : Tri) (w : World) : Prop := w.cell? ⟨b, 0, none⟩ = some (strV t.1) ∧ w.cell? ⟨b, 1, none⟩ = some (strV t.2.1) ∧ w.cell? ⟨b, 2, none⟩ = some (strV t.2.2)

theorem three_cells {w : World} {b : Nat} {c0 c1 c2 : Value} {t : TypeId} (h : w.heap[b]? = some (.cells #[c0, c1, c2] t (0, 0))) :
    (w.cell? ⟨b, 0, none⟩ = some c0 ∧ w.cell? ⟨b, 1, none⟩ = some c1 ∧ w.cell? ⟨b, 2, none⟩ = some c2) ∧
    (w.frozen? ⟨b, 0, none⟩ = false ∧ w.frozen? ⟨b, 1, none⟩ = false ∧ w.frozen? ⟨b, 2, none⟩ = false) := by
  simp [World.cell?, World.frozen?, h]
/-- The block b is three cells that may be written. -/
def Res3 (b : Nat) (w : World) : Prop := ∃ c0 c1 c2 y, w.heap[b]? = some (.cells #[c0, c1, c2] y (0, 0))
theorem Res3.cells {b : Nat} {w : World} (h : Res3 b w) : ∃ c0 c1 c2, (w.cell? ⟨b, 0, none⟩ = some c0 ∧ w.cell? ⟨b, 1, none⟩ = some c1 ∧ w.cell? ⟨b, 2, none⟩ = some c2) ∧ (w.frozen? ⟨b, 0, none⟩ = false ∧ w.frozen? ⟨b, 1, none⟩ = false ∧ w.frozen? ⟨b, 2, none⟩ = false) := by
  obtain ⟨c0, c1, c2, y, h⟩ := h
  exact ⟨c0, c1, c2, three_cells h⟩
theorem Res3.below {b : Nat} {w w' : World} (h : Res3 b w) (hb : Below w.heap.size w w') : Res3 b w' := by
  obtain ⟨c0, c1, c2, y, h⟩ := h
  exact ⟨c0, c1, c2, y, (hb.block b (lt_of_block h)).trans h⟩
/-- What the copying of a fact keeps: the fact at b, room for another behind it. -/
abbrev CloS (b : Nat) (t : Tri) (w0 w : World) : Prop := Res3 (b + 1) w ∧ Below b w0 w ∧ w.cell? ⟨b, 0, none⟩ = some (strV t.1) ∧ w.cell? ⟨b, 1, none⟩ = some (strV t.2.1) ∧ w.cell? ⟨b, 2, none⟩ = some (strV t.2.2)
theorem CloS.below {b : Nat} {t : Tri} {w0 w1 w2 : World} (h : CloS b t w0 w1) (hb : Below w1.heap.size w1 w2) : CloS b t w0 w2 := by
  obtain ⟨hr, h3, h0, h1, h2⟩ := h
  have hl : b < w1.heap.size := World.block_lt_of_cell? _ _ h0
  exact ⟨hr.below hb, h3.trans (hb.mono (Nat.le_of_lt hl)), (hb.cell (p := ⟨b, 0, none⟩) hl).trans h0, (hb.cell (p := ⟨b, 1, none⟩) hl).trans h1, (hb.cell (p := ⟨b, 2, none⟩) hl).trans h2⟩
theorem CloS.set {b : Nat} {t : Tri} {w0 w : World} (h : CloS b t w0 w) (x y z : Value) : CloS b t w0 (((w.setCell ⟨b + 1, 0, none⟩ x).setCell ⟨b + 1, 1, none⟩ y).setCell ⟨b + 1, 2, none⟩ z) := by
  obtain ⟨⟨c0, c1, c2, u, hr⟩, h3, h0, h1, h2⟩ := h
  have e : ∀ k, k ≠ b + 1 → (((w.setCell ⟨b + 1, 0, none⟩ x).setCell ⟨b + 1, 1, none⟩ y).setCell ⟨b + 1, 2, none⟩ z).heap[k]? = w.heap[k]? := fun k hk =>
    ((Below.heap_setCell _ ⟨b + 1, 2, none⟩ z k hk).trans (Below.heap_setCell _ ⟨b + 1, 1, none⟩ y k hk)).trans (Below.heap_setCell _ ⟨b + 1, 0, none⟩ x k hk)
  refine ⟨⟨x, y, z, u, ?_⟩, ((h3.setCell (p := ⟨b + 1, 0, none⟩) (by simp) x).setCell (p := ⟨b + 1, 1, none⟩) (by simp) y).setCell (p := ⟨b + 1, 2, none⟩) (by simp) z, ?_, ?_, ?_⟩
  · simp [World.setCell, Array.getElem?_modify, hr]
  · simpa only [World.cell?, e b (by omega)] using h0
  · simpa only [World.cell?, e b (by omega)] using h1
  · simpa only [World.cell?, e b (by omega)] using h2
set_option maxHeartbeats 4000000 in
set_option maxRecDepth 100000 in
theorem cloned_any (t : Tri) (ht : isTW t = true) (w : World) : Calls Try.prog 34 #[encT t] w fun e w' => e = .returned (encT t) ∧ Below w.heap.size w w' := by
  obtain ⟨h1, h2, h3⟩ := isTW_parts ht
  have l1 := isW_len h1
  have l2 := isW_len h2
  have l3 := isW_len h3
  obtain ⟨a, b, c⟩ := t
  simp only at l1 l2 l3
  have C1 : Hid (∀ w, Calls Try.prog 44 #[strV a] w fun e w' => e = .returned (strV a) ∧ Below w.heap.size w w') := Hid.mk (fun w => cl_any a w l1.2)
  have C2 : Hid (∀ w, Calls Try.prog 44 #[strV b] w fun e w' => e = .returned (strV b) ∧ Below w.heap.size w w') := Hid.mk (fun w => cl_any b w l2.2)
  have C3 : Hid (∀ w, Calls Try.prog 44 #[strV c] w fun e w' => e = .returned (strV c) ∧ Below w.heap.size w w') := Hid.mk (fun w => cl_any c w l3.2)
  obtain ⟨W, hW⟩ : ∃ W, W = (w.alloc (.cells #[strV a, strV b, strV c] 25)).alloc (.cells #[strV [], strV [], strV []] 25) := ⟨_, rfl⟩
  have b0 : W.heap[w.heap.size]? = some (.cells #[strV a, strV b, strV c] 25) := by
    rw [hW]
    exact (((Below.refl (w.alloc (.cells #[strV a, strV b, strV c] 25)).heap.size _).alloc (Nat.le_refl _) _).block w.heap.size (by simp)).trans (box_at w _)
  have b1 : W.heap[w.heap.size + 1]? = some (.cells #[strV [], strV [], strV []] 25) := by
    rw [hW]
    have := box_at (w.alloc (.cells #[strV a, strV b, strV c] 25)) (.cells #[strV [], strV [], strV []] 25)
    simpa using this
  have hS0 : CloS w.heap.size (a, b, c) w W := ⟨⟨_, _, _, _, b1⟩, by rw [hW]; exact ((Below.refl _ _).alloc (Nat.le_refl _) _).alloc (by simp) _, (box3 (t := (a, b, c)) b0).1⟩
  have hS1 : CloS w.heap.size (a, b, c) w W.drew := hS0.below (Below.refl _ _).drew
  have K : Hid (∀ w1, CloS w.heap.size (a, b, c) w w1 → ∃ c0 c1 c2, (w1.cell? ⟨w.heap.size + 1, 0, none⟩ = some c0 ∧ w1.cell? ⟨w.heap.size + 1, 1, none⟩ = some c1 ∧ w1.cell? ⟨w.heap.size + 1, 2, none⟩ = some c2) ∧ (w1.frozen? ⟨w.heap.size + 1, 0, none⟩ = false ∧ w1.frozen? ⟨w.heap.size + 1, 1, none⟩ = false ∧ w1.frozen? ⟨w.heap.size + 1, 2, none⟩ = false)) := Hid.mk (fun w1 h => h.1.cells)
  have HW := Hid.mk hW
  have HZ : Hid (W.heap.size = w.heap.size + 2) := Hid.mk (by rw [hW]; simp)
  clear ht h1 h2 h3 l1 l2 l3 hW b0 b1 hS0
  go_enter Try.func34, Try.ntmps34
  go_wp2_with fail
  rw [show (ByteArray.mk #[]) = ⟨([] : List UInt8).toArray⟩ from rfl, ← HW.out]
  go_region_held3 (fun w' => Res3 (w.heap.size + 1) w' ∧ Below w.heap.size w w' ∧ w'.cell? ⟨w.heap.size, 0, none⟩ = some (strV a) ∧ w'.cell? ⟨w.heap.size, 1, none⟩ = some (strV b) ∧ w'.cell? ⟨w.heap.size, 2, none⟩ = some (strV c))
    (first | with_reducible exact hS1 | with_reducible exact CloS.below (t := (a, b, c)) (by assumption) (by assumption) | with_reducible exact CloS.set (t := (a, b, c)) (by assumption) _ _ _)
    (first | (go_at_call_of 44 a; refine (C1.out _).mono ?_; rintro e w4 ⟨rfl, hb4⟩; obtain ⟨x0, x1, x2, ⟨y0, y1, y2⟩, ⟨y3, y4, y5⟩⟩ := K.out w4 (CloS.below (t := (a, b, c)) (by assumption) hb4)) | (go_at_call_of 44 b; refine (C2.out _).mono ?_; rintro e w5 ⟨rfl, hb5⟩; obtain ⟨x0, x1, x2, ⟨y0, y1, y2⟩, ⟨y3, y4, y5⟩⟩ := K.out w5 (CloS.below (t := (a, b, c)) (by assumption) hb5)) | (go_at_call_of 44 c; refine (C3.out _).mono ?_; rintro e w6 ⟨rfl, hb6⟩; obtain ⟨x0, x1, x2, ⟨y0, y1, y2⟩, ⟨y3, y4, y5⟩⟩ := K.out w6 (CloS.below (t := (a, b, c)) (by assumption) hb6)))
  go_wp2
  rename_i hh
  have HB := Hid.mk hh.2.1
  clear hh
  have k0 : (((w6.setCell ⟨w.heap.size + 1, 0, none⟩ (strV a)).setCell ⟨w.heap.size + 1, 1, none⟩ (strV b)).setCell ⟨w.heap.size + 1, 2, none⟩ (strV c)).cell? ⟨w.heap.size + 1, 0, none⟩ = some (strV a) := by
    rw [World.cell?_setCell_other _ _ _ _ (by simp), World.cell?_setCell_other _ _ _ _ (by simp)]
    exact World.cell?_setCell_same _ _ _ y0
  have k1 : (((w6.setCell ⟨w.heap.size + 1, 0, none⟩ (strV a)).setCell ⟨w.heap.size + 1, 1, none⟩ (strV b)).setCell ⟨w.heap.size + 1, 2, none⟩ (strV c)).cell? ⟨w.heap.size + 1, 1, none⟩ = some (strV b) := by
    rw [World.cell?_setCell_other _ _ _ _ (by simp)]
    exact World.cell?_setCell_same _ _ _ ((World.cell?_setCell_other _ _ _ _ (by simp)).trans y1)
  have k2 : (((w6.setCell ⟨w.heap.size + 1, 0, none⟩ (strV a)).setCell ⟨w.heap.size + 1, 1, none⟩ (strV b)).setCell ⟨w.heap.size + 1, 2, none⟩ (strV c)).cell? ⟨w.heap.size + 1, 2, none⟩ = some (strV c) :=
    World.cell?_setCell_same _ _ _ (((World.cell?_setCell_other _ _ _ _ (by simp)).trans (World.cell?_setCell_other _ _ _ _ (by simp))).trans y2)
  obtain ⟨WF, hWF⟩ : ∃ WF, WF = ((w6.setCell ⟨w.heap.size + 1, 0, none⟩ (strV a)).setCell ⟨w.heap.size + 1, 1, none⟩ (strV b)).setCell ⟨w.heap.size + 1, 2, none⟩ (strV c) := ⟨_, rfl⟩
  rw [← hWF] at k0 k1 k2 HB ⊢
  refine bodyPost_ret (v := encT (a, b, c)) ?_ rfl ⟨rfl, HB.out⟩
  simp [results, Try.results34, go_sem, k0, k1, k2]
end Go.Proofs.Ytiabnjjdeikefaa
