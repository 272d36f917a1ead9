/- LinkAll: behind whatever script of up to 150 acts on a line of two ends, once all that an end sends again comes, in whatever order, all that was put has come and nothing waits: for every epochs, script and turn. -/
import Derived.Test.YtifmpcldiimdbaaXELCut
namespace Go.Proofs.Ytifmpcldiimdbaa
open Go.RowKit Go.Shelf

def bgC (p0 p1 : Value) : Array Value := #[p0, p1, .slice none 0 0, .slice none 0 0, .slice none 0 0, .slice none 0 0, .slice none 0 0, .slice none 0 0, .bool true]
def bgE (a b : Nat) : Nat → En := fun k => if k = 0 then newE a else newE b
/-- What begun ends with. -/
def BegE (w : World) (r : Ending) (w' : World) : Prop :=
  ∃ x T V a b, r = .returned (.pointer (some ⟨x, 0, none⟩)) ∧ 1 ≤ a ∧ a ≤ 16 ∧ 1 ≤ b ∧ b ≤ 16 ∧ LnB w T w' x V (bgE a b) (fun _ => []) (fun _ => 0) (fun _ => 0)
theorem beg_line {w W : World} {x b0 b1 a b : Nat} (ha : 1 ≤ a ∧ a ≤ 16) (hb : 1 ≤ b ∧ b ≤ 16) (hx : W.heap[x]? = some (.cells (bgC (.pointer (some ⟨b0, 0, none⟩)) (.pointer (some ⟨b1, 0, none⟩))) 63 (0, 0))) (h0 : LBlk W b0 (.slice none 0 0) (newE a)) (h1 : LBlk W b1 (.slice none 0 0) (newE b))
    (hw : Below w.heap.size w W) (hx1 : w.heap.size ≤ x) (l0 : w.heap.size ≤ b0) (l1 : w.heap.size ≤ b1) (hne : b0 ≠ b1) : ∃ T V, LnB w T W x V (bgE a b) (fun _ => []) (fun _ => 0) (fun _ => 0) := by
  have nx : ∀ {g : Nat} {e : En}, LBlk W g (.slice none 0 0) e → g ≠ x := fun {g e} h he => by
    unfold LBlk at h
    rw [he, hx] at h
    simp only [Option.some.injEq, Obj.cells.injEq] at h
    exact absurd h.2.1 (by decide)
  have hn := World.ownsRow_nil W w.heap.size 3 1
  refine ⟨fun k => k < w.heap.size ∨ k = x, ⟨fun k => if k = 0 then b0 else b1, fun _ => .slice none 0 0, fun _ => .slice none 0 0, fun _ => .slice none 0 0⟩, ?_⟩
  exact { blk := hx, two := two_new h0 h1 (newE_ok (by omega) (by omega)) (newE_ok (by omega) (by omega)) (fun h => h.elim (fun h1 => absurd h1 (by show ¬ b0 < w.heap.size; omega)) (nx h0)) (fun h => h.elim (fun h1 => absurd h1 (by show ¬ b1 < w.heap.size; omega)) (nx h1)) hne
          low := fun k hk => hk.elim (fun h => Nat.lt_of_lt_of_le h hw.size) (fun h => by rw [h]; exact lt_of_block hx)
          sub := fun k hk => .inl hk, bel := hw, xT := .inr rfl, x1 := hx1
          tu := fun k _ => ⟨none, 0, rfl, fun _ => ⟨rfl, rfl⟩, by simp, .inl rfl⟩
          rp := fun k _ => ⟨hn, fun g hg => by cases hg⟩, rc := fun k _ => ⟨hn, fun g hg => by cases hg⟩
          dpp := fun g hg => by cases hg
          dcc := fun g hg => by cases hg
          dpc := fun _ _ _ _ g hg => by cases hg }
def BgI (w : World) (x i : Nat) (wr : World) : Prop :=
  Below w.heap.size w wr ∧ w.heap.size ≤ x ∧
  ((i = 0 ∧ wr.heap[x]? = some (.cells (bgC (.pointer none) (.pointer none)) 63 (0, 0))) ∨
   (i = 1 ∧ ∃ a b0, 1 ≤ a ∧ a ≤ 16 ∧ w.heap.size ≤ b0 ∧ wr.heap[x]? = some (.cells (bgC (.pointer (some ⟨b0, 0, none⟩)) (.pointer none)) 63 (0, 0)) ∧ LBlk wr b0 (.slice none 0 0) (newE a)) ∨
   (i = 2 ∧ ∃ T V a b, 1 ≤ a ∧ a ≤ 16 ∧ 1 ≤ b ∧ b ≤ 16 ∧ LnB w T wr x V (bgE a b) (fun _ => []) (fun _ => 0) (fun _ => 0)))
set_option maxRecDepth 100000 in
set_option maxHeartbeats 1000000 in
theorem begun_any (ep : Int) (w : World) : Calls Try.prog 24 #[.int .i64 ep] w (BegE w) := by
  have HB0 : Hid (BgI w w.heap.size 0 (w.alloc (.cells (bgC (.pointer none) (.pointer none)) 63))) := Hid.mk ⟨(Below.refl _ _).alloc (Nat.le_refl _) _, Nat.le_refl _, .inl ⟨rfl, box_at w _⟩⟩
  go_enter Try.func24, Try.ntmps24
  obtain ⟨x, hx⟩ : ∃ x, w.heap.size = x := ⟨_, rfl⟩
  go_wp2_with fail
  go_loopw [4] (fun iv wr => ∃ i : Nat, i ≤ 2 ∧ iv = .int .i64 i ∧ BgI w w.heap.size i wr) (fun iv _ => 2 - (intOf iv).toNat)
  case atStart => exact ⟨0, by omega, rfl, HB0.out⟩
  case round =>
    obtain ⟨i, hi, rfl, hbw, hxw, hc⟩ := hrel
    obtain ⟨wx, hwx⟩ : ∃ wx, wx = wr := ⟨_, rfl⟩
    subst hwx
    rcases hc with ⟨rfl, hb⟩ | ⟨rfl, a, b0, ha1, ha2, hb0, hb, hl0⟩ | ⟨rfl, hc⟩
    · obtain ⟨m, hm, hm16⟩ := mask_nat ep 4 15 16 (by decide) (by decide) (by decide)
      have HB := Hid.mk hb
      have HBW := Hid.mk hbw
      have C := Hid.mk (new_any ((1 : Int) + (m : Int)) wx)
      unfold NewE at C
      have hs : ((1 : Int) + (m : Int)).toNat = m + 1 := by omega
      rw [hs] at C
      clear hb hbw HB0 hs
      go_wp2_with fail
      refine C.out.mono ?_
      clear C
      have hm17 : m + 1 ≤ 16 := by omega
      rintro r w2 ⟨hb2, ⟨h, -⟩ | ⟨-, b1, rfl, hlo, hk⟩⟩
      · exact absurd ⟨by omega, by omega⟩ h
      have hbk : w2.heap[x]? = some (.cells (bgC (.pointer none) (.pointer none)) 63 (0, 0)) := (hb2.block x (by rw [← hx]; exact lt_of_block HB.out)).trans (by rw [← hx]; exact HB.out)
      have q0 : w2.cell? ⟨x, 0, none⟩ = some (.pointer none) := by simp only [World.cell?, hbk]; rfl
      have q1 : w2.frozen? ⟨x, 0, none⟩ = false := by simp [World.frozen?, hbk]
      have HN : Hid (BgI w w.heap.size 1 (w2.setCell ⟨x, 0, none⟩ (.pointer (some ⟨b1, 0, none⟩)))) := Hid.mk ⟨((HBW.out.trans (hb2.mono HBW.out.size))).setCell (p := ⟨x, 0, none⟩) (by rw [← hx]; exact Nat.le_refl _) _, Nat.le_refl _, .inr (.inl ⟨rfl, m + 1, b1, by omega, hm17, by have := HBW.out.size; omega, by rw [hx]; simp [World.setCell, Array.getElem?_modify, hbk, bgC], (set1_other (fun e => by
        unfold LBlk at hk
        rw [e, hbk] at hk
        simp only [Option.some.injEq, Obj.cells.injEq] at hk
        exact absurd hk.2.1 (by decide)) _).trans hk⟩)⟩
      clear hbk hk hb2 hlo hm hm16 hm17
      go_wp2_with fail
      go_roundw
      case rel => exact ⟨1, by omega, rfl, HN.out⟩
      case measure => simp [intOf]
    · have HL0 := Hid.mk hl0
      clear hl0
      obtain ⟨m, hm, hm16⟩ := mask_nat (ep / 16) 4 15 16 (by decide) (by decide) (by decide)
      have HB := Hid.mk hb
      have HBW := Hid.mk hbw
      have C := Hid.mk (new_any ((1 : Int) + (m : Int)) wx)
      unfold NewE at C
      have hs : ((1 : Int) + (m : Int)).toNat = m + 1 := by omega
      rw [hs] at C
      clear hb hbw HB0 hs
      go_wp2_with fail
      refine C.out.mono ?_
      clear C
      have hm17 : m + 1 ≤ 16 := by omega
      rintro r w2 ⟨hb2, ⟨h, -⟩ | ⟨-, b1, rfl, hlo, hk⟩⟩
      · exact absurd ⟨by omega, by omega⟩ h
      have hbk : w2.heap[x]? = some (.cells (bgC (.pointer (some ⟨b0, 0, none⟩)) (.pointer none)) 63 (0, 0)) := (hb2.block x (by rw [← hx]; exact lt_of_block HB.out)).trans (by rw [← hx]; exact HB.out)
      have q0 : w2.cell? ⟨x, 1, none⟩ = some (.pointer none) := by simp only [World.cell?, hbk]; rfl
      have q1 : w2.frozen? ⟨x, 1, none⟩ = false := by simp [World.frozen?, hbk]
      have hk0 := (hb2.block b0 (lt_of_block HL0.out)).trans HL0.out
      have hlt0 := lt_of_block HL0.out
      have nx : ∀ {g : Nat} {e : En}, LBlk w2 g (.slice none 0 0) e → LBlk (w2.setCell ⟨x, 1, none⟩ (.pointer (some ⟨b1, 0, none⟩))) g (.slice none 0 0) e := fun {g e'} h => (set1_other (fun e => by
        unfold LBlk at h
        rw [e, hbk] at h
        simp only [Option.some.injEq, Obj.cells.injEq] at h
        exact absurd h.2.1 (by decide)) _).trans h
      have HN : Hid (BgI w w.heap.size 2 (w2.setCell ⟨x, 1, none⟩ (.pointer (some ⟨b1, 0, none⟩)))) := Hid.mk ⟨((HBW.out.trans (hb2.mono HBW.out.size))).setCell (p := ⟨x, 1, none⟩) (by rw [← hx]; exact Nat.le_refl _) _, Nat.le_refl _, .inr (.inr ⟨rfl, (by
        obtain ⟨T, V, hT⟩ := beg_line (w := w) (W := w2.setCell ⟨x, 1, none⟩ (.pointer (some ⟨b1, 0, none⟩))) (x := x) (b0 := b0) (b1 := b1) (a := a) (b := m + 1) ⟨ha1, ha2⟩ ⟨by omega, hm17⟩ (by simp [World.setCell, Array.getElem?_modify, hbk, bgC]) (nx hk0) (nx hk) (((HBW.out.trans (hb2.mono HBW.out.size))).setCell (p := ⟨x, 1, none⟩) (by rw [← hx]; exact Nat.le_refl _) _) (by rw [← hx]; exact Nat.le_refl _) hb0 (by have := HBW.out.size; omega) (by omega)
        rw [hx]
        exact ⟨T, V, a, m + 1, ha1, ha2, by omega, hm17, hT⟩)⟩)⟩
      clear hbk hk hb2 hlo hm hm16 hm17 hk0 hlt0 nx HL0 ha1 ha2 hb0
      go_wp2_with fail
      go_roundw
      case rel => exact ⟨2, by omega, rfl, HN.out⟩
      case measure => simp [intOf]
    · obtain ⟨T, V, a, b, ha1, ha2, hb1, hb2, hl⟩ := hc
      have HE : Hid (BegE w (.returned (.pointer (some ⟨x, 0, none⟩))) wx) := Hid.mk ⟨x, T, V, a, b, rfl, ha1, ha2, hb1, hb2, by rw [← hx]; exact hl⟩
      clear hl hbw HB0
      go_wp2
      go_ret
      exact HE.out
end Go.Proofs.Ytifmpcldiimdbaa
