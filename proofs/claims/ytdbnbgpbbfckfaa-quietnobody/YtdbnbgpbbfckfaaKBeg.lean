/- A world that begins; whether all is quiet; what must come in any case. -/
import Derived.Test.YtdbnbgpbbfckfaaKCome
namespace Go.Proofs.Ytdbnbgpbbfckfaa
open Go.RowKit

theorem infoP : (Try.prog.info? 32).map (fun i => (i.zero, i.size, i.bytes)) = some (some (.pointer none), 1, 8) := by kernel_rfl
/-- Some nodes of a world that begins. -/
structure BAt (B : Nat) (w : World) (wb : Nat) (vn vw : Value) (bs : Nat → Nat) (i k : Nat) : Prop where
  blk : w.heap[wb]? = some (.cells #[vn, .slice none 0 0, .slice none 0 0, vw, .bool true] 28 (0, 0))
  lo : B ≤ wb
  on : w.ownsRow B 32 1 vn i ((List.range i).map fun j => ptrV (bs j))
  ow : w.ownsRow B 3 1 vw i ((List.range i).map fun _ => natV 0)
  nd : ∀ j, j < i → NAt w (bs j) k ⟨0, decide (j = 0), -1⟩ (decide (j = 0)) ∧ B ≤ bs j
  inj : ∀ j l, j < i → l < i → bs j = bs l → j = l
section
variable {B : Nat} {w : World} {wb : Nat} {vn vw : Value} {bs : Nat → Nat} {i k : Nat}
theorem BAt.size (h : BAt B w wb vn vw bs i k) : B ≤ w.heap.size := by have := lt_of_block h.blk; have := h.lo; omega
theorem BAt.below {w' : World} (h : BAt B w wb vn vw bs i k) (hb : Below w.heap.size w w') : BAt B w' wb vn vw bs i k :=
  ⟨(hb.block _ (lt_of_block h.blk)).trans h.blk, h.lo, owns_below h.on hb, owns_below h.ow hb, fun j hj => ⟨(hb.block _ (lt_of_block (h.nd j hj).1)).trans (h.nd j hj).1, (h.nd j hj).2⟩, h.inj⟩
/-- One node more, and its work. -/
theorem BAt.more {w2 w3 w4 : World} {b g c : Nat} {vw2 : Value} (h : BAt B w wb vn vw bs i k) (hb : w.heap[b]? = some (nZero b k (decide (i = 0)))) (hbB : B ≤ b) (hnew : ∀ j, j < i → bs j ≠ b)
    (hg : Grew w w2 vn (.slice (some ⟨g, 0, none⟩) (i + 1) c)) (ho : w2.ownsRow B 32 1 (.slice (some ⟨g, 0, none⟩) (i + 1) c) (i + 1) (((List.range i).map fun j => ptrV (bs j)) ++ [ptrV b]))
    (h3 : w3 = w2.setCell ⟨wb, 0, none⟩ (.slice (some ⟨g, 0, none⟩) (i + 1) c)) (hg4 : Grew w3 w4 vw vw2) (ho4 : w4.ownsRow B 3 1 vw2 (i + 1) (((List.range i).map fun _ => natV 0) ++ [natV 0])) :
    BAt B (w4.setCell ⟨wb, 3, none⟩ vw2) wb (.slice (some ⟨g, 0, none⟩) (i + 1) c) vw2 (upd bs i b) (i + 1) k ∧ Below B w (w4.setCell ⟨wb, 3, none⟩ vw2) := by
  have hwb := lt_of_block h.blk
  have hlo := h.lo
  have hb3 : w2.heap[wb]? = some (.cells #[vn, .slice none 0 0, .slice none 0 0, vw, .bool true] 28 (0, 0)) := (hg.block wb hwb (fun e => own_ne h.on e h.blk (by decide) rfl)).trans h.blk
  have hs3 : w3.heap.size = w2.heap.size := by rw [h3]; simp
  have k3 : ∀ x, x ≠ wb → w3.heap[x]? = w2.heap[x]? := fun x hx => by rw [h3]; exact Below.heap_setCell w2 ⟨wb, 0, none⟩ _ x hx
  have hblk3 : w3.heap[wb]? = some (.cells #[.slice (some ⟨g, 0, none⟩) (i + 1) c, .slice none 0 0, .slice none 0 0, vw, .bool true] 28 (0, 0)) := by rw [h3]; exact five_set0 hb3
  have how3 : w3.ownsRow B 3 1 vw i ((List.range i).map fun _ => natV 0) := owns_key h.ow (fun x o hx hxo => (k3 x (own_ne h.ow hx h.blk (by decide))).trans ((hg.block x (lt_of_block hxo) (own_ne2 h.ow hx h.on (by decide))).trans hxo))
  have hon3 : w3.ownsRow B 32 1 (.slice (some ⟨g, 0, none⟩) (i + 1) c) (i + 1) (((List.range i).map fun j => ptrV (bs j)) ++ [ptrV b]) := owns_key ho (fun x o hx hxo => (k3 x (own_ne ho hx hb3 (by decide))).trans hxo)
  have hwb3 := lt_of_block hblk3
  have k4 : ∀ x, x < w3.heap.size → vw.ownBlock ≠ some x → x ≠ wb → (w4.setCell ⟨wb, 3, none⟩ vw2).heap[x]? = w3.heap[x]? := fun x hx h1 h2 => (Below.heap_setCell w4 ⟨wb, 3, none⟩ _ x h2).trans (hg4.block x hx h1)
  have hb4 : w4.heap[wb]? = w3.heap[wb]? := hg4.block wb hwb3 (fun e => own_ne how3 e hblk3 (by decide) rfl)
  have keepN : ∀ (x : Nat) (cs : Array Value), w.heap[x]? = some (.cells cs 39 (0, 0)) → (w4.setCell ⟨wb, 3, none⟩ vw2).heap[x]? = some (.cells cs 39 (0, 0)) := fun x cs hx => by
    have hxw := blk_ne hx h.blk (by decide)
    have hx3 : w3.heap[x]? = some (.cells cs 39 (0, 0)) := (k3 x hxw).trans ((hg.block x (lt_of_block hx) (fun e => own_ne h.on e hx (by decide) rfl)).trans hx)
    exact (k4 x (lt_of_block hx3) (fun e => own_ne how3 e hx3 (by decide) rfl) hxw).trans hx3
  refine ⟨⟨five_set3 (hb4.trans hblk3), h.lo, ?_, ?_, fun j hj => ?_, fun j l hj hl e => ?_⟩, ?_⟩
  · have : (List.range (i + 1)).map (fun j => ptrV (upd bs i b j)) = ((List.range i).map fun j => ptrV (bs j)) ++ [ptrV b] := by
      rw [List.range_succ, List.map_append, List.map_singleton, upd_same]
      congr 1
      refine List.map_congr_left (fun j hj => ?_)
      rw [upd_other _ _ (by have := List.mem_range.1 hj; omega)]
    rw [this]
    exact owns_key hon3 (fun x o hx hxo => (k4 x (lt_of_block hxo) (own_ne2 hon3 hx how3 (by decide)) (own_ne hon3 hx hblk3 (by decide))).trans hxo)
  · have : (List.range (i + 1)).map (fun _ => natV 0) = ((List.range i).map fun _ => natV 0) ++ [natV 0] := by rw [List.range_succ, List.map_append, List.map_singleton]
    rw [this]
    exact owns_key ho4 (fun x o hx hxo => (Below.heap_setCell w4 ⟨wb, 3, none⟩ _ x (own_ne ho4 hx (hb4.trans hblk3) (by decide))).trans hxo)
  · by_cases e : j = i
    · subst e
      rw [upd_same]
      exact ⟨keepN _ _ hb, hbB⟩
    · rw [upd_other _ _ e]
      exact ⟨keepN _ _ (h.nd j (by omega)).1, (h.nd j (by omega)).2⟩
  · by_cases e1 : j = i
    · by_cases e2 : l = i
      · omega
      · rw [e1, upd_same, upd_other _ _ e2] at e
        exact absurd e.symm (hnew l (by omega))
    · by_cases e2 : l = i
      · rw [e2, upd_same, upd_other _ _ e1] at e
        exact absurd e (hnew j (by omega))
      · rw [upd_other _ _ e1, upd_other _ _ e2] at e
        exact h.inj j l (by omega) (by omega) e
  · have hz := hg.size
    have hz4 := hg4.size
    refine ⟨?_, ?_, ?_, by simp; omega, fun x hx => ?_⟩
    · rw [show (w4.setCell ⟨wb, 3, none⟩ vw2).os = w4.os from rfl, hg4.os, h3]; exact hg.os
    · rw [show (w4.setCell ⟨wb, 3, none⟩ vw2).tape = w4.tape from rfl, hg4.tape, h3]; exact hg.tape
    · rw [show (w4.setCell ⟨wb, 3, none⟩ vw2).output = w4.output from rfl, hg4.output, h3]; exact hg.output
    · rw [k4 x (by omega) (fun e => by have := (own_ty how3 e).1; omega) (by omega), k3 x (by omega)]
      exact hg.block x (by omega) (fun e => by have := (own_ty h.on e).1; omega)
end
set_option maxRecDepth 100000 in
set_option maxHeartbeats 4000000 in
theorem begun_any (k n : Nat) (w : World) (h1 : 1 ≤ k) (h6 : k ≤ 6) :
    Calls Try.prog 7 #[.int .i64 (k : Int), .int .i64 (n : Int)] w fun e w' => (∃ wb, e = .returned (.pointer (some ⟨wb, 0, none⟩)) ∧ WOk w.heap.size w' wb (begW k n)) ∧ Below w.heap.size w w' := by
  obtain ⟨i0, hi0, hz0, hz1, hz2⟩ := info_parts infoZ2
  obtain ⟨i1, hi1, hy0, hy1, hy2⟩ := info_parts infoP
  obtain ⟨W0, hW0⟩ : ∃ W, W = w.alloc (.cells #[.slice none 0 0, .slice none 0 0, .slice none 0 0, .slice none 0 0, .bool true] 28) := ⟨_, rfl⟩
  have HB0 : Hid (BAt w.heap.size W0 w.heap.size (.slice none 0 0) (.slice none 0 0) (fun _ => 0) 0 k ∧ Below w.heap.size w W0) := Hid.mk (by
    rw [hW0]
    exact ⟨⟨heap_alloc_new _ _, Nat.le_refl _, World.ownsRow_nil _ _ _ _, World.ownsRow_nil _ _ _ _, fun j hj => absurd hj (by omega), fun j l hj => absurd hj (by omega)⟩, (Below.refl _ _).alloc (Nat.le_refl _) _⟩)
  obtain ⟨wb, hwb⟩ : ∃ wb, wb = w.heap.size := ⟨_, rfl⟩
  have HW0 := Hid.mk hW0
  have HWB := Hid.mk hwb
  obtain ⟨B, hB⟩ : ∃ B, B = w.heap.size := ⟨_, rfl⟩
  have HBB := Hid.mk hB
  have HB0' : Hid (BAt B W0 wb (.slice none 0 0) (.slice none 0 0) (fun _ => 0) 0 k ∧ Below B w W0) := Hid.mk (by rw [hB, hwb]; exact HB0.out)
  rw [← hB]
  clear HB0 hW0 hwb hB
  go_enter Try.func7, Try.ntmps7
  go_wp2_with fail
  rw [← HW0.out, ← HWB.out]
  go_loopw [6] (fun c wr => ∃ i : Nat, i ≤ k ∧ c = .int .i64 (i : Int) ∧ (∃ vn vw bs, BAt B wr wb vn vw bs i k) ∧ Below B w wr) (fun c _ => k - (intOf c).toNat)
  case atStart => exact ⟨0, Nat.zero_le _, rfl, ⟨_, _, _, HB0'.out.1⟩, HB0'.out.2⟩
  case round =>
    obtain ⟨i, hi, rfl, ⟨vn, vw, bs, hA⟩, hbel⟩ := hrel
    obtain ⟨wx, hwx⟩ : ∃ wx, wx = wr := ⟨_, rfl⟩
    subst hwx
    have HA := Hid.mk hA
    have HBX := Hid.mk hbel
    have hsz := hA.size
    clear hA hbel
    by_cases hlt : i < k
    · have hltI : (i : Int) < (k : Int) := by omega
      have hr : decide ((i : Int) = 0) = decide (i = 0) := by congr 1; exact propext (by omega)
      obtain ⟨rt, hrt⟩ : ∃ rt, rt = decide (i = 0) := ⟨_, rfl⟩
      have hrI : ((i : Int) == 0) = rt := by rw [hrt]; by_cases e : i = 0 <;> simp [e]
      have CN := Hid.mk (new_any i k rt wx hlt (by omega))
      rw [← hrt] at hr
      have HRT := Hid.mk hrt
      clear hrt
      go_wp2_with fail
      refine CN.out.mono ?_
      rintro e w1 ⟨rfl, hz1', hs1, hb1⟩
      have HA1 := Hid.mk (HA.out.below hb1)
      have HZ1 := Hid.mk hz1'
      have HB1 : Hid (Below B w w1) := Hid.mk (HBX.out.trans (hb1.mono HA.out.size))
      obtain ⟨⟨g0, g1, g2, g3, g4⟩, f0, f1, f2, f3⟩ := five_cells HA1.out.blk
      have HON := Hid.mk HA1.out.on
      obtain ⟨na, nc, rfl⟩ := own_slice HON.out
      have hsz1 : B ≤ w1.heap.size := HA1.out.size
      clear hz1' hb1
      have HS1 := Hid.mk hs1
      clear hs1
      go_wp2_with (at_builtin; refine wpList_append_lies _ rfl _ _ _ rfl B 32 i1 _ 1 8 Try.underlying25 hi1 hy0 hy1 hy2 rfl (by decide) (.slice na i nc) _ _ (by rfl) (HON.out.alloc _) ⟨w1.heap.size, 0, none⟩ 1 1 [.pointer (some ⟨wx.heap.size, 0, none⟩)] (by rfl) (by rfl) (World.news_of_block (cs := #[.pointer (some ⟨wx.heap.size, 0, none⟩)]) (t := 32) (fr := (0, 0)) (heap_alloc_new w1 _)) (by simp [Value.oneCell']) (by decide) (by unfold maxLen; omega) (by omega) (by simp; omega) (w1.heap.size + 1) (by simp) ?_)
      intro g cap w9 hown9 hgrow9 hat9 hlt9
      have HG9 : Hid (Grew w1 w9 (.slice na i nc) (.slice (some ⟨g, 0, none⟩) (i + 1) cap)) := Hid.mk (Grew.lies ((Below.refl _ _).alloc (Nat.le_refl _) _) hgrow9 (by simpa using hat9))
      have HO9 := Hid.mk hown9
      have hb9 : w9.heap[wb]? = w1.heap[wb]? := HG9.out.block wb (lt_of_block HA1.out.blk) (fun e => own_ne HON.out e HA1.out.blk (by decide) rfl)
      obtain ⟨⟨j0, j1, j2, j3, j4⟩, l0, l1, l2, l3⟩ := five_cells (hb9.trans HA1.out.blk)
      obtain ⟨W9, hW9⟩ : ∃ W, W = w9.setCell ⟨wb, 0, none⟩ (.slice (some ⟨g, 0, none⟩) (i + 1) cap) := ⟨_, rfl⟩
      have HOW : Hid ((w9.setCell ⟨wb, 0, none⟩ (.slice (some ⟨g, 0, none⟩) (i + 1) cap)).ownsRow B 3 1 vw i ((List.range i).map fun _ => natV 0)) := Hid.mk (by
        exact owns_key HA1.out.ow (fun x o hx hxo => (Below.heap_setCell w9 ⟨wb, 0, none⟩ _ x (own_ne HA1.out.ow hx HA1.out.blk (by decide))).trans ((HG9.out.block x (lt_of_block hxo) (own_ne2 HA1.out.ow hx HON.out (by decide))).trans hxo)))
      obtain ⟨wa, wc, rfl⟩ := own_slice HOW.out
      have hsz9 : B ≤ w9.heap.size := by have := HG9.out.size; omega
      have HNW : Hid (∀ (j : Nat) u, [Value.int .i64 0][j]? = some u → ((w9.setCell ⟨wb, 0, none⟩ (.slice (some ⟨g, 0, none⟩) (i + 1) cap)).alloc (.cells #[.int .i64 0] 3)).cell? ((⟨w9.heap.size, 0, none⟩ : Addr).add j) = some u) := Hid.mk (by
        have := World.news_of_block (cs := #[.int .i64 0]) (t := 3) (fr := (0, 0)) (heap_alloc_new (w9.setCell ⟨wb, 0, none⟩ (.slice (some ⟨g, 0, none⟩) (i + 1) cap)) (.cells #[.int .i64 0] 3))
        simpa using this)
      obtain ⟨⟨y0, y1, y2, y3, y4⟩, z0, z1, z2, z3⟩ := five_cells (by rw [hW9]; exact five_set0 (v := .slice (some ⟨g, 0, none⟩) (i + 1) cap) (hb9.trans HA1.out.blk) : W9.heap[wb]? = _)
      have HY : Hid (W9.heap[wb]? = some (.cells #[.slice (some ⟨g, 0, none⟩) (i + 1) cap, .slice none 0 0, .slice none 0 0, .slice wa i wc, .bool true] 28 (0, 0))) := Hid.mk (by rw [hW9]; exact five_set0 (hb9.trans HA1.out.blk))
      rw [hW9] at y3
      have HW9 := Hid.mk hW9
      clear hown9 hgrow9 hat9 hlt9 hb9 g0 g1 g2 g3 g4 f0 f1 f2 f3 hW9 y0 y1 y2 y4 z0 z1 z2 z3 j1 j2 j4 l1 l2
      go_wp2_with (at_builtin; refine wpList_append_lies _ rfl _ _ _ rfl B 3 i0 _ 1 8 Try.underlying22 hi0 hz0 hz1 hz2 rfl (by decide) (.slice wa i wc) _ _ (by rfl) (HOW.out.alloc _) ⟨w9.heap.size, 0, none⟩ 1 1 [.int .i64 0] (by rfl) (by rfl) HNW.out (by simp [Value.oneCell']) (by decide) (by unfold maxLen; omega) (by omega) (by simp; omega) (w9.heap.size + 1) (by simp) ?_)
      intro g' cap' wA hownA hgrowA hatA hltA
      have HGA : Hid (Grew W9 wA (.slice wa i wc) (.slice (some ⟨g', 0, none⟩) (i + 1) cap')) := Hid.mk (by rw [HW9.out]; exact Grew.lies ((Below.refl _ _).alloc (Nat.le_refl _) _) hgrowA (by simpa using hatA))
      have HOA := Hid.mk hownA
      have hbA : wA.heap[wb]? = W9.heap[wb]? := HGA.out.block wb (lt_of_block HY.out) (fun e => own_ne HOW.out e (HW9.out ▸ HY.out) (by decide) rfl)
      obtain ⟨⟨j0', j1, j2, j3, j4⟩, l0', l1, l2, l3⟩ := five_cells (hbA.trans HY.out)
      have HFIN : Hid ((∃ vn vw bs, BAt B (wA.setCell ⟨wb, 3, none⟩ (.slice (some ⟨g', 0, none⟩) (i + 1) cap')) wb vn vw bs (i + 1) k) ∧ Below B w (wA.setCell ⟨wb, 3, none⟩ (.slice (some ⟨g', 0, none⟩) (i + 1) cap'))) := Hid.mk (by
        have hh := HA1.out.more (b := wx.heap.size) (by rw [← HRT.out]; exact HZ1.out) HA.out.size (fun j hj e => by have := lt_of_block (HA.out.nd j hj).1; omega) HG9.out HO9.out HW9.out HGA.out HOA.out
        exact ⟨⟨_, _, _, hh.1⟩, HB1.out.trans hh.2⟩)
      clear hownA hgrowA hatA hltA hbA j0' j1 j2 j4 l0' l1 l2
      go_wp2
      go_roundw
      case rel => exact ⟨i + 1, by omega, by go_num, HFIN.out.1, HFIN.out.2⟩
      case measure => simp [intOf]; omega
    · have hltI : ¬ (i : Int) < (k : Int) := by omega
      obtain rfl : i = k := by omega
      obtain ⟨gw, cw, rfl⟩ : ∃ gw cw, vw = .slice (some ⟨gw, 0, none⟩) i cw := by
        rcases HA.out.ow.2 with ⟨e, h0⟩ | ⟨gw, cw, cur, rfl, _⟩
        · omega
        · exact ⟨gw, cw, rfl⟩
      have HFIN : Hid (WOk B (wx.setCell ⟨gw, 0, none⟩ (.int .i64 (n : Int))) wb (begW i n) ∧ Below B w (wx.setCell ⟨gw, 0, none⟩ (.int .i64 (n : Int)))) := Hid.mk (by
        have hA := HA.out
        have hh : WAt B wx wb vn (.slice none 0 0) (.slice none 0 0) (.slice (some ⟨gw, 0, none⟩) i cw) bs { begW i n with work := fun _ => 0 } :=
          ⟨hA.blk, hA.lo, hA.on, World.ownsRow_nil _ _ _ _, World.ownsRow_nil _ _ _ _, hA.ow, (fun g e => by cases e), hA.nd, hA.inj⟩
        have h2 := hh.work_ rfl 0 n
        exact ⟨h2.1.ok, HBX.out.trans h2.2⟩)
      obtain ⟨⟨g0, g1, g2, g3, g4⟩, f0, f1, f2, f3⟩ := five_cells HA.out.blk
      have hc := HA.out.ow.cellAt 0 (by omega)
      have hf := HA.out.ow.frozenAt 0
      have hc2 : wx.cell? ⟨gw, 0, none⟩ = some (.int .i64 0) := by rw [hc]; simp [show 0 < i by omega]
      have h0i : (0 : Int) < (i : Int) := by omega
      clear hc
      go_wp2
      go_ret
      exact ⟨⟨_, rfl, HFIN.out.1⟩, HFIN.out.2⟩
end Go.Proofs.Ytdbnbgpbbfckfaa
