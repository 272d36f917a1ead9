/- Nodes, messages and tellings in memory; what a node's rest, sending, a message's and a telling's coming do. -/
import Derived.Test.YtdbnbgpbbfckfaaKBase
namespace Go.Proofs.Ytdbnbgpbbfckfaa
open Go.RowKit

abbrev ptrV (b : Nat) : Value := .pointer (some ⟨b, 0, none⟩)
abbrev natV (n : Nat) : Value := .int .i64 (n : Int)
abbrev csU (m : Nat × Nat) : List Value := [natV m.1, natV m.2]
structure WAt (B : Nat) (w : World) (wb : Nat) (vn vu vt vw : Value) (bs : Nat → Nat) (s : Wd) : Prop where
  blk : w.heap[wb]? = some (.cells #[vn, vu, vt, vw, .bool true] 28 (0, 0))
  lo : B ≤ wb
  on : w.ownsRow B 32 1 vn s.k ((List.range s.k).map fun i => ptrV (bs i))
  ou : w.ownsRow B 50 2 vu s.under.length (s.under.flatMap csU)
  ot : w.ownsRow B 3 1 vt s.tells.length (s.tells.map natV)
  ow : w.ownsRow B 3 1 vw s.k ((List.range s.k).map fun i => natV (s.work i))
  ne : ∀ g, vt.ownBlock = some g → vw.ownBlock ≠ some g
  nd : ∀ i, i < s.k → NAt w (bs i) s.k (s.nd i) (decide (i = 0)) ∧ B ≤ bs i
  inj : ∀ i j, i < s.k → j < s.k → bs i = bs j → i = j
def WOk (B : Nat) (w : World) (wb : Nat) (s : Wd) : Prop := ∃ vn vu vt vw bs, WAt B w wb vn vu vt vw bs s
section
variable {B : Nat} {w : World} {wb : Nat} {vn vu vt vw : Value} {bs : Nat → Nat} {s : Wd}
theorem blk_ne {w : World} {a b : Nat} {cs ds : Array Value} {s t : TypeId} (h1 : w.heap[a]? = some (.cells cs s (0, 0))) (h2 : w.heap[b]? = some (.cells ds t (0, 0))) (hne : s ≠ t) : a ≠ b := by
  rintro rfl
  rw [h1] at h2
  simp only [Option.some.injEq, Obj.cells.injEq] at h2
  exact hne h2.2.1
theorem WAt.ok (h : WAt B w wb vn vu vt vw bs s) : WOk B w wb s := ⟨vn, vu, vt, vw, bs, h⟩
theorem WAt.drewN (h : WAt B w wb vn vu vt vw bs s) (n : Nat) : WAt B (w.drewN n) wb vn vu vt vw bs s := ⟨h.blk, h.lo, h.on, h.ou, h.ot, h.ow, h.ne, h.nd, h.inj⟩
theorem WAt.size (h : WAt B w wb vn vu vt vw bs s) : B ≤ w.heap.size := by have := lt_of_block h.blk; have := h.lo; omega
theorem WAt.below {w' : World} (h : WAt B w wb vn vu vt vw bs s) (hb : Below w.heap.size w w') : WAt B w' wb vn vu vt vw bs s :=
  ⟨(hb.block _ (lt_of_block h.blk)).trans h.blk, h.lo, owns_below h.on hb, owns_below h.ou hb, owns_below h.ot hb, owns_below h.ow hb, h.ne, fun i hi => ⟨(hb.block _ (lt_of_block (h.nd i hi).1)).trans (h.nd i hi).1, (h.nd i hi).2⟩, h.inj⟩
theorem five_cells {w : World} {b : Nat} {c0 c1 c2 c3 c4 : Value} {t : TypeId} (h : w.heap[b]? = some (.cells #[c0, c1, c2, c3, c4] t (0, 0))) :
    (w.cell? ⟨b, 0, none⟩ = some c0 ∧ w.cell? ⟨b, 1, none⟩ = some c1 ∧ w.cell? ⟨b, 2, none⟩ = some c2 ∧ w.cell? ⟨b, 3, none⟩ = some c3 ∧ w.cell? ⟨b, 4, none⟩ = some c4) ∧
    (w.frozen? ⟨b, 0, none⟩ = false ∧ w.frozen? ⟨b, 1, none⟩ = false ∧ w.frozen? ⟨b, 2, none⟩ = false ∧ w.frozen? ⟨b, 3, none⟩ = false) := by
  simp [World.cell?, World.frozen?, h]
theorem five_set0 {w : World} {b : Nat} {c0 c1 c2 c3 c4 v : Value} {t : TypeId} (h : w.heap[b]? = some (.cells #[c0, c1, c2, c3, c4] t (0, 0))) : (w.setCell ⟨b, 0, none⟩ v).heap[b]? = some (.cells #[v, c1, c2, c3, c4] t (0, 0)) := by
  simp [World.setCell, Array.getElem?_modify, h]
theorem five_set1 {w : World} {b : Nat} {c0 c1 c2 c3 c4 v : Value} {t : TypeId} (h : w.heap[b]? = some (.cells #[c0, c1, c2, c3, c4] t (0, 0))) : (w.setCell ⟨b, 1, none⟩ v).heap[b]? = some (.cells #[c0, v, c2, c3, c4] t (0, 0)) := by
  simp [World.setCell, Array.getElem?_modify, h]
theorem five_set2 {w : World} {b : Nat} {c0 c1 c2 c3 c4 v : Value} {t : TypeId} (h : w.heap[b]? = some (.cells #[c0, c1, c2, c3, c4] t (0, 0))) : (w.setCell ⟨b, 2, none⟩ v).heap[b]? = some (.cells #[c0, c1, v, c3, c4] t (0, 0)) := by
  simp [World.setCell, Array.getElem?_modify, h]
theorem five_set3 {w : World} {b : Nat} {c0 c1 c2 c3 c4 v : Value} {t : TypeId} (h : w.heap[b]? = some (.cells #[c0, c1, c2, c3, c4] t (0, 0))) : (w.setCell ⟨b, 3, none⟩ v).heap[b]? = some (.cells #[c0, c1, c2, v, c4] t (0, 0)) := by
  simp [World.setCell, Array.getElem?_modify, h]
/-- A node changes. -/
theorem WAt.node {w' : World} (h : WAt B w wb vn vu vt vw bs s) {i : Nat} (hi : i < s.k) {n : Nd} (hn : NAt w' (bs i) s.k n (decide (i = 0))) (ho : Only (bs i) w w') : WAt B w' wb vn vu vt vw bs { s with nd := upd s.nd i n } := by
  have hb := (h.nd i hi).1
  have key : ∀ {e : TypeId} {kk : Nat} {v : Value} {m : Nat} {xs : List Value}, w.ownsRow B e kk v m xs → e ≠ 39 → w'.ownsRow B e kk v m xs := fun hr hne => owns_key hr (fun g o hg hgo => (ho.block g (own_ne hr hg hb hne)).trans hgo)
  refine ⟨?_, h.lo, key h.on (by decide), key h.ou (by decide), key h.ot (by decide), key h.ow (by decide), h.ne, fun j hj => ?_, h.inj⟩
  · exact (ho.block wb (blk_ne h.blk hb (by decide))).trans h.blk
  · by_cases e : j = i
    · subst e
      refine ⟨?_, (h.nd j hj).2⟩
      show NAt w' (bs j) s.k (upd s.nd j n j) _
      rw [upd_same]; exact hn
    · refine ⟨?_, (h.nd j hj).2⟩
      show NAt w' (bs j) s.k (upd s.nd i n j) _
      rw [upd_other _ _ e]
      exact (ho.block _ (fun hc => e (h.inj j i hj hi hc))).trans (h.nd j hj).1
/-- What a row's growth and a store into the world keep. -/
theorem grew_keep {w2 : World} {v v2 : Value} {c : Nat} (hg : Grew w w2 v v2) (x : Value) {k : Nat} (hk : k < w.heap.size) (h1 : v.ownBlock ≠ some k) (h2 : k ≠ wb) : (w2.setCell ⟨wb, c, none⟩ x).heap[k]? = w.heap[k]? :=
  (Below.heap_setCell w2 ⟨wb, c, none⟩ x k h2).trans (hg.block k hk h1)
theorem WAt.tells_ {w2 : World} {v2 : Value} {L : List Nat} (h : WAt B w wb vn vu vt vw bs s) (hg : Grew w w2 vt v2) (ho : w2.ownsRow B 3 1 v2 L.length (L.map natV)) :
    WAt B (w2.setCell ⟨wb, 2, none⟩ v2) wb vn vu v2 vw bs { s with tells := L } ∧ Below B w (w2.setCell ⟨wb, 2, none⟩ v2) := by
  have hwb := lt_of_block h.blk
  have hlo := h.lo
  have key : ∀ {e : TypeId} {kk : Nat} {v : Value} {m : Nat} {xs : List Value}, w.ownsRow B e kk v m xs → e ≠ 28 → (∀ g, v.ownBlock = some g → vt.ownBlock ≠ some g) → (w2.setCell ⟨wb, 2, none⟩ v2).ownsRow B e kk v m xs := fun hr hne hx =>
    owns_key hr (fun g o hgg hgo => (grew_keep hg v2 (lt_of_block hgo) (hx g hgg) (own_ne hr hgg h.blk hne)).trans hgo)
  have hbl : w2.heap[wb]? = some (.cells #[vn, vu, vt, vw, .bool true] 28 (0, 0)) := (hg.block wb hwb (fun e => own_ne h.ot e h.blk (by decide) rfl)).trans h.blk
  refine ⟨⟨five_set2 hbl, h.lo, key h.on (by decide) (fun g e => own_ne2 h.on e h.ot (by decide)), key h.ou (by decide) (fun g e => own_ne2 h.ou e h.ot (by decide)), ?_, key h.ow (by decide) (fun g e1 e2 => h.ne g e2 e1), ?_, fun j hj => ⟨?_, (h.nd j hj).2⟩, h.inj⟩, ?_⟩
  · exact owns_key ho (fun g o hgg hgo => (Below.heap_setCell w2 ⟨wb, 2, none⟩ v2 g (own_ne ho hgg hbl (by decide))).trans hgo)
  · intro g hg2 hw2
    rcases hg.at_ g hg2 with h1 | h1
    · exact h.ne g h1 hw2
    · have := own_lt h.ow hw2; omega
  · have hn := (h.nd j hj).1
    exact (grew_keep hg v2 (lt_of_block hn) (fun e => own_ne h.ot e hn (by decide) rfl) (blk_ne hn h.blk (by decide))).trans hn
  · refine ⟨hg.os, hg.tape, hg.output, by simpa using hg.size, fun k hk => grew_keep hg v2 (by omega) (fun e => ?_) (by omega)⟩
    have := (own_ty h.ot e).1
    omega
theorem WAt.under_ {w2 : World} {v2 : Value} {L : List (Nat × Nat)} (h : WAt B w wb vn vu vt vw bs s) (hg : Grew w w2 vu v2) (ho : w2.ownsRow B 50 2 v2 L.length (L.flatMap csU)) :
    WAt B (w2.setCell ⟨wb, 1, none⟩ v2) wb vn v2 vt vw bs { s with under := L } ∧ Below B w (w2.setCell ⟨wb, 1, none⟩ v2) := by
  have hwb := lt_of_block h.blk
  have hlo := h.lo
  have key : ∀ {e : TypeId} {kk : Nat} {v : Value} {m : Nat} {xs : List Value}, w.ownsRow B e kk v m xs → e ≠ 28 → (∀ g, v.ownBlock = some g → vu.ownBlock ≠ some g) → (w2.setCell ⟨wb, 1, none⟩ v2).ownsRow B e kk v m xs := fun hr hne hx =>
    owns_key hr (fun g o hgg hgo => (grew_keep hg v2 (lt_of_block hgo) (hx g hgg) (own_ne hr hgg h.blk hne)).trans hgo)
  have hbl : w2.heap[wb]? = some (.cells #[vn, vu, vt, vw, .bool true] 28 (0, 0)) := (hg.block wb hwb (fun e => own_ne h.ou e h.blk (by decide) rfl)).trans h.blk
  refine ⟨⟨five_set1 hbl, h.lo, key h.on (by decide) (fun g e => own_ne2 h.on e h.ou (by decide)), ?_, key h.ot (by decide) (fun g e => own_ne2 h.ot e h.ou (by decide)), key h.ow (by decide) (fun g e => own_ne2 h.ow e h.ou (by decide)), h.ne, fun j hj => ⟨?_, (h.nd j hj).2⟩, h.inj⟩, ?_⟩
  · exact owns_key ho (fun g o hgg hgo => (Below.heap_setCell w2 ⟨wb, 1, none⟩ v2 g (own_ne ho hgg hbl (by decide))).trans hgo)
  · have hn := (h.nd j hj).1
    exact (grew_keep hg v2 (lt_of_block hn) (fun e => own_ne h.ou e hn (by decide) rfl) (blk_ne hn h.blk (by decide))).trans hn
  · refine ⟨hg.os, hg.tape, hg.output, by simpa using hg.size, fun k hk => grew_keep hg v2 (by omega) (fun e => ?_) (by omega)⟩
    have := (own_ty h.ou e).1
    omega
theorem map_upd (f : Nat → Nat) (k i x : Nat) : (List.range k).map (fun j => natV (upd f i x j)) = ((List.range k).map fun j => natV (f j)).set i (natV x) := by
  apply List.ext_getElem?
  intro j
  rw [List.getElem?_set, List.getElem?_map, List.getElem?_map]
  by_cases e : i = j
  · subst e
    by_cases hk : i < k
    · simp [hk, upd_same]
    · simp [hk]
  · rw [if_neg e]
    by_cases hk : j < k
    · simp [hk, upd_other f x (fun e2 => e e2.symm)]
    · simp [hk]
/-- Work changes. -/
theorem WAt.work_ {g n cap : Nat} (h : WAt B w wb vn vu vt (.slice (some ⟨g, 0, none⟩) n cap) bs s) (hn : n = s.k) (i x : Nat) :
    WAt B (w.setCell ⟨g, i, none⟩ (natV x)) wb vn vu vt (.slice (some ⟨g, 0, none⟩) n cap) bs { s with work := upd s.work i x } ∧ Below B w (w.setCell ⟨g, i, none⟩ (natV x)) := by
  subst hn
  obtain ⟨hlo, cur, hgc⟩ := own_ty h.ow (g := g) rfl
  have key : ∀ {e : TypeId} {kk : Nat} {v : Value} {m : Nat} {xs : List Value}, w.ownsRow B e kk v m xs → (∀ g', v.ownBlock = some g' → g' ≠ g) → (w.setCell ⟨g, i, none⟩ (natV x)).ownsRow B e kk v m xs := fun hr hx =>
    owns_key hr (fun g' o hgg hgo => (Below.heap_setCell w ⟨g, i, none⟩ _ g' (hx g' hgg)).trans hgo)
  refine ⟨⟨?_, h.lo, key h.on (fun g' e => own_ne h.on e hgc (by decide)), key h.ou (fun g' e => own_ne h.ou e hgc (by decide)), key h.ot (fun g' e hc => h.ne g' e (by rw [hc]; rfl)), ?_, h.ne, fun j hj => ⟨?_, (h.nd j hj).2⟩, h.inj⟩, ?_⟩
  · refine (Below.heap_setCell w ⟨g, i, none⟩ _ wb ?_).trans h.blk
    exact blk_ne h.blk hgc (by decide)
  · show (w.setCell ⟨g, i, none⟩ (natV x)).ownsRow B 3 1 _ s.k ((List.range s.k).map fun j => natV (upd s.work i x j))
    rw [map_upd]
    exact set_row h.ow
  · have hnn := (h.nd j hj).1
    refine (Below.heap_setCell w ⟨g, i, none⟩ _ (bs j) ?_).trans hnn
    exact blk_ne hnn hgc (by decide)
  · exact ⟨rfl, rfl, rfl, by simp, fun k hk => Below.heap_setCell w ⟨g, i, none⟩ _ k (by show k ≠ g; omega)⟩
/-- What is read of a world. -/
theorem WAt.reads (h : WAt B w wb vn vu vt vw bs s) (hk : 1 ≤ s.k) : ∃ gn cn gw cw, vn = .slice (some ⟨gn, 0, none⟩) s.k cn ∧ vw = .slice (some ⟨gw, 0, none⟩) s.k cw ∧ (∀ i, i < s.k → w.cell? ⟨gn, i, none⟩ = some (.pointer (some ⟨bs i, 0, none⟩))) ∧ (∀ i, i < s.k → w.cell? ⟨gw, i, none⟩ = some (.int .i64 (s.work i : Int)) ∧ w.frozen? ⟨gw, i, none⟩ = false) := by
  have h1 := h.on
  have h2 := h.ow
  rcases h1.2 with ⟨e, h0⟩ | ⟨gn, cn, cur, rfl, _⟩
  · omega
  · rcases h2.2 with ⟨e, h0⟩ | ⟨gw, cw, cur, rfl, _⟩
    · omega
    · refine ⟨gn, cn, gw, cw, rfl, rfl, fun i hi => ?_, fun i hi => ⟨?_, h2.frozenAt _⟩⟩
      · rw [h1.cellAt i (by omega)]; simp [hi]
      · rw [h2.cellAt i (by omega)]; simp [hi]
end
theorem infoZ2 : (Try.prog.info? 3).map (fun i => (i.zero, i.size, i.bytes)) = some (some (.int .i64 0), 1, 8) := by kernel_rfl
theorem infoU : (Try.prog.info? 50).map (fun i => (i.zero, i.size, i.bytes)) = some (some (.agg #[.int .i64 0, .int .i64 0]), 2, 16) := by kernel_rfl
/-- How great things may be. -/
structure Lim (s : Wd) : Prop where
  k1 : 1 ≤ s.k
  k6 : s.k ≤ 6
  ow : ∀ i, i < s.k → (s.nd i).owes ≤ 1000000
  te : s.tells.length ≤ 1000000
  un : s.under.length ≤ 1000000
  pa : ∀ i, i < s.k → (s.nd i).par < s.k
  wk : ∀ i, i < s.k → s.work i ≤ 1000000
set_option maxRecDepth 100000 in
set_option maxHeartbeats 4000000 in
theorem rests_any {B : Nat} {w : World} {wb : Nat} {s : Wd} (hW : WOk B w wb s) (hl : Lim s) {i : Nat} (hi : i < s.k) :
    Calls Try.prog 11 #[.pointer (some ⟨wb, 0, none⟩), .int .i64 (i : Int)] w fun e w' => e = .returned (.tuple #[]) ∧ WOk B w' wb (s.rests i) ∧ Below B w w' := by
  obtain ⟨i0, hi0, hz0, hz1, hz2⟩ := info_parts infoZ2
  obtain ⟨vn, vu, vt, vw, bs, h⟩ := hW
  obtain ⟨gn, cn, gw, cw, rfl, rfl, hrn, hrw⟩ := h.reads hl.k1
  obtain ⟨ta, tc, rfl⟩ := own_slice h.ot
  obtain ⟨ua, uc, rfl⟩ := own_slice h.ou
  have H := Hid.mk h
  have hk6 := hl.k6
  have hte := hl.te
  have how := hl.ow i hi
  have hpa := hl.pa i hi
  have CW := Hid.mk (works_any (h.nd i hi).1)
  obtain ⟨⟨g0, g1, g2, g3, g4⟩, f0, f1, f2, f3⟩ := five_cells h.blk
  have n1 := hrn i hi
  obtain ⟨w1c, _⟩ := hrw i hi
  obtain ⟨k, hk⟩ : ∃ k, k = s.k := ⟨_, rfl⟩
  obtain ⟨nt, hnt⟩ : ∃ nt, nt = s.tells.length := ⟨_, rfl⟩
  obtain ⟨nu, hnu⟩ : ∃ nu, nu = s.under.length := ⟨_, rfl⟩
  rw [← hk] at g0 g3 hi hk6 hpa H
  rw [← hnt] at g2 hte H
  rw [← hnu] at g1 H
  have hiI : (i : Int) < (k : Int) := by omega
  have HK := Hid.mk hk
  have HNT := Hid.mk hnt
  clear h hrn hrw hk hnt hnu hl
  by_cases hwk : 0 < s.work i
  · have HR : Hid (s.rests i = s) := Hid.mk (if_pos (.inl hwk))
    have hwI : (0 : Int) < (s.work i : Int) := by omega
    obtain ⟨x, hx⟩ : ∃ x : Int, x = (s.work i : Int) := ⟨_, rfl⟩
    rw [← hx] at w1c hwI
    clear hx hwk
    rw [HR.out]
    go_enter Try.func11, Try.ntmps11
    go_wp2
    refine bodyPost_ret (results_none rfl _ _ _) rfl ?_
    exact ⟨rfl, H.out.ok, Below.refl _ _⟩
  · have hw0 : s.work i = 0 := by omega
    rw [hw0] at w1c
    cases hws : (s.nd i).works with
    | false =>
      have HR : Hid (s.rests i = s) := Hid.mk (if_pos (.inr (.inl hws)))
      rw [hws] at CW
      rw [HR.out]
      clear hws hw0 hwk
      go_enter Try.func11, Try.ntmps11
      go_wp2_with fail
      refine CW.out.mono ?_
      rintro e w1 ⟨rfl, hw⟩
      rw [hw]
      clear hw
      go_wp2
      refine bodyPost_ret (results_none rfl _ _ _) rfl ?_
      exact ⟨rfl, H.out.ok, Below.refl _ _⟩
    | true =>
      have CR := Hid.mk (rest_any (H.out.nd i (by rw [← HK.out]; exact hi)).1 hws (by omega))
      rw [hws] at CW
      by_cases hop : 0 < (s.nd i).owes
      · have HR : Hid (s.rests i = s) := Hid.mk (if_pos (.inr (.inr hop)))
        rw [if_pos hop] at CR
        rw [HR.out]
        rw [if_pos hop] at CR
        clear hws hw0 hwk hop
        go_enter Try.func11, Try.ntmps11
        go_wp2_with fail
        refine CW.out.mono ?_
        rintro e w1 ⟨rfl, hw⟩
        rw [hw]
        clear hw
        go_wp2_with fail
        refine CR.out.mono ?_
        rintro e w1 ⟨rfl, hn1, ho1⟩
        have HW1 : Hid (WOk B w1 wb s ∧ Below B w w1) := Hid.mk (by
          have hh := H.out.node (by rw [← HK.out]; exact hi) hn1 ho1
          have : { s with nd := upd s.nd i (s.nd i) } = s := by
            have : upd s.nd i (s.nd i) = s.nd := by funext j; unfold upd; split <;> simp_all
            rw [this]
          rw [this] at hh
          exact ⟨hh.ok, ho1.below (H.out.nd i (by rw [← HK.out]; exact hi)).2⟩)
        clear hn1 ho1
        go_wp2
        go_end0
        exact ⟨rfl, HW1.out⟩
      · have HR : Hid (s.rests i = s.rest1 i) := Hid.mk (if_neg (by
          rintro (h | h | h)
          · omega
          · rw [hws] at h; cases h
          · exact hop h))
        rw [if_neg hop, if_neg hop] at CR
        rw [HR.out]
        obtain ⟨p, hp⟩ : ∃ p, p = (s.nd i).par := ⟨_, rfl⟩
        rw [← hp] at CR hpa
        have HP := Hid.mk hp
        clear hws hw0 hwk hop hp
        by_cases hpp : 0 ≤ p
        · obtain ⟨q, rfl⟩ : ∃ q : Nat, p = (q : Int) := ⟨p.toNat, by omega⟩
          go_enter Try.func11, Try.ntmps11
          go_wp2_with fail
          refine CW.out.mono ?_
          rintro e w1 ⟨rfl, hw⟩
          rw [hw]
          clear hw
          go_wp2_with fail
          refine CR.out.mono ?_
          rintro e w1 ⟨rfl, hn1, ho1⟩
          have H1 := Hid.mk (H.out.node (by rw [← HK.out]; exact hi) hn1 ho1)
          have HB1 := Hid.mk (ho1.below (H.out.nd i (by rw [← HK.out]; exact hi)).2)
          obtain ⟨⟨g0', g1', g2', g3', g4'⟩, f0', f1', f2', f3'⟩ := five_cells H1.out.blk
          have HOT : Hid (w1.ownsRow B 3 1 (.slice ta nt tc) nt (s.tells.map natV)) := Hid.mk (by have := H1.out.ot; simp only at this; rw [HNT.out] at this ⊢; exact this)
          have hB1 := H1.out.size
          clear hn1 ho1 g0 g1 g2 g3 g4 f0 f1 f2 f3
          go_wp2_with (at_builtin; refine wpList_append_lies _ rfl _ _ _ rfl B 3 i0 _ 1 8 Try.underlying22 hi0 hz0 hz1 hz2 rfl (by decide) (.slice ta nt tc) _ _ (by rfl) (HOT.out.alloc _) ⟨w1.heap.size, 0, none⟩ 1 1 [.int .i64 (q : Int)] (by rfl) (by rfl) (World.news_of_block (cs := #[.int .i64 (q : Int)]) (t := 3) (fr := (0, 0)) (heap_alloc_new w1 _)) (by simp [Value.oneCell']) (by decide) (by unfold maxLen; omega) (by omega) (by simp; omega) (w1.heap.size + 1) (by simp) ?_)
          intro g cap w9 hown9 hgrow9 hat9 hlt9
          have HFIN : Hid (WOk B (w9.setCell ⟨wb, 2, none⟩ (.slice (some ⟨g, 0, none⟩) (nt + 1) cap)) wb (s.rest1 i) ∧ Below B w (w9.setCell ⟨wb, 2, none⟩ (.slice (some ⟨g, 0, none⟩) (nt + 1) cap))) := Hid.mk (by
            have hgr : Grew w1 w9 (.slice ta nt tc) (.slice (some ⟨g, 0, none⟩) (nt + 1) cap) := Grew.lies ((Below.refl _ _).alloc (Nat.le_refl _) _) hgrow9 (by simpa using hat9)
            have ho9 : w9.ownsRow B 3 1 (.slice (some ⟨g, 0, none⟩) (nt + 1) cap) (s.tells ++ [q]).length ((s.tells ++ [q]).map natV) := by
              rw [List.map_append, List.length_append, List.length_singleton, ← HNT.out]; exact hown9
            obtain ⟨a1, a2⟩ := H1.out.tells_ hgr ho9
            have e : s.rest1 i = { s with nd := upd s.nd i (restN (s.nd i)), tells := s.tells ++ [q], E := s.E.erase i } := by
              unfold Wd.rest1
              rw [← HP.out, if_pos (by omega), Int.toNat_natCast]
            refine ⟨?_, HB1.out.trans a2⟩
            rw [e]
            exact ⟨_, _, _, _, _, a1.blk, a1.lo, a1.on, a1.ou, a1.ot, a1.ow, a1.ne, a1.nd, a1.inj⟩)
          obtain ⟨c2', fr2'⟩ : (∃ v, w9.cell? ⟨wb, 2, none⟩ = some v) ∧ w9.frozen? ⟨wb, 2, none⟩ = false := by
            have hb9 : w9.heap[wb]? = w1.heap[wb]? := by
              have hlt := lt_of_block H1.out.blk
              rw [hgrow9.block wb (by simp; omega) (fun e => own_ne HOT.out e.symm H1.out.blk (by decide) rfl), heap_alloc_old _ _ hlt]
            have hb9' := hb9.trans H1.out.blk
            exact ⟨⟨_, (five_cells hb9').1.2.2.1⟩, (five_cells hb9').2.2.2.1⟩
          obtain ⟨c2v, c2'⟩ := c2'
          clear hown9 hgrow9 hat9 hlt9 g0' g1' g2' g3' g4' f0' f1' f2' f3'
          go_wp2
          go_end0
          exact ⟨rfl, HFIN.out⟩
        · go_enter Try.func11, Try.ntmps11
          go_wp2_with fail
          refine CW.out.mono ?_
          rintro e w1 ⟨rfl, hw⟩
          rw [hw]
          clear hw
          go_wp2_with fail
          refine CR.out.mono ?_
          rintro e w1 ⟨rfl, hn1, ho1⟩
          have H1 := Hid.mk (H.out.node (by rw [← HK.out]; exact hi) hn1 ho1)
          have HB1 := Hid.mk (ho1.below (H.out.nd i (by rw [← HK.out]; exact hi)).2)
          have HFIN : Hid (WOk B w1 wb (s.rest1 i) ∧ Below B w w1) := Hid.mk (by
            have a1 := H1.out
            have e : s.rest1 i = { s with nd := upd s.nd i (restN (s.nd i)), E := s.E.erase i } := by
              unfold Wd.rest1
              rw [← HP.out, if_neg (by omega)]
            refine ⟨?_, HB1.out⟩
            rw [e]
            exact ⟨_, _, _, _, _, a1.blk, a1.lo, a1.on, a1.ou, a1.ot, a1.ow, a1.ne, a1.nd, a1.inj⟩)
          clear hn1 ho1
          go_wp2
          go_end0
          exact ⟨rfl, HFIN.out⟩
end Go.Proofs.Ytdbnbgpbbfckfaa
