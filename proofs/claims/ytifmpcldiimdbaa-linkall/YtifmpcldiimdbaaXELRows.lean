/- LinkAll: behind whatever script of up to 150 acts on a line of two ends, once all that an end sends again comes, in whatever order, all that was put has come and nothing waits: for every epochs, script and turn. -/
import Derived.Test.YtifmpcldiimdbaaXELSend
namespace Go.Proofs.Ytifmpcldiimdbaa
open Go.RowKit Go.Shelf

theorem rngC_snoc (n : Nat) : rngC (n + 1) = rngC n ++ [.int .i64 (n : Int)] := by simp [rngC, List.range_succ]
section
variable {w0 : World} {T : Nat → Prop} {W W' : World} {x : Nat} {V : LV} {e : Nat → En} {U : Nat → List (List UInt8)} {n c : Nat → Nat}
/-- One more number in the row p of k. -/
theorem LnB.addp (h : LnB w0 T W x V e U n c) {k : Nat} (hk : k < 2) {v : Value} (hg : W.grownBy W' (V.p k).ownBlock) (ho : W'.ownsRow w0.heap.size 3 1 v (n k + 1) (rngC (n k + 1))) (hv : v.ownBlock = (V.p k).ownBlock ∨ v.ownBlock = some W.heap.size) :
    LnB w0 (Nw T W W') (W'.setCell ⟨x, 4 + k, none⟩ v) x { V with p := upd V.p k v } e U (upd n k (n k + 1)) c := by
  have hrow := (h.rp k hk).1
  have hrT := (h.rp k hk).2
  have kept : ∀ {g : Nat} {cur : Array Value} {t : TypeId}, W.heap[g]? = some (.cells cur t (0, 0)) → t ≠ 3 → W'.heap[g]? = some (.cells cur t (0, 0)) := fun {g cur t} hgg ht => (hg.block g (lt_of_block hgg) (fun e => by
    rcases hrow.2 with ⟨h0, _⟩ | ⟨g', cap, cur', e1, _, e3, _⟩
    · rw [h0] at e; cases e
    · rw [e1] at e
      simp only [Value.ownBlock, Option.some.injEq] at e
      subst e
      rw [hgg] at e3
      simp only [Option.some.injEq, Obj.cells.injEq] at e3
      exact ht e3.2.1)).trans hgg
  have keptI : ∀ {g : Nat} {cur : Array Value}, W.heap[g]? = some (.cells cur 3 (0, 0)) → (V.p k).ownBlock ≠ some g → W'.heap[g]? = some (.cells cur 3 (0, 0)) := fun {g cur} hgg hne => (hg.block g (lt_of_block hgg) (fun e => hne e.symm)).trans hgg
  have hblk := kept h.blk (by decide)
  have nx : ∀ {g : Nat} {cur : Array Value} {t : TypeId}, W'.heap[g]? = some (.cells cur t (0, 0)) → t ≠ 63 → (W'.setCell ⟨x, 4 + k, none⟩ v).heap[g]? = some (.cells cur t (0, 0)) := fun {g cur t} hgg ht => (set1_other (fun e => by
    rw [← e, hgg] at hblk
    simp only [Option.some.injEq, Obj.cells.injEq] at hblk
    exact ht hblk.2.1) v).trans hgg
  have hvT : ∀ g, v.ownBlock = some g → Nw T W W' g := fun g hgv => by
    rcases hv with e | e
    · rw [e] at hgv; exact .inl (hrT g hgv)
    · have hgs := ho.lt g hgv
      rw [e] at hgv
      have : g = W.heap.size := (Option.some.inj hgv).symm
      exact .inr ⟨by omega, hgs.2⟩
  have hnew : ∀ g, v.ownBlock = some g → (V.p k).ownBlock = some g ∨ W.heap.size ≤ g := fun g hgv => by
    rcases hv with e | e
    · rw [e] at hgv; exact .inl hgv
    · rw [e] at hgv
      have : g = W.heap.size := (Option.some.inj hgv).symm
      exact .inr (by omega)
  have low1 : ∀ j, j < 2 → ∀ g, (V.p j).ownBlock = some g → g < W.heap.size := fun j hj g hgg => ((h.rp j hj).1.lt g hgg).2
  have low2 : ∀ j, j < 2 → ∀ g, (V.c j).ownBlock = some g → g < W.heap.size := fun j hj g hgg => ((h.rc j hj).1.lt g hgg).2
  have dself : ∀ j, j < 2 → j ≠ k → ∀ g, (V.p k).ownBlock = some g → (V.p j).ownBlock ≠ some g := fun j hj hne g hgg => by
    match k, j, hk, hj, hne with
    | 0, 1, _, _, _ => exact h.dpp g hgg
    | 1, 0, _, _, _ => exact fun h2 => h.dpp g h2 hgg
    | 0, 0, _, _, hn => exact absurd rfl hn
    | 1, 1, _, _, hn => exact absurd rfl hn
  have dcross : ∀ j, j < 2 → ∀ g, (V.p k).ownBlock = some g → (V.c j).ownBlock ≠ some g := fun j hj g => h.dpc k j hk hj g
  refine
    { blk := ?_, two := ?_, low := fun j hj => by simpa using Nw.low h.low hg.size j hj, sub := fun j hj => .inl (h.sub j hj), bel := ?_, xT := .inl h.xT, x1 := h.x1, tu := fun j hj => (h.tu j hj).keep (fun g cur hT ho2 => ⟨.inl hT, nx (kept ho2 (by decide)) (by decide)⟩)
      rp := fun j hj => ?_, rc := fun j hj => ⟨own_keep (h.rc j hj).1 (fun g cur hgg ho2 => nx (keptI ho2 (fun e => dcross j hj g e hgg)) (by decide)), fun g hgg => .inl ((h.rc j hj).2 g hgg)⟩
      dpp := ?_, dcc := h.dcc, dpc := ?_ }
  · rw [← lnC_setp V hk v]
    simp [World.setCell, Array.getElem?_modify, hblk]
  · exact (two_nw2 h.two hg hrT).set (.inl h.xT) v
  · refine Below.setCell (p := ⟨x, 4 + k, none⟩) ?_ h.x1 v
    exact h.bel.grown hg (by have := h.bel.size; omega) (fun j e => (hrow.lt j e).1)
  · simp only
    by_cases ej : j = k
    · subst ej
      rw [upd_same, upd_same]
      exact ⟨own_keep ho (fun g cur _ ho2 => nx ho2 (by decide)), hvT⟩
    · rw [upd_ne ej, upd_ne ej]
      exact ⟨own_keep (h.rp j hj).1 (fun g cur hgg ho2 => nx (keptI ho2 (fun e => dself j hj ej g e hgg)) (by decide)), fun g hgg => .inl ((h.rp j hj).2 g hgg)⟩
  · intro g hgg
    simp only at hgg ⊢
    match k, hk with
    | 0, _ =>
      rw [upd_same] at hgg
      rw [upd_ne (by omega)]
      rcases hnew g hgg with e | e
      · exact h.dpp g e
      · exact fun h2 => by have := low1 1 (by omega) g h2; omega
    | 1, _ =>
      rw [upd_ne (by omega)] at hgg
      rw [upd_same]
      intro h2
      rcases hnew g h2 with e | e
      · exact h.dpp g hgg e
      · have := low1 0 (by omega) g hgg; omega
  · intro i j hi hj g
    simp only
    by_cases ei : i = k
    · subst ei
      rw [upd_same]
      intro hgg
      rcases hnew g hgg with e | e
      · exact h.dpc i j hi hj g e
      · exact fun h2 => by have := low2 j hj g h2; omega
    · rw [upd_ne ei]
      exact h.dpc i j hi hj g
/-- One more number in the row c of k. -/
theorem LnB.addc (h : LnB w0 T W x V e U n c) {k : Nat} (hk : k < 2) {v : Value} (hg : W.grownBy W' (V.c k).ownBlock) (ho : W'.ownsRow w0.heap.size 3 1 v (c k + 1) (rngC (c k + 1))) (hv : v.ownBlock = (V.c k).ownBlock ∨ v.ownBlock = some W.heap.size) :
    LnB w0 (Nw T W W') (W'.setCell ⟨x, 6 + k, none⟩ v) x { V with c := upd V.c k v } e U n (upd c k (c k + 1)) := by
  have hrow := (h.rc k hk).1
  have hrT := (h.rc k hk).2
  have kept : ∀ {g : Nat} {cur : Array Value} {t : TypeId}, W.heap[g]? = some (.cells cur t (0, 0)) → t ≠ 3 → W'.heap[g]? = some (.cells cur t (0, 0)) := fun {g cur t} hgg ht => (hg.block g (lt_of_block hgg) (fun e => by
    rcases hrow.2 with ⟨h0, _⟩ | ⟨g', cap, cur', e1, _, e3, _⟩
    · rw [h0] at e; cases e
    · rw [e1] at e
      simp only [Value.ownBlock, Option.some.injEq] at e
      subst e
      rw [hgg] at e3
      simp only [Option.some.injEq, Obj.cells.injEq] at e3
      exact ht e3.2.1)).trans hgg
  have keptI : ∀ {g : Nat} {cur : Array Value}, W.heap[g]? = some (.cells cur 3 (0, 0)) → (V.c k).ownBlock ≠ some g → W'.heap[g]? = some (.cells cur 3 (0, 0)) := fun {g cur} hgg hne => (hg.block g (lt_of_block hgg) (fun e => hne e.symm)).trans hgg
  have hblk := kept h.blk (by decide)
  have nx : ∀ {g : Nat} {cur : Array Value} {t : TypeId}, W'.heap[g]? = some (.cells cur t (0, 0)) → t ≠ 63 → (W'.setCell ⟨x, 6 + k, none⟩ v).heap[g]? = some (.cells cur t (0, 0)) := fun {g cur t} hgg ht => (set1_other (fun e => by
    rw [← e, hgg] at hblk
    simp only [Option.some.injEq, Obj.cells.injEq] at hblk
    exact ht hblk.2.1) v).trans hgg
  have hvT : ∀ g, v.ownBlock = some g → Nw T W W' g := fun g hgv => by
    rcases hv with e | e
    · rw [e] at hgv; exact .inl (hrT g hgv)
    · have hgs := ho.lt g hgv
      rw [e] at hgv
      have : g = W.heap.size := (Option.some.inj hgv).symm
      exact .inr ⟨by omega, hgs.2⟩
  have hnew : ∀ g, v.ownBlock = some g → (V.c k).ownBlock = some g ∨ W.heap.size ≤ g := fun g hgv => by
    rcases hv with e | e
    · rw [e] at hgv; exact .inl hgv
    · rw [e] at hgv
      have : g = W.heap.size := (Option.some.inj hgv).symm
      exact .inr (by omega)
  have low1 : ∀ j, j < 2 → ∀ g, (V.p j).ownBlock = some g → g < W.heap.size := fun j hj g hgg => ((h.rp j hj).1.lt g hgg).2
  have low2 : ∀ j, j < 2 → ∀ g, (V.c j).ownBlock = some g → g < W.heap.size := fun j hj g hgg => ((h.rc j hj).1.lt g hgg).2
  have dself : ∀ j, j < 2 → j ≠ k → ∀ g, (V.c k).ownBlock = some g → (V.c j).ownBlock ≠ some g := fun j hj hne g hgg => by
    match k, j, hk, hj, hne with
    | 0, 1, _, _, _ => exact h.dcc g hgg
    | 1, 0, _, _, _ => exact fun h2 => h.dcc g h2 hgg
    | 0, 0, _, _, hn => exact absurd rfl hn
    | 1, 1, _, _, hn => exact absurd rfl hn
  have dcross : ∀ j, j < 2 → ∀ g, (V.c k).ownBlock = some g → (V.p j).ownBlock ≠ some g := fun j hj g => fun h1 h2 => h.dpc j k hj hk g h2 h1
  refine
    { blk := ?_, two := ?_, low := fun j hj => by simpa using Nw.low h.low hg.size j hj, sub := fun j hj => .inl (h.sub j hj), bel := ?_, xT := .inl h.xT, x1 := h.x1, tu := fun j hj => (h.tu j hj).keep (fun g cur hT ho2 => ⟨.inl hT, nx (kept ho2 (by decide)) (by decide)⟩)
      rc := fun j hj => ?_, rp := fun j hj => ⟨own_keep (h.rp j hj).1 (fun g cur hgg ho2 => nx (keptI ho2 (fun e => dcross j hj g e hgg)) (by decide)), fun g hgg => .inl ((h.rp j hj).2 g hgg)⟩
      dcc := ?_, dpp := h.dpp, dpc := ?_ }
  · rw [← lnC_setc V hk v]
    simp [World.setCell, Array.getElem?_modify, hblk]
  · exact (two_nw2 h.two hg hrT).set (.inl h.xT) v
  · refine Below.setCell (p := ⟨x, 6 + k, none⟩) ?_ h.x1 v
    exact h.bel.grown hg (by have := h.bel.size; omega) (fun j e => (hrow.lt j e).1)
  · simp only
    by_cases ej : j = k
    · subst ej
      rw [upd_same, upd_same]
      exact ⟨own_keep ho (fun g cur _ ho2 => nx ho2 (by decide)), hvT⟩
    · rw [upd_ne ej, upd_ne ej]
      exact ⟨own_keep (h.rc j hj).1 (fun g cur hgg ho2 => nx (keptI ho2 (fun e => dself j hj ej g e hgg)) (by decide)), fun g hgg => .inl ((h.rc j hj).2 g hgg)⟩
  · intro g hgg
    simp only at hgg ⊢
    match k, hk with
    | 0, _ =>
      rw [upd_same] at hgg
      rw [upd_ne (by omega)]
      rcases hnew g hgg with e | e
      · exact h.dcc g e
      · exact fun h2 => by have := low2 1 (by omega) g h2; omega
    | 1, _ =>
      rw [upd_ne (by omega)] at hgg
      rw [upd_same]
      intro h2
      rcases hnew g h2 with e | e
      · exact h.dcc g hgg e
      · have := low2 0 (by omega) g hgg; omega
  · intro i j hi hj g
    simp only
    by_cases ei : j = k
    · subst ei
      rw [upd_same]
      intro h2 hgg
      rcases hnew g hgg with e | e
      · exact h.dpc i j hi hj g h2 e
      · have := low1 i hi g h2; omega
    · rw [upd_ne ei]
      exact h.dpc i j hi hj g
end
end Go.Proofs.Ytifmpcldiimdbaa
