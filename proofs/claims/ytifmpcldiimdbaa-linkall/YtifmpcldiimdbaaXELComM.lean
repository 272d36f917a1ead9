/- LinkAll: behind whatever script of up to 150 acts on a line of two ends, once all that an end sends again comes, in whatever order, all that was put has come and nothing waits: for every epochs, script and turn. -/
import Derived.Test.YtifmpcldiimdbaaXELOrdM
namespace Go.Proofs.Ytifmpcldiimdbaa
open Go.RowKit Go.Shelf

/-- A note with one number, in memory. -/
def PayF (w : World) (gp gi o cap m : Nat) : Prop :=
  (∃ cur, w.heap[gp]? = some (.cells cur 36 (0, 0)) ∧ cur[0]? = some (.int .i64 5) ∧ cur[1]? = some (.slice (some ⟨gi, o, none⟩) 1 cap)) ∧ ∃ cur fz, w.heap[gi]? = some (.cells cur 3 fz) ∧ cur[o]? = some (.int .i64 (m : Int))
theorem PayF.cells {w : World} {gp gi o cap m : Nat} (h : PayF w gp gi o cap m) : w.cell? ⟨gp, 0, none⟩ = some (.int .i64 5) ∧ w.cell? ⟨gp, 1, none⟩ = some (.slice (some ⟨gi, o, none⟩) 1 cap) ∧ w.cell? ⟨gi, o, none⟩ = some (.int .i64 (m : Int)) := by
  obtain ⟨⟨cur, h1, h2, h3⟩, cur2, fz, h4, h5⟩ := h
  exact ⟨by simp only [World.cell?, h1]; exact h2, by simp only [World.cell?, h1]; exact h3, by simp only [World.cell?, h4]; exact h5⟩
theorem PayF.keep {w w' : World} {gp gi o cap m : Nat} (h : PayF w gp gi o cap m) (hk : ∀ g ob, g = gp ∨ g = gi → w.heap[g]? = some ob → w'.heap[g]? = some ob) : PayF w' gp gi o cap m := by
  obtain ⟨⟨cur, h1, h2, h3⟩, cur2, fz, h4, h5⟩ := h
  exact ⟨⟨cur, hk gp _ (.inl rfl) h1, h2, h3⟩, cur2, fz, hk gi _ (.inr rfl) h4, h5⟩
theorem one_pay {w : World} {B : Nat} {a0 : Option Addr} {l0 c0 m : Nat} (h : OneN w B (.slice a0 l0 c0) [nk 5 m]) : l0 = 1 ∧ ∃ gp gi o cap, a0 = some ⟨gp, 0, none⟩ ∧ B ≤ gp ∧ B ≤ gi ∧ PayF w gp gi o cap m := by
  rcases h with ⟨h, _⟩ | ⟨g, n, a0', l0', c0', a1, l1, c1, a2, l2, c2, hn, e, hB, hb, ho⟩
  · cases h
  · have hn' : n = nk 5 m := by injection hn with h; exact h.symm
    subst hn'
    injection e with e1 e2 e3
    subst e1 e2 e3
    obtain ⟨vn, vt, vr, e, h1, _⟩ := ho
    simp only [Value.agg.injEq, Array.mk.injEq, List.cons.injEq, and_true, true_and] at e
    obtain ⟨rfl, -, -⟩ := e
    refine ⟨rfl, g, ?_⟩
    rcases h1 with ⟨ao, cap, _, h2⟩ | ⟨gi, o, cap, cur, fz, e1, e2, e3, e4⟩
    · simp [nk, intCs] at h2
    · refine ⟨gi, o, cap, rfl, hB, e2, ⟨_, hb, rfl, ?_⟩, cur, fz, e3, ?_⟩
      · rw [e1]; simp [nk, intCs]
      · have := e4 0 (.int .i64 (m : Int)) (by simp [nk, intCs])
        simpa using this
theorem one_none {w : World} {B : Nat} {a0 : Option Addr} {l0 c0 : Nat} (h : OneN w B (.slice a0 l0 c0) []) : l0 = 0 := by
  rcases h with ⟨_, h⟩ | ⟨g, n, a0', l0', c0', a1, l1, c1, a2, l2, c2, hn, _⟩
  · injection h
  · cases hn
/-- The line behind Take, ahead of the payload j. -/
structure CmI (w0 : World) (T : Nat → Prop) (W : World) (x : Nat) (V : LV) (e : Nat → En) (U : Nat → List (List UInt8)) (n c : Nat → Nat) (k bx : Nat) (a0 : Option Addr) (l0 c0 : Nat) (a1 : Option Addr) (l1 c1 : Nat) (ps : List (List UInt8)) (j : Nat) : Prop where
  ln : LnB w0 T W x V e U n (upd c k (c k + j))
  bxb : W.heap[bx]? = some (.cells #[.slice a0 l0 c0, .slice a1 l1 c1, .bool false] 50 (0, 0))
  bxT : T bx
  tx : TxR T W (.slice a1 l1 c1) ps
  pay : j = 0 → l0 = 1 → ∃ gp gi o cap, a0 = some ⟨gp, 0, none⟩ ∧ PayF W gp gi o cap (c k) ∧ (V.c k).ownBlock ≠ some gi ∧ T gp ∧ T gi
section
variable {w0 : World} {T : Nat → Prop} {W : World} {x : Nat} {V : LV} {e : Nat → En} {U : Nat → List (List UInt8)} {n c : Nat → Nat}
theorem oneT_txr {w : World} {B : Nat} {a1 : Option Addr} {l1 c1 : Nat} {ps : List (List UInt8)} (h : OneT w B (.slice a1 l1 c1) ps) (hT : ∀ g, B ≤ g → g < w.heap.size → T g) : TxR T w (.slice a1 l1 c1) ps := by
  rcases h with ⟨e1, e0⟩ | ⟨g, t, e1, e0, hB, hb⟩
  · rw [e0, e1]; exact ⟨none, 0, rfl, fun _ => ⟨rfl, rfl⟩, by simp, .inl rfl⟩
  · rw [e0, e1]
    refine ⟨_, 1, rfl, fun h => (by cases h), by simp, .inr ⟨g, 0, _, rfl, hT g hB (lt_of_block hb), hb, fun j t' hj => ?_⟩⟩
    have : j = 0 := by have := (List.getElem?_eq_some_iff.1 hj).1; simp at this; exact this
    subst this
    simp at hj
    subst hj
    rfl
theorem upd_zero (c : Nat → Nat) (k : Nat) : upd c k (c k + 0) = c := by rw [Nat.add_zero, upd_self]
theorem upd_two {α : Type} (f : Nat → α) (k : Nat) (u v : α) : upd (upd f k u) k v = upd f k v := by
  funext j
  unfold upd
  split
  · rfl
  · rfl
/-- Behind Take, and the block that takes up what it answers. -/
theorem cm_start {w4 w5 : World} {k : Nat} (hk : k < 2) (h : LnB w0 T w4 x V e U n c) {f' : En} {ns : List NoteD} {ps : List (List UInt8)} (hns : ns = [] ∨ ns = [nk 5 (c k)]) {a0 : Option Addr} {l0 c0 : Nat} {a1 : Option Addr} {l1 c1 : Nat}
    (hN : OneN w5 w4.heap.size (.slice a0 l0 c0) ns) (hT : OneT w5 w4.heap.size (.slice a1 l1 c1) ps) (h2 : Two (Nw T w4 w5) w5 (V.b k) f' (V.b (1 - k)) (e (1 - k))) (hf : Fr T w4 w5) :
    ∃ T', CmI w0 T' (w5.alloc (.cells #[.slice a0 l0 c0, .slice a1 l1 c1, .bool false] 50)) x V (upd e k f') U n c k w5.heap.size a0 l0 c0 a1 l1 c1 ps 0 ∧ (∀ j, T j → T' j) ∧ l0 = ns.length := by
  have hl5 : LnB w0 (Nw T w4 w5) w5 x V (upd e k f') U n c := h.fr hf (fun _ hj => .inl hj) (two_back hk h2) (Nw.low h.low hf.size)
  have ba : Below w5.heap.size w5 (w5.alloc (.cells #[.slice a0 l0 c0, .slice a1 l1 c1, .bool false] 50)) := (Below.refl _ _).alloc (Nat.le_refl _) _
  have hl6 := hl5.nw ba
  have hlen : l0 = ns.length := by
    rcases hns with rfl | rfl
    · exact one_none hN
    · exact (one_pay hN).1
  refine ⟨Nw (Nw T w4 w5) w5 (w5.alloc (.cells #[.slice a0 l0 c0, .slice a1 l1 c1, .bool false] 50)), ⟨by rw [upd_zero]; exact hl6, box_at w5 _, .inr ⟨Nat.le_refl _, by simp⟩, ?_, fun _ hl => ?_⟩, fun j hj => .inl (.inl hj), hlen⟩
  · exact (oneT_txr (T := Nw T w4 w5) hT (fun g h1 h2 => .inr ⟨h1, h2⟩)).keep (fun g cur hg ho => ⟨.inl hg, (ba.block g (lt_of_block ho)).trans ho⟩)
  · rcases hns with rfl | rfl
    · rw [hlen] at hl; cases hl
    · obtain ⟨-, gp, gi, o, cap, e1, b1, b2, hp⟩ := one_pay hN
      have lgp : gp < w5.heap.size := by obtain ⟨⟨cur, h1, _⟩, _⟩ := hp; exact lt_of_block h1
      have lgi : gi < w5.heap.size := by obtain ⟨_, cur, fz, h1, _⟩ := hp; exact lt_of_block h1
      refine ⟨gp, gi, o, cap, e1, hp.keep (fun g ob hg ho => (ba.block g (by omega)).trans ho), fun hc => ?_, .inl (.inr ⟨b1, lgp⟩), .inl (.inr ⟨b2, lgi⟩)⟩
      have := ((h.rc k hk).1.lt gi hc).2
      omega
/-- What the region that takes a payload up reads. -/
def CmS (u : World) (bx gp gi o cap c0 m : Nat) : Prop := u.cell? ⟨bx, 0, none⟩ = some (.slice (some ⟨gp, 0, none⟩) 1 c0) ∧ u.cell? ⟨gp, 1, none⟩ = some (.slice (some ⟨gi, o, none⟩) 1 cap) ∧ u.cell? ⟨gi, o, none⟩ = some (.int .i64 (m : Int))
theorem cms_of {W : World} {bx gp gi o cap c0 m : Nat} {a1 : Option Addr} {l1 c1 : Nat} (hb : W.heap[bx]? = some (.cells #[.slice (some ⟨gp, 0, none⟩) 1 c0, .slice a1 l1 c1, .bool false] 50 (0, 0))) (hp : PayF W gp gi o cap m) : CmS W bx gp gi o cap c0 m :=
  ⟨by simp only [World.cell?, hb]; rfl, hp.cells.2.1, hp.cells.2.2⟩
/-- What the row's growth gives. -/
structure CmG (w0 : World) (T : Nat → Prop) (WB : World) (x : Nat) (V : LV) (e : Nat → En) (U : Nat → List (List UInt8)) (n c : Nat → Nat) (k bx gp gi o cap c0 m : Nat) (a1 : Option Addr) (l1 c1 : Nat) (ps : List (List UInt8)) (T5 : Nat → Prop) (w9 : World) : Prop where
  cell : w9.cell? ⟨x, 6 + k, none⟩ = some (V.c k) ∧ w9.frozen? ⟨x, 6 + k, none⟩ = false
  s9 : CmS w9 bx gp gi o cap c0 m
  s10 : ∀ v, CmS (w9.setCell ⟨x, 6 + k, none⟩ v) bx gp gi o cap c0 m
  fin : ∀ v, w9.ownsRow w0.heap.size 3 1 v (m + 1) (rngC m ++ [.int .i64 (m : Int)]) → (v.ownBlock = (V.c k).ownBlock ∨ v.ownBlock = some WB.heap.size) → CmI w0 (Nw T5 WB w9) (w9.setCell ⟨x, 6 + k, none⟩ v) x { V with c := upd V.c k v } e U n c k bx (some ⟨gp, 0, none⟩) 1 c0 a1 l1 c1 ps 1
theorem cm_more {wy WB : World} {k bx gp gi o cap c0 m : Nat} {a1 : Option Addr} {l1 c1 : Nat} {ps : List (List UInt8)} (hk : k < 2) (cm : CmI w0 T wy x V e U n c k bx (some ⟨gp, 0, none⟩) 1 c0 a1 l1 c1 ps 0) (hp : PayF wy gp gi o cap m) (hgi : (V.c k).ownBlock ≠ some gi) (hm : c k = m) (hb : Below wy.heap.size wy WB) :
    LnB w0 (Nw T wy WB) WB x V e U n c ∧ CmS WB bx gp gi o cap c0 m ∧ ∀ w9, WB.grownBy w9 (V.c k).ownBlock → CmG w0 T WB x V e U n c k bx gp gi o cap c0 m a1 l1 c1 ps (Nw T wy WB) w9 := by
  have hln := cm.ln
  rw [upd_zero] at hln
  have hl5 := hln.nw hb
  have hbx := (hb.block bx (lt_of_block cm.bxb)).trans cm.bxb
  have hp5 : PayF WB gp gi o cap m := hp.keep (fun g ob _ ho => (hb.block g (lt_of_block ho)).trans ho)
  have hrow := (hl5.rc k hk).1
  refine ⟨hl5, cms_of hbx hp5, fun w9 hg => ?_⟩
  have htyp : ∀ {g : Nat} {cur : Array Value} {t : TypeId}, WB.heap[g]? = some (.cells cur t (0, 0)) → t ≠ 3 → (V.c k).ownBlock ≠ some g := fun {g cur t} hgg htt e => by
    rcases hrow.2 with ⟨h0, _⟩ | ⟨g', cap, cur', e1, _, e3, _⟩
    · rw [h0] at e; cases e
    · rw [e1] at e
      simp only [Value.ownBlock, Option.some.injEq] at e
      subst e
      rw [hgg] at e3
      simp only [Option.some.injEq, Obj.cells.injEq] at e3
      exact htt e3.2.1
  have hgrow : ∀ {g : Nat} {ob : Obj}, WB.heap[g]? = some ob → (V.c k).ownBlock ≠ some g → w9.heap[g]? = some ob := fun {g ob} hgg hne => (hg.block g (lt_of_block hgg) (fun e => hne e.symm)).trans hgg
  have hblk := hgrow hl5.blk (htyp hl5.blk (by decide))
  have hbx9 := hgrow hbx (htyp hbx (by decide))
  have hp9 : PayF w9 gp gi o cap m := hp5.keep (fun g ob hgg ho => hgrow ho (by
    rcases hgg with rfl | rfl
    · obtain ⟨⟨cur, h1, _⟩, _⟩ := hp5
      exact htyp h1 (by decide)
    · exact hgi))
  have nx : ∀ {g : Nat} {cur : Array Value} {t : TypeId} {fz : Nat × Nat} (v : Value), w9.heap[g]? = some (.cells cur t fz) → t ≠ 63 → (w9.setCell ⟨x, 6 + k, none⟩ v).heap[g]? = some (.cells cur t fz) := fun {g cur t fz} v hgg ht => (set1_other (fun e => by
    rw [← e, hgg] at hblk
    simp only [Option.some.injEq, Obj.cells.injEq] at hblk
    exact ht hblk.2.1) v).trans hgg
  have hp10 : ∀ v, PayF (w9.setCell ⟨x, 6 + k, none⟩ v) gp gi o cap m := fun v => by
    obtain ⟨⟨cur, h1, h2, h3⟩, cur2, fz, h4, h5⟩ := hp9
    exact ⟨⟨cur, nx v h1 (by decide), h2, h3⟩, cur2, fz, nx v h4 (by decide), h5⟩
  refine ⟨⟨by simp only [World.cell?, hblk]; exact lnC_c V hk, by simp [World.frozen?, hblk]⟩, cms_of hbx9 hp9, fun v => cms_of (nx v hbx9 (by decide)) (hp10 v), fun v ho hv => ?_⟩
  have hl9 := hl5.addc hk hg (by rw [rngC_snoc, hm]; exact ho) hv
  refine ⟨hl9, nx v hbx9 (by decide), .inl (.inl cm.bxT), cm.tx.keep (fun g cur hT hgg => ⟨.inl (.inl hT), ?_⟩), fun h => by cases h⟩
  have h5 := (hb.block g (lt_of_block hgg)).trans hgg
  exact nx v (hgrow h5 (htyp h5 (by decide))) (by decide)
end
end Go.Proofs.Ytifmpcldiimdbaa
