/- What is in memory while the document's own definition reads a body. -/
import Derived.Test.YtgmeehkikamkoaaWRRead
namespace Go.Proofs.Ytgmeehkikamkoaa
open Go.RowKit

/-- What holds behind the numbers: the result's variable (block b), the note's (b + 1), its parts in blocks from b + 2 on. -/
structure QInv (b : Nat) (w0 w : World) (kind : Int) (vn vt vr : Value) (nums : List Int) (texts : List (List UInt8)) (rows : List (List (List UInt8))) : Prop where
  res : w.heap[b]? = some (.cells #[.int .i64 0, .slice none 0 0, .slice none 0 0, .slice none 0 0] 26 (0, 0))
  nb : w.heap[b + 1]? = some (.cells #[.int .i64 kind, vn, vt, vr] 26 (0, 0))
  on : RowIn w (b + 2) 3 vn (intCs nums)
  ot : w.ownsRow (b + 2) 9 1 vt texts.length (strCs texts)
  orr : RowsOwn w (b + 2) vr rows
  bel : Below b w0 w

section
variable {b : Nat} {w0 w w' : World} {kind : Int} {vn vt vr : Value} {nums : List Int} {texts : List (List UInt8)} {rows : List (List (List UInt8))}

theorem QInv.below (h : QInv b w0 w kind vn vt vr nums texts rows) (hb : Below w.heap.size w w') : QInv b w0 w' kind vn vt vr nums texts rows := by
  obtain ⟨h1, h2, h3, h4, h5, h6⟩ := h
  exact ⟨(hb.block _ (lt_of_block h1)).trans h1, (hb.block _ (lt_of_block h2)).trans h2, h3.kept (fun g cur fz _ hg => (hb.block g (lt_of_block hg)).trans hg), ownsRow_below h4 hb, rowsOwn_below h5 hb, h6.trans (hb.mono (by have := lt_of_block h2; omega))⟩
theorem QInv.setTexts (h : QInv b w0 w kind vn vt vr nums texts rows) {v : Value} {ts : List (List UInt8)} (hv : w.ownsRow (b + 2) 9 1 v ts.length (strCs ts)) : QInv b w0 (w.setCell ⟨b + 1, 2, none⟩ v) kind vn v vr nums ts rows := by
  obtain ⟨h1, h2, h3, h4, h5, h6⟩ := h
  exact ⟨(Below.heap_setCell w ⟨b + 1, 2, none⟩ _ _ (by simp only; omega)).trans h1, four_set2 h2, h3.kept (fun g cur fz hB hg => (Below.heap_setCell w ⟨b + 1, 2, none⟩ v g (by simp only; omega)).trans hg), owns_set hv (by omega), rowsOwn_set h5 (by omega), h6.setCell (by simp only; omega) _⟩
theorem RowIn.grown {B B' m : Nat} {e e' : TypeId} {u v : Value} {size : Nat} {xs ys : List Value} (h : RowIn w B e v xs) (hu : w.ownsRow B' e' size u m ys) (hg : w.grownBy w' u.ownBlock) (hne : e ≠ e') : RowIn w' B e v xs :=
  h.kept (fun g cur fz _ hg2 => (hg.block g (lt_of_block hg2) (by
    rcases hu.2 with ⟨rfl, _⟩ | ⟨g', cap', cur', rfl, f2, f3, f4⟩
    · simp [Value.ownBlock]
    · simp only [Value.ownBlock, ne_eq, Option.some.injEq]
      intro hgg
      subst hgg
      rw [hg2] at f3
      simp only [Option.some.injEq, Obj.cells.injEq] at f3
      exact hne f3.2.1)).trans hg2)
/-- A row more. -/
theorem QInv.addRow (h : QInv b w0 w kind vn vt vr nums texts rows) {vs : List Value} (h6 : w.ownsRow (b + 2) 23 1 vr rows.length vs) (hl : vs.length = rows.length)
    (h8 : ∀ (j : Nat) x r, vs[j]? = some x → rows[j]? = some r → w.ownsRow (b + 2) 9 1 x r.length (strCs r)) {v x : Value} {l : List (List UInt8)} (hx : w.ownsRow (b + 2) 9 1 x l.length (strCs l))
    (hg : w.grownBy w' vr.ownBlock) (hv : w'.ownsRow (b + 2) 23 1 v (rows.length + 1) (vs ++ [x])) :
    QInv b w0 (w'.setCell ⟨b + 1, 3, none⟩ v) kind vn vt v nums texts (rows ++ [l]) := by
  obtain ⟨h1, h2, h3, h4, _, h9⟩ := h
  have low : ∀ {k o}, k < b + 2 → w.heap[k]? = some o → w'.heap[k]? = some o := fun hk ho => grown_low h6 hg hk ho
  have hrows : RowsOwn w' (b + 2) v (rows ++ [l]) := by
    refine ⟨vs ++ [x], by simpa using hv, by simp [hl], ?_⟩
    intro j y r hy hr
    rcases Nat.lt_or_ge j vs.length with hj | hj
    · rw [List.getElem?_append_left hj] at hy
      rw [List.getElem?_append_left (by omega)] at hr
      exact owns_other (h8 j y r hy hr) h6 hg (by decide)
    · have hj2 : j = vs.length := by
        have := (List.getElem?_eq_some_iff.1 hy).1
        simp at this; omega
      subst hj2
      rw [List.getElem?_append_right (Nat.le_refl _)] at hy
      rw [List.getElem?_append_right (by omega)] at hr
      simp only [Nat.sub_self, hl] at hy hr
      simp at hy hr
      subst hy hr
      exact owns_other hx h6 hg (by decide)
  have h3' := h3.grown h6 hg (by decide)
  refine ⟨(Below.heap_setCell w' ⟨b + 1, 3, none⟩ _ _ (by simp only; omega)).trans (low (by omega) h1), four_set3 (low (by omega) h2), h3'.kept (fun g cur fz hB hg => (Below.heap_setCell w' ⟨b + 1, 3, none⟩ v g (by simp only; omega)).trans hg),
    owns_set (owns_other h4 h6 hg (by decide)) (by omega), rowsOwn_set hrows (by omega), (h9.grown hg (by have := lt_of_block h2; omega) (fun k hk => by have := own_ge h6 hk; omega)).setCell (by simp only; omega) _⟩
/-- The note handed back. -/
theorem QInv.done (h : QInv b w0 w kind vn vt vr nums texts rows) (u0 u1 u2 u3 : Value) (h1 : nums.length ≤ 64) (h2 : texts.length ≤ 4096) (h3 : rows.length ≤ 4096) (h4 : ∀ r ∈ rows, r.length ≤ 4096) :
    NoteOwn (set4 w b u0 u1 u2 u3) b (.agg #[.int .i64 kind, vn, vt, vr]) ⟨kind, nums, texts, rows⟩ ∧ Below b w0 (set4 w b u0 u1 u2 u3) := by
  have hno : NoteOwn w (b + 2) (.agg #[.int .i64 kind, vn, vt, vr]) ⟨kind, nums, texts, rows⟩ := ⟨vn, vt, vr, rfl, h.on, h.ot, h.orr, h1, h2, h3, h4⟩
  exact ⟨(set4_own hno (b := b) (by omega) u0 u1 u2 u3).base (by omega), set4_below h.bel (Nat.le_refl _) _ _ _ _⟩
theorem QInv.note (h : QInv b w0 w kind vn vt vr nums texts rows) (h1 : nums.length ≤ 64) (h2 : texts.length ≤ 4096) (h3 : rows.length ≤ 4096) (h4 : ∀ r ∈ rows, r.length ≤ 4096) :
    NoteAt w (.agg #[.int .i64 kind, vn, vt, vr]) ⟨kind, nums, texts, rows⟩ := NoteOwn.at_ (B := b + 2) ⟨vn, vt, vr, rfl, h.on, h.ot, h.orr, h1, h2, h3, h4⟩
end

/-- What 'nums[2:]' of the call's own row is. -/
theorem rowIn_tail {w : World} {B g cap : Nat} {k c : Int} {ns : List Int} (h : w.ownsRow B 3 1 (.slice (some ⟨g, 0, none⟩) (k :: c :: ns).length cap) (k :: c :: ns).length (intCs (k :: c :: ns))) (ad : Option Addr) (hc : cap ≠ 2 → ad = some ⟨g, 2, none⟩) (cp : Nat) :
    RowIn w B 3 (.slice ad ns.length cp) (intCs ns) := by
  rcases h.2 with ⟨h0, _⟩ | ⟨g', cap', cur, e1, e2, e3, e4, e5, e6, e7⟩
  · simp at h0
  · simp only [Value.slice.injEq, Option.some.injEq, Addr.mk.injEq, and_true, true_and] at e1
    obtain ⟨rfl, rfl⟩ := e1
    by_cases hn : ns = []
    · subst hn
      exact .inl ⟨ad, cp, rfl, rfl⟩
    · have hp : 0 < ns.length := List.length_pos_iff.2 hn
      have hcap : cap ≠ 2 := by simp only [List.length_cons] at e4; omega
      rw [hc hcap]
      refine .inr ⟨g, 2, cp, cur, (0, 0), by rw [intCs_len], e2, e3, fun j x hx => ?_⟩
      have hx2 : (intCs (k :: c :: ns))[2 + j]? = some x := by
        rw [show 2 + j = j + 2 by omega]; exact hx
      rw [← e7, List.getElem?_take] at hx2
      split at hx2
      · simpa using hx2
      · simp at hx2
end Go.Proofs.Ytgmeehkikamkoaa
