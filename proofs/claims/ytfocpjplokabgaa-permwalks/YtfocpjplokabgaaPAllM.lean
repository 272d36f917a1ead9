/- A walk through all numbers of all levels, as paths of numbers: how far it is, and that it comes to an end. -/
import Derived.Test.YtfocpjplokabgaaPSteps2
namespace Go.Proofs.Ytfocpjplokabgaa
open Go.RowKit

/-- How many rows lie behind a walk. -/
def pos (o : Od) (L : List R3) (s : Wk) : Nat := atOf o L s s.p.length
def rank (s : Wk) : Nat := if s.bh = true then 3 + s.p.length else 3 - s.p.length
theorem pos_le (o : Od) (L : List R3) (s : Wk) : pos o L s ≤ L.length := by
  unfold pos atOf
  split
  · unfold endOf
    split
    · exact Nat.le_refl _
    · exact hi_le ..
  · exact lo_le ..
theorem pos_root (o : Od) (L : List R3) : pos o L ⟨[], false⟩ = 0 := by simp [pos, atOf, lo_nil]
theorem opened_pos {o : Od} {L : List R3} (hs : Strict o L) {s : Wk} (hok : WkOk o L s) (h : (wOpen o L s).2 = 0) : pos o L (wOpen o L s).1 = pos o L s ∧ rank (wOpen o L s).1 + 1 = rank s := by
  obtain ⟨p, bh⟩ := s
  unfold wOpen at *
  by_cases hc : p.length = 3 ∨ bh = true ∨ L = []
  · rw [if_pos hc] at h; simp at h
  · rw [if_neg hc]
    simp only [not_or, Bool.not_eq_true] at hc
    obtain ⟨h1, rfl, h3⟩ := hc
    have hlen : p.length ≤ 3 := hok.len
    have hlt : p.length < 3 := by omega
    have hh : Has o L p := hok.has hs rfl h3
    obtain ⟨r, hr, _⟩ := hh.row hs
    have e := open_lo hs hlt hh hr
    have eg : L.getD (lo o L p) default = r := by rw [List.getD, hr]; rfl
    simp only [eg]
    unfold pos
    rw [atOf_here, atOf_here, e.1]
    refine ⟨rfl, ?_⟩
    simp [rank]
    omega
theorem next_pos {o : Od} {L : List R3} (hs : Strict o L) {q : List Int} {x : Int} (hq : q.length < 3) (h : Has o L (q ++ [x])) : (wNext o L ⟨q ++ [x], false⟩).2 = 0 ∧ pos o L (wNext o L ⟨q ++ [x], false⟩).1 = hi o L (q ++ [x]) ∧ rank (wNext o L ⟨q ++ [x], false⟩).1 ≤ q.length + 4 := by
  have e : wNext o L ⟨q ++ [x], false⟩ = (onTo o L (q ++ [x]) (x + 1), 0) := by unfold wNext; rw [if_neg (by simp), lastN_snoc]
  obtain ⟨y, bh, e1, e2, _⟩ := next_wk hs hq h
  rw [e, e1]
  refine ⟨rfl, ?_, ?_⟩
  · unfold pos
    simp only [List.length_append, List.length_singleton]
    exact e2
  · cases bh <;> simp [rank] <;> omega
/-- Three numbers: one row. -/
theorem one_row {o : Od} (ho : o.ok) {L : List R3} (hs : Strict o L) {q : List Int} (hq : q.length = 3) (h : Has o L q) : ∃ r, L[lo o L q]? = some r ∧ key o r = q ∧ hi o L q = lo o L q + 1 := by
  have key3 : ∀ r, mt o q r = true → key o r = q := by
    intro r hr
    exact ((mt_iff.1 hr).eq_of_length (by rw [hq, key_len])).symm
  obtain ⟨r, hr, hm⟩ := h.row hs
  refine ⟨r, hr, key3 r hm, ?_⟩
  unfold Has at h
  rcases Nat.lt_or_ge (lo o L q + 1) (hi o L q) with h1 | h1
  · exfalso
    have hl := hi_le o L q
    have hlt : lo o L q + 1 < L.length := by omega
    have h2 := List.getElem?_eq_getElem hlt
    have h3 := (span hs q h2).2 ⟨by omega, h1⟩
    have h4 := hs.at (Nat.lt_succ_self _) hr h2
    have h5 : L[lo o L q + 1] = r := key_inj ho (by rw [key3 _ h3, key3 r hm])
    rw [h5] at h4
    exact lt_irrefl o r h4
  · omega
/-- Down again to a number that is there. -/
theorem reseek {o : Od} {L : List R3} (hs : Strict o L) {q : List Int} {x : Int} (hq : q.length < 3) (h : Has o L (q ++ [x])) : (wOpen o L ⟨q, false⟩).2 = 0 ∧ wSeek o L (wOpen o L ⟨q, false⟩).1 x = (⟨q ++ [x], false⟩, 0) := by
  have hu := h.up hs hq
  obtain ⟨r0, hr0, hm0⟩ := hu.row hs
  obtain ⟨r, hr, hm⟩ := h.row hs
  obtain ⟨m1, m2⟩ := (mt_snoc hq).1 hm
  have hL : L ≠ [] := by intro e; rw [e] at hr; simp at hr
  have eg : L.getD (lo o L q) default = r0 := by rw [List.getD, hr0]; rfl
  have e : wOpen o L ⟨q, false⟩ = (⟨q ++ [num o r0 q.length], false⟩, 0) := by
    unfold wOpen
    rw [if_neg (by simp only [not_or]; exact ⟨by omega, by simp, hL⟩)]
    simp only [eg]
  rw [e]
  refine ⟨rfl, ?_⟩
  have hin := inner hs hq h
  have hle : num o r0 q.length ≤ x := by
    rcases Nat.lt_or_ge (lo o L q) (lo o L (q ++ [x])) with h1 | h1
    · have := num_mono hq hm0 m1 (hs.at h1 hr0 hr)
      omega
    · have e2 : lo o L q = lo o L (q ++ [x]) := by omega
      rw [e2, hr] at hr0
      obtain rfl := Option.some.inj hr0
      omega
  unfold wSeek
  simp only
  rw [if_neg (by simp), lastN_snoc]
  by_cases hx : x ≤ num o r0 q.length
  · rw [if_pos hx]
    have e3 : num o r0 q.length = x := by omega
    rw [e3]
  · rw [if_neg hx]
    have hn : nextNum o L q x = some x := by
      unfold nextNum
      have hex : (L.find? (fun r => mt o q r && decide (x ≤ num o r q.length))).isSome = true := by
        rw [List.find?_isSome]
        exact ⟨r, List.mem_of_getElem? hr, by rw [m1, m2]; simp⟩
      obtain ⟨r', hr'⟩ := Option.isSome_iff_exists.1 hex
      rw [hr']
      rw [List.find?_eq_some_iff_getElem] at hr'
      obtain ⟨g1, i, gi, g2, g3⟩ := hr'
      simp only [Bool.and_eq_true, decide_eq_true_eq] at g1
      have hij : i ≤ lo o L (q ++ [x]) := by
        rcases Nat.lt_or_ge (lo o L (q ++ [x])) i with h1 | h1
        · have := g3 _ h1
          have hrg := (List.getElem?_eq_some_iff.1 hr).2
          rw [hrg, m1, m2] at this
          simp at this
        · exact h1
      have hri : L[i]? = some r' := by rw [List.getElem?_eq_getElem gi, g2]
      have hle2 : num o r' q.length ≤ x := by
        rcases Nat.lt_or_ge i (lo o L (q ++ [x])) with h1 | h1
        · have := num_mono hq g1.1 m1 (hs.at h1 hri hr)
          omega
        · have e2 : i = lo o L (q ++ [x]) := by omega
          rw [e2, hr] at hri
          obtain rfl := Option.some.inj hri
          omega
      have : num o r' q.length = x := by omega
      simp [this]
    unfold onTo
    rw [List.dropLast_concat, hn]

/-- What a round of the walk through all does: it goes down; it tells a row; it goes on above; it is through. -/
def Tells (o : Od) (L : List R3) (s : Wk) : Prop := ∃ k m n : Int, s = ⟨[k, m, n], false⟩ ∧ wOpen o L s = (s, 3)
def GoesOn (o : Od) (L : List R3) (s : Wk) : Prop := ∃ (q : List Int) (x y : Int), s = ⟨q ++ [x] ++ [y], true⟩ ∧ wOpen o L s = (s, 3) ∧ wKey s = (0, false)
def IsDone (o : Od) (L : List R3) (s : Wk) : Prop := wOpen o L s = (s, 3) ∧ wKey s = (0, false) ∧ (((wUp s).2 = 3 ∧ s.p = []) ∨ ((wUp s).2 = 0 ∧ (wUp s).1 = ⟨[], false⟩)) ∧ pos o L s = L.length
theorem turn_of {o : Od} {L : List R3} (hs : Strict o L) {s : Wk} (hok : WkOk o L s) : (wOpen o L s).2 = 0 ∨ Tells o L s ∨ GoesOn o L s ∨ IsDone o L s := by
  obtain ⟨p, bh⟩ := s
  by_cases hc : p.length = 3 ∨ bh = true ∨ L = []
  · have e : wOpen o L ⟨p, bh⟩ = (⟨p, bh⟩, 3) := by unfold wOpen; rw [if_pos hc]
    cases bh with
    | true =>
      have hk : wKey ⟨p, true⟩ = (0, false) := by unfold wKey; rw [if_pos (.inr rfl)]
      obtain ⟨h1, h2⟩ := hok.past rfl
      obtain ⟨q, y, rfl⟩ := snoc_of (p := p) h1
      by_cases hq : q = []
      · subst hq
        refine .inr (.inr (.inr ⟨e, hk, .inr ⟨by simp [wUp], by simp [wUp]⟩, ?_⟩))
        unfold pos
        rw [atOf_past]
        simp [endOf, hi_nil hs]
      · obtain ⟨q2, x, rfl⟩ := snoc_of hq
        exact .inr (.inr (.inl ⟨q2, x, y, rfl, e, hk⟩))
    | false =>
      by_cases hp : p = []
      · subst hp
        have hL : L = [] := by
          rcases hc with h | h | h
          · simp at h
          · cases h
          · exact h
        refine .inr (.inr (.inr ⟨e, by simp [wKey], .inl ⟨by simp [wUp], rfl⟩, ?_⟩))
        rw [pos_root, hL]; rfl
      · have hh : Has o L p := hok.at_ rfl hp
        have h3 : p.length = 3 := by
          rcases hc with h | h | h
          · exact h
          · cases h
          · rw [h] at hh; unfold Has at hh; have := hi_le o [] p; simp at this; omega
        obtain ⟨k, m, n, rfl⟩ : ∃ k m n, p = [k, m, n] := by
          match p, h3 with
          | [k, m, n], _ => exact ⟨k, m, n, rfl⟩
        exact .inr (.inl ⟨k, m, n, rfl, e⟩)
  · exact .inl (by unfold wOpen; rw [if_neg hc])
/-- Telling a row: the numbers on the way up, and down again. -/
theorem tell_up {o : Od} {L : List R3} (ho : o.ok) (hs : Strict o L) {k m n : Int} (hok : WkOk o L ⟨[k, m, n], false⟩) :
    ∃ r, L[pos o L ⟨[k, m, n], false⟩]? = some r ∧ key o r = [k, m, n] ∧ pos o L (wNext o L ⟨[k, m, n], false⟩).1 = pos o L ⟨[k, m, n], false⟩ + 1 ∧ rank (wNext o L ⟨[k, m, n], false⟩).1 ≤ 6 ∧ (wNext o L ⟨[k, m, n], false⟩).2 = 0 := by
  have hh : Has o L [k, m, n] := hok.at_ rfl (by simp)
  obtain ⟨r, h1, h2, h3⟩ := one_row ho hs rfl hh
  have hp : pos o L ⟨[k, m, n], false⟩ = lo o L [k, m, n] := by unfold pos; rw [atOf_here]
  obtain ⟨n1, n2, n3⟩ := next_pos hs (q := [k, m]) (x := n) (by simp) hh
  refine ⟨r, by rw [hp]; exact h1, h2, ?_, n3, n1⟩
  rw [hp, ← h3]
  exact n2
theorem tell_down {o : Od} {L : List R3} (hs : Strict o L) {k m n : Int} (hok : WkOk o L ⟨[k, m, n], false⟩) :
    ((wOpen o L ⟨[k], false⟩).2 = 0 ∧ wSeek o L (wOpen o L ⟨[k], false⟩).1 m = (⟨[k, m], false⟩, 0)) ∧ ((wOpen o L ⟨[k, m], false⟩).2 = 0 ∧ wSeek o L (wOpen o L ⟨[k, m], false⟩).1 n = (⟨[k, m, n], false⟩, 0)) := by
  have hh : Has o L ([k, m] ++ [n]) := hok.at_ rfl (by simp)
  have hh2 : Has o L ([k] ++ [m]) := hh.up hs (by simp)
  exact ⟨reseek hs (by simp) hh2, reseek hs (by simp) hh⟩
/-- Going on above. -/
theorem on_up {o : Od} {L : List R3} (hs : Strict o L) {q : List Int} {x y : Int} (hok : WkOk o L ⟨q ++ [x] ++ [y], true⟩) :
    wUp ⟨q ++ [x] ++ [y], true⟩ = (⟨q ++ [x], false⟩, 0) ∧ pos o L (wNext o L ⟨q ++ [x], false⟩).1 = pos o L ⟨q ++ [x] ++ [y], true⟩ ∧ rank (wNext o L ⟨q ++ [x], false⟩).1 + 1 ≤ rank ⟨q ++ [x] ++ [y], true⟩ := by
  have hlen := hok.len
  simp only [List.length_append, List.length_singleton] at hlen
  obtain ⟨_, hh⟩ := hok.past rfl
  rw [List.dropLast_concat] at hh
  obtain ⟨n1, n2, n3⟩ := next_pos hs (q := q) (x := x) (by omega) hh
  refine ⟨?_, ?_, ?_⟩
  · unfold wUp
    rw [if_neg (by simp), List.dropLast_concat]
  · rw [n2]
    unfold pos
    rw [atOf_past, endOf_snoc]
  · have : rank ⟨q ++ [x] ++ [y], true⟩ = 3 + (q.length + 2) := by simp [rank]
    omega
end Go.Proofs.Ytfocpjplokabgaa
