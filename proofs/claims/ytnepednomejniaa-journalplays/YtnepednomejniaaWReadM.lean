/- What the program's way of reading a body comes to; what is in memory while it reads. -/
import Derived.Test.YtnepednomejniaaWTake
import Derived.Deep.AppendLies
namespace Go.Proofs.Ytnepednomejniaa
open Go.RowKit

def numsS : Nat → St → List Nat × St
  | 0, s => ([], s)
  | i + 1, s => ((numsS i s).1 ++ [(numP (numsS i s).2.b).1], (numsS i s).2.num)
def rowsS : Nat → St → List (List (List UInt8)) × St
  | 0, s => ([], s)
  | i + 1, s => ((rowsS i s).1 ++ [(listP (rowsS i s).2.b).1], (rowsS i s).2.list)

theorem numsS_len (i : Nat) (s : St) : (numsS i s).1.length = i := by
  induction i with
  | zero => rfl
  | succ i ih => simp [numsS, ih]
theorem rowsS_len (i : Nat) (s : St) : (rowsS i s).1.length = i := by
  induction i with
  | zero => rfl
  | succ i ih => simp [rowsS, ih]
theorem rowsS_sane (i : Nat) (s : St) : ∀ r ∈ (rowsS i s).1, r.length ≤ 4096 := by
  induction i with
  | zero => simp [rowsS]
  | succ i ih =>
    intro r hr
    simp only [rowsS, List.mem_append, List.mem_singleton] at hr
    rcases hr with hr | rfl
    · exact ih r hr
    · exact listP_len _

theorem take_dead (s : St) (k e : Nat) (h : s.ok = false) : (s.take k e).ok = false := by
  unfold St.take; split
  · exact h
  · rfl
theorem num_none {s : St} (h : numQ s.b = none) : s.num = ⟨[], false⟩ := by
  unfold numQ at h
  split at h
  · simp at h
  · rename_i h0; exact if_neg h0
theorem num_some {s : St} {v : Nat} {r : List UInt8} (h : numQ s.b = some (v, r)) : (numP s.b).1 = v ∧ s.num = ⟨r, s.ok⟩ := by
  unfold numQ at h
  split at h
  · rename_i h0
    simp only [Option.some.injEq, Prod.mk.injEq] at h
    refine ⟨h.1, ?_⟩
    unfold St.num St.take
    rw [if_pos h0, h.2]
  · simp at h
theorem list_none {s : St} (h : listQ s.b = none) : s.list = ⟨[], false⟩ := by
  unfold listQ at h
  split at h
  · simp at h
  · rename_i h0; exact if_neg h0
theorem list_some {s : St} {v : List (List UInt8)} {r : List UInt8} (h : listQ s.b = some (v, r)) : (listP s.b).1 = v ∧ s.list = ⟨r, s.ok⟩ := by
  unfold listQ at h
  split at h
  · rename_i h0
    simp only [Option.some.injEq, Prod.mk.injEq] at h
    refine ⟨h.1, ?_⟩
    unfold St.list St.take
    rw [if_pos h0, h.2]
  · simp at h
theorem count_dead (s : St) (m : Nat) (h : s.ok = false) : (s.count m).2.ok = false := by
  unfold St.count; split
  · rfl
  · exact take_dead s _ _ h
theorem numsS_dead (i : Nat) (s : St) (h : s.ok = false) : (numsS i s).2.ok = false := by
  induction i with
  | zero => exact h
  | succ i ih => exact take_dead _ _ _ ih
theorem rowsS_dead (i : Nat) (s : St) (h : s.ok = false) : (rowsS i s).2.ok = false := by
  induction i with
  | zero => exact h
  | succ i ih => exact take_dead _ _ _ ih
theorem numsS_none (i : Nat) (s : St) (h : many numQ i s.b = none) : (numsS i s).2.ok = false ∧ (∀ xs r, many numQ i s.b = some (xs, r) → False) := by
  refine ⟨?_, fun xs r h2 => by rw [h] at h2; simp at h2⟩
  induction i with
  | zero => simp [many] at h
  | succ i ih =>
    have key : ∀ i, (∀ xs r, many numQ i s.b = some (xs, r) → numsS i s = (xs, ⟨r, s.ok⟩)) := by
      intro i
      induction i with
      | zero => intro xs r h; simp only [many, Option.some.injEq, Prod.mk.injEq] at h; obtain ⟨rfl, rfl⟩ := h; rfl
      | succ i ih =>
        intro xs r h
        simp only [many, Option.bind_eq_some_iff] at h
        obtain ⟨⟨ys, q⟩, h1, ⟨x, r2⟩, h2, h3⟩ := h
        simp only [Option.some.injEq, Prod.mk.injEq] at h2 h3
        obtain ⟨rfl, rfl⟩ := h3
        have e := ih ys q h1
        obtain ⟨a1, a2⟩ := num_some (s := ⟨q, s.ok⟩) h2
        simp only [numsS, e, a1, a2]
    cases hm : many numQ i s.b with
    | none => exact take_dead _ _ _ (ih hm)
    | some q =>
      obtain ⟨ys, q⟩ := q
      have e := key i ys q hm
      simp only [many, hm, Option.bind_some] at h
      have h2 : numQ q = none := by
        cases hq : numQ q with
        | none => rfl
        | some z => rw [hq] at h; simp at h
      simp only [numsS, e]
      rw [num_none (s := ⟨q, s.ok⟩) h2]
theorem numsS_some (i : Nat) (s : St) : ∀ xs r, many numQ i s.b = some (xs, r) → numsS i s = (xs, ⟨r, s.ok⟩) := by
  induction i with
  | zero => intro xs r h; simp only [many, Option.some.injEq, Prod.mk.injEq] at h; obtain ⟨rfl, rfl⟩ := h; rfl
  | succ i ih =>
    intro xs r h
    simp only [many, Option.bind_eq_some_iff] at h
    obtain ⟨⟨ys, q⟩, h1, ⟨x, r2⟩, h2, h3⟩ := h
    simp only [Option.some.injEq, Prod.mk.injEq] at h2 h3
    obtain ⟨rfl, rfl⟩ := h3
    have e := ih ys q h1
    obtain ⟨a1, a2⟩ := num_some (s := ⟨q, s.ok⟩) h2
    simp only [numsS, e, a1, a2]
theorem rowsS_some (i : Nat) (s : St) : ∀ xs r, many listQ i s.b = some (xs, r) → rowsS i s = (xs, ⟨r, s.ok⟩) := by
  induction i with
  | zero => intro xs r h; simp only [many, Option.some.injEq, Prod.mk.injEq] at h; obtain ⟨rfl, rfl⟩ := h; rfl
  | succ i ih =>
    intro xs r h
    simp only [many, Option.bind_eq_some_iff] at h
    obtain ⟨⟨ys, q⟩, h1, ⟨x, r2⟩, h2, h3⟩ := h
    simp only [Option.some.injEq, Prod.mk.injEq] at h2 h3
    obtain ⟨rfl, rfl⟩ := h3
    have e := ih ys q h1
    obtain ⟨a1, a2⟩ := list_some (s := ⟨q, s.ok⟩) h2
    simp only [rowsS, e, a1, a2]
theorem rowsS_none (i : Nat) (s : St) (h : many listQ i s.b = none) : (rowsS i s).2.ok = false := by
  induction i with
  | zero => simp [many] at h
  | succ i ih =>
    cases hm : many listQ i s.b with
    | none => exact take_dead _ _ _ (ih hm)
    | some q =>
      obtain ⟨ys, q⟩ := q
      have e := rowsS_some i s ys q hm
      simp only [many, hm, Option.bind_some] at h
      have h2 : listQ q = none := by
        cases hq : listQ q with
        | none => rfl
        | some z => rw [hq] at h; simp at h
      simp only [rowsS, e]
      rw [list_none (s := ⟨q, s.ok⟩) h2]

/-- The states of the reading. -/
def rd1 (l : List UInt8) : St := (St.mk l true).num
def rd2 (l : List UInt8) : Nat × St := (rd1 l).count 64
def rd3 (l : List UInt8) : List Nat × St := numsS (rd2 l).1 (rd2 l).2
def rd4 (l : List UInt8) : St := (rd3 l).2.list
def rd5 (l : List UInt8) : Nat × St := (rd4 l).count 4096
def rd6 (l : List UInt8) : List (List (List UInt8)) × St := rowsS (rd5 l).1 (rd5 l).2
def rdNote (l : List UInt8) : NoteD := ⟨(numP l).1, (rd3 l).1.map Int.ofNat, (listP (rd3 l).2.b).1, (rd6 l).1⟩
def rdOk (l : List UInt8) : Prop := (rd6 l).2.ok = true ∧ (rd6 l).2.b = [] ∧ (rdNote l).numsOk ∧ (rdNote l).textsFit

theorem rd_sane (l : List UInt8) : (rdNote l).sane := by
  refine ⟨Nat.le_trans (listP_len _) (by decide), fun r hr => Nat.le_trans (rowsS_sane _ _ r hr) (by decide)⟩

theorem count_over {s : St} {m v : Nat} {r : List UInt8} (h : numQ s.b = some (v, r)) (hv : m < v) : (s.count m).2.ok = false := by
  obtain ⟨a1, _⟩ := num_some h
  unfold St.count
  rw [a1, if_pos hv]
theorem count_fits {s : St} {m v : Nat} {r : List UInt8} (h : numQ s.b = some (v, r)) (hv : ¬ m < v) : s.count m = (v, ⟨r, s.ok⟩) := by
  obtain ⟨a1, a2⟩ := num_some h
  unfold St.count
  rw [a1, a2, if_neg hv]
theorem count_none {s : St} {m : Nat} (h : numQ s.b = none) : (s.count m).2.ok = false := by
  unfold St.count
  split
  · rfl
  · rw [num_none h]

theorem rd_read (l : List UInt8) (hl : l.length ≤ 1048576) : (rdOk l ∧ readP l = some (rdNote l)) ∨ (¬ rdOk l ∧ readP l = none) := by
  have dead6 : ∀ s : St, s = rd4 l → s.ok = false → ¬ rdOk l := by
    intro s h1 h2 h
    subst h1
    have := rowsS_dead (rd5 l).1 (rd5 l).2 (count_dead (rd4 l) 4096 h2)
    have h3 := h.1
    rw [rd6, this] at h3
    cases h3
  have dead5 : (rd5 l).2.ok = false → ¬ rdOk l := by
    intro h2 h
    have := rowsS_dead (rd5 l).1 (rd5 l).2 h2
    have h3 := h.1
    rw [rd6, this] at h3
    cases h3
  have dead3 : (rd3 l).2.ok = false → ¬ rdOk l := fun h => dead6 _ rfl (take_dead _ _ _ h)
  have dead2 : (rd2 l).2.ok = false → ¬ rdOk l := fun h => dead3 (numsS_dead _ _ h)
  have dead1 : (rd1 l).ok = false → ¬ rdOk l := fun h => dead2 (count_dead _ _ h)
  unfold readP
  cases h1 : numQ l with
  | none => exact .inr ⟨dead1 (by rw [rd1, num_none (s := ⟨l, true⟩) h1]), rfl⟩
  | some q1 =>
    obtain ⟨k, l1⟩ := q1
    obtain ⟨a1, e1⟩ := num_some (s := ⟨l, true⟩) h1
    rw [← rd1] at e1
    simp only [Option.bind_some]
    cases h2 : numQ l1 with
    | none => exact .inr ⟨dead2 (by rw [rd2, e1]; exact count_none (s := ⟨l1, true⟩) h2), rfl⟩
    | some q2 =>
      obtain ⟨c, l2⟩ := q2
      simp only [Option.bind_some]
      by_cases hc : 64 < c
      · rw [if_pos hc]
        exact .inr ⟨dead2 (by rw [rd2, e1]; exact count_over (s := ⟨l1, true⟩) h2 hc), rfl⟩
      · rw [if_neg hc]
        have e2 : rd2 l = (c, ⟨l2, true⟩) := by rw [rd2, e1]; exact count_fits (s := ⟨l1, true⟩) h2 hc
        cases h3 : many numQ c l2 with
        | none => exact .inr ⟨dead3 (by rw [rd3, e2]; exact (numsS_none c ⟨l2, true⟩ h3).1), rfl⟩
        | some q3 =>
          obtain ⟨ns, l3⟩ := q3
          have e3 : rd3 l = (ns, ⟨l3, true⟩) := by rw [rd3, e2]; exact numsS_some c ⟨l2, true⟩ ns l3 h3
          simp only [Option.bind_some]
          cases h4 : listQ l3 with
          | none => exact .inr ⟨dead6 _ rfl (by rw [rd4, e3, list_none (s := ⟨l3, true⟩) h4]), rfl⟩
          | some q4 =>
            obtain ⟨ts, l4⟩ := q4
            obtain ⟨a4, b4⟩ := list_some (s := ⟨l3, true⟩) h4
            have e4 : rd4 l = ⟨l4, true⟩ := by rw [rd4, e3]; exact b4
            simp only [Option.bind_some]
            cases h5 : numQ l4 with
            | none => exact .inr ⟨dead5 (by rw [rd5, e4]; exact count_none (s := ⟨l4, true⟩) h5), rfl⟩
            | some q5 =>
              obtain ⟨m, l5⟩ := q5
              simp only [Option.bind_some]
              by_cases hm : 4096 < m
              · rw [if_pos hm]
                exact .inr ⟨dead5 (by rw [rd5, e4]; exact count_over (s := ⟨l4, true⟩) h5 hm), rfl⟩
              · rw [if_neg hm]
                have e5 : rd5 l = (m, ⟨l5, true⟩) := by rw [rd5, e4]; exact count_fits (s := ⟨l4, true⟩) h5 hm
                cases h6 : many listQ m l5 with
                | none =>
                  refine .inr ⟨fun h => ?_, rfl⟩
                  have h7 := h.1
                  rw [rd6, e5, rowsS_none m ⟨l5, true⟩ h6] at h7
                  cases h7
                | some q6 =>
                  obtain ⟨rs, l6⟩ := q6
                  have e6 : rd6 l = (rs, ⟨l6, true⟩) := by rw [rd6, e5]; exact rowsS_some m ⟨l5, true⟩ rs l6 h6
                  have eN : rdNote l = ⟨(k : Int), ns.map Int.ofNat, ts, rs⟩ := by
                    rw [rdNote, e3, e6]; simp only; rw [a4, a1]
                  simp only [Option.bind_some]
                  by_cases hg : l6 = [] ∧ (NoteD.mk k (ns.map Int.ofNat) ts rs).numsOk ∧ (NoteD.mk k (ns.map Int.ofNat) ts rs).textsOk
                  · rw [if_pos hg]
                    have hread : readP l = some ⟨(k : Int), ns.map Int.ofNat, ts, rs⟩ := by
                      unfold readP
                      rw [h1]; simp only [Option.bind_some]; rw [h2]; simp only [Option.bind_some]; rw [if_neg hc, h3]; simp only [Option.bind_some]
                      rw [h4]; simp only [Option.bind_some]; rw [h5]; simp only [Option.bind_some]; rw [if_neg hm, h6]; simp only [Option.bind_some]
                      rw [if_pos hg]
                    have hb := (readP_sound hread).1
                    have hsz := size_le_body ⟨(k : Int), ns.map Int.ofNat, ts, rs⟩
                    rw [← hb] at hsz
                    refine .inl ⟨⟨by rw [e6], by rw [e6]; exact hg.1, by rw [eN]; exact hg.2.1, by rw [eN]; exact ⟨hg.2.2, Nat.le_trans hsz hl⟩⟩, by rw [eN]⟩
                  · rw [if_neg hg]
                    refine .inr ⟨fun h => hg ?_, rfl⟩
                    obtain ⟨_, g2, g3, g4⟩ := h
                    rw [e6] at g2
                    rw [eN] at g3 g4
                    exact ⟨g2, g3, g4.1⟩
end Go.Proofs.Ytnepednomejniaa
