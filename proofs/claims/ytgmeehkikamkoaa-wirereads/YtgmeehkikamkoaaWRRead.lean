/- The note of a body, as the document's own definition reads it. -/
import Derived.Test.YtgmeehkikamkoaaWRShape
namespace Go.Proofs.Ytgmeehkikamkoaa
open Go.RowKit

theorem many_none_mono {α : Type} {p : List UInt8 → Option (α × List UInt8)} {l : List UInt8} {i : Nat} (h : many p i l = none) : ∀ j, i ≤ j → many p j l = none
  | 0, hj => by
    have : i = 0 := by omega
    rw [this] at h; exact h
  | j + 1, hj => by
    rcases Nat.lt_or_ge i (j + 1) with h2 | h2
    · rw [many, many_none_mono h j (by omega)]; rfl
    · have : i = j + 1 := by omega
      rw [← this]; exact h

/-- What is left of reading, from the texts on. -/
def readT (k : Int) (ns : List Int) (l : List UInt8) : Option NoteD :=
  (listQ l).bind fun ts => (numQ ts.2).bind fun m => if 4096 < m.1 then none else (many listQ m.1 m.2).bind fun rs =>
    if rs.2 = [] ∧ (NoteD.mk k ns ts.1 rs.1).numsOk ∧ (NoteD.mk k ns ts.1 rs.1).textsOk then some ⟨k, ns, ts.1, rs.1⟩ else none

/-- What the first numbers, read so far, tell of the whole. -/
def Phase (l : List UInt8) (xs : List Nat) (at_ : Nat) (want : Nat) : Prop :=
  (xs = [] ∧ at_ = 0 ∧ want = 2) ∨
  (∃ k, xs = [k] ∧ numQ l = some (k, l.drop at_) ∧ want = 2) ∨
  (∃ k c l1 l2 ns, xs = k :: c :: ns ∧ numQ l = some (k, l1) ∧ numQ l1 = some (c, l2) ∧ c ≤ 64 ∧ ns.length ≤ c ∧ want = 2 + c ∧ many numQ ns.length l2 = some (ns, l.drop at_))

theorem readP_none1 {l : List UInt8} (h : numQ l = none) : readP l = none := by unfold readP; rw [h]; rfl
theorem readP_none2 {l l1 : List UInt8} {k : Nat} (h : numQ l = some (k, l1)) (h2 : numQ l1 = none) : readP l = none := by
  unfold readP; rw [h]; simp only [Option.bind_some]; rw [h2]; rfl
theorem readP_many {l l1 l2 : List UInt8} {k c : Nat} (h : numQ l = some (k, l1)) (h2 : numQ l1 = some (c, l2)) (hc : 64 < c) : readP l = none := by
  unfold readP; rw [h]; simp only [Option.bind_some]; rw [h2]; simp only [Option.bind_some]; rw [if_pos hc]
theorem readP_none3 {l l1 l2 : List UInt8} {k c i : Nat} (h : numQ l = some (k, l1)) (h2 : numQ l1 = some (c, l2)) (hi : i ≤ c) (h3 : many numQ i l2 = none) : readP l = none := by
  unfold readP; rw [h]; simp only [Option.bind_some]; rw [h2]; simp only [Option.bind_some]
  split
  · rfl
  · rw [many_none_mono h3 c hi]; rfl
theorem readP_T {l l1 l2 l3 : List UInt8} {k c : Nat} {ns : List Nat} (h : numQ l = some (k, l1)) (h2 : numQ l1 = some (c, l2)) (hc : c ≤ 64) (h3 : many numQ c l2 = some (ns, l3)) : readP l = readT k (ns.map Int.ofNat) l3 := by
  unfold readP readT; rw [h]; simp only [Option.bind_some]; rw [h2]; simp only [Option.bind_some]; rw [if_neg (by omega), h3]; rfl

theorem phase_none {l : List UInt8} {xs : List Nat} {at_ want : Nat} (h : Phase l xs at_ want) (hlt : xs.length < want) (hn : numQ (l.drop at_) = none) : readP l = none := by
  rcases h with ⟨rfl, rfl, rfl⟩ | ⟨k, rfl, h1, rfl⟩ | ⟨k, c, l1, l2, ns, rfl, h1, h2, hc, hns, rfl, h3⟩
  · exact readP_none1 (by simpa using hn)
  · exact readP_none2 h1 hn
  · simp only [List.length_cons] at hlt
    refine readP_none3 (i := ns.length + 1) h1 h2 (by omega) ?_
    rw [many, h3]; simp only [Option.bind_some]; rw [hn]; rfl

theorem phase_step {l : List UInt8} {xs : List Nat} {at_ want x k : Nat} (h : Phase l xs at_ want) (hlt : xs.length < want) (hn : numQ (l.drop at_) = some (x, (l.drop at_).drop k)) :
    (xs.length + 1 ≠ 2 ∧ Phase l (xs ++ [x]) (at_ + k) want) ∨ (xs.length + 1 = 2 ∧ 64 < x ∧ readP l = none) ∨ (xs.length + 1 = 2 ∧ x ≤ 64 ∧ Phase l (xs ++ [x]) (at_ + k) (2 + x)) := by
  rw [List.drop_drop] at hn
  rcases h with ⟨rfl, rfl, rfl⟩ | ⟨k0, rfl, h1, rfl⟩ | ⟨k0, c, l1, l2, ns, rfl, h1, h2, hc, hns, rfl, h3⟩
  · left
    refine ⟨by simp, .inr (.inl ⟨x, rfl, ?_, rfl⟩)⟩
    rw [List.drop_zero] at hn; exact hn
  · right
    by_cases hx : 64 < x
    · exact .inl ⟨rfl, hx, readP_many h1 hn hx⟩
    · exact .inr ⟨rfl, by omega, .inr (.inr ⟨k0, x, _, _, [], rfl, h1, hn, by omega, Nat.zero_le _, rfl, rfl⟩)⟩
  · left
    simp only [List.length_cons] at hlt
    refine ⟨by simp, .inr (.inr ⟨k0, c, l1, l2, ns ++ [x], rfl, h1, h2, hc, by rw [List.length_append, List.length_singleton]; omega, rfl, ?_⟩)⟩
    rw [List.length_append, List.length_singleton, many, h3]; simp only [Option.bind_some]; rw [hn]; rfl

theorem phase_end {l : List UInt8} {xs : List Nat} {at_ want : Nat} (h : Phase l xs at_ want) (hge : ¬ xs.length < want) : ∃ k ns, ∃ c : Nat, xs = k :: c :: ns ∧ ns.length ≤ 64 ∧ readP l = readT k (ns.map Int.ofNat) (l.drop at_) := by
  rcases h with ⟨rfl, rfl, rfl⟩ | ⟨k, rfl, h1, rfl⟩ | ⟨k, c, l1, l2, ns, rfl, h1, h2, hc, hns, rfl, h3⟩
  · simp at hge
  · simp at hge
  · simp only [List.length_cons] at hge
    have e : ns.length = c := by omega
    rw [e] at h3
    exact ⟨k, ns, c, rfl, by omega, readP_T h1 h2 hc h3⟩
theorem phase_le {l : List UInt8} {xs : List Nat} {at_ want : Nat} (h : Phase l xs at_ want) : xs.length ≤ 66 ∧ want ≤ 66 := by
  rcases h with ⟨rfl, rfl, rfl⟩ | ⟨k, rfl, h1, rfl⟩ | ⟨k, c, l1, l2, ns, rfl, h1, h2, hc, hns, rfl, h3⟩
  · simp
  · simp
  · simp only [List.length_cons]; omega

theorem numQ_of {l : List UInt8} {x k : Nat} (h : numP l = (x, k, 0)) : numQ l = some (x, l.drop k) := by unfold numQ; rw [h]; simp
theorem numQ_bad {l : List UInt8} {x k e : Nat} (h : numP l = (x, k, e)) (he : e ≠ 0) : numQ l = none := by unfold numQ; rw [h]; exact if_neg he
theorem listQ_of {l : List UInt8} {x : List (List UInt8)} {k : Nat} (h : listP l = (x, k, 0)) : listQ l = some (x, l.drop k) := by unfold listQ; rw [h]; simp
theorem listQ_bad {l : List UInt8} {x : List (List UInt8)} {k e : Nat} (h : listP l = (x, k, e)) (he : e ≠ 0) : listQ l = none := by unfold listQ; rw [h]; exact if_neg he

theorem readT_none1 {k : Int} {ns : List Int} {l : List UInt8} (h : listQ l = none) : readT k ns l = none := by unfold readT; rw [h]; rfl
theorem readT_none2 {k : Int} {ns : List Int} {l l4 : List UInt8} {ts : List (List UInt8)} (h : listQ l = some (ts, l4)) (h2 : numQ l4 = none) : readT k ns l = none := by
  unfold readT; rw [h]; simp only [Option.bind_some]; rw [h2]; rfl
theorem readT_many {k : Int} {ns : List Int} {l l4 l5 : List UInt8} {ts : List (List UInt8)} {m : Nat} (h : listQ l = some (ts, l4)) (h2 : numQ l4 = some (m, l5)) (hm : 4096 < m) : readT k ns l = none := by
  unfold readT; rw [h]; simp only [Option.bind_some]; rw [h2]; simp only [Option.bind_some]; rw [if_pos hm]
theorem readT_none3 {k : Int} {ns : List Int} {l l4 l5 : List UInt8} {ts : List (List UInt8)} {m i : Nat} (h : listQ l = some (ts, l4)) (h2 : numQ l4 = some (m, l5)) (hi : i ≤ m) (h3 : many listQ i l5 = none) : readT k ns l = none := by
  unfold readT; rw [h]; simp only [Option.bind_some]; rw [h2]; simp only [Option.bind_some]
  split
  · rfl
  · rw [many_none_mono h3 m hi]; rfl
theorem readT_end {k : Int} {ns : List Int} {l l4 l5 l6 : List UInt8} {ts : List (List UInt8)} {m : Nat} {rs : List (List (List UInt8))} (h : listQ l = some (ts, l4)) (h2 : numQ l4 = some (m, l5)) (hm : m ≤ 4096) (h3 : many listQ m l5 = some (rs, l6)) :
    readT k ns l = if l6 = [] ∧ (NoteD.mk k ns ts rs).shaped then some ⟨k, ns, ts, rs⟩ else none := by
  unfold readT; rw [h]; simp only [Option.bind_some]; rw [h2]; simp only [Option.bind_some]; rw [if_neg (by omega), h3]; rfl
end Go.Proofs.Ytgmeehkikamkoaa
