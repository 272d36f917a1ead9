/- slices.Compact of rows. -/
import Derived.Test.YtfocpjplokabgaaPRows
import Derived.Laws.StructEq
namespace Go.Proofs.Ytfocpjplokabgaa
open Go.RowKit Go.Sort Go.Lib Go.Shelf

/-- Rows next to each other that are the same, once. -/
def ddStep (out : List R3) (r : R3) : List R3 := if out.getLast? = some r then out else out ++ [r]
def dd (l : List R3) : List R3 := l.foldl ddStep []
theorem dd_snoc (l : List R3) (r : R3) : dd (l ++ [r]) = ddStep (dd l) r := by simp [dd]
theorem ddStep_last (out : List R3) (r : R3) : (ddStep out r).getLast? = some r := by
  unfold ddStep
  by_cases h : out.getLast? = some r
  · rw [if_pos h, h]
  · rw [if_neg h]; simp
theorem take_snoc {l : List R3} {i : Nat} {r : R3} (h : l[i]? = some r) : l.take (i + 1) = l.take i ++ [r] := by
  rw [List.take_add_one, h]; rfl
theorem dd_last {l : List R3} {i : Nat} {r : R3} (h : l[i]? = some r) : (dd (l.take (i + 1))).getLast? = some r := by
  rw [take_snoc h, dd_snoc]
  exact ddStep_last _ _
theorem dd_same {l : List R3} {i : Nat} {r : R3} (h0 : l[i]? = some r) (h : l[i + 1]? = some r) : dd (l.take (i + 1 + 1)) = dd (l.take (i + 1)) := by
  rw [take_snoc h, dd_snoc, ddStep, if_pos (dd_last h0)]
theorem dd_other {l : List R3} {i : Nat} {r s : R3} (h0 : l[i]? = some r) (h : l[i + 1]? = some s) (hne : s ≠ r) : dd (l.take (i + 1 + 1)) = dd (l.take (i + 1)) ++ [s] := by
  rw [take_snoc h, dd_snoc, ddStep, if_neg (by rw [dd_last h0]; intro e; exact hne (Option.some.inj e).symm)]
theorem dd_len (l : List R3) (i : Nat) : (dd (l.take i)).length ≤ i := by
  induction i with
  | zero => simp [dd]
  | succ i ih =>
    cases h : l[i]? with
    | none =>
      have hl : l.length ≤ i := by simpa using h
      rw [List.take_of_length_le (by omega)]
      rw [List.take_of_length_le hl] at ih
      omega
    | some r =>
      rw [take_snoc h, dd_snoc, ddStep]
      split
      · omega
      · simp; omega
theorem dd_mem (l : List R3) (r : R3) : r ∈ dd l ↔ r ∈ l := by
  have key : ∀ i, i ≤ l.length → (r ∈ dd (l.take i) ↔ r ∈ l.take i) := by
    intro i
    induction i with
    | zero => intro _; simp [dd]
    | succ i ih =>
      intro hi
      have hg : l[i]? = some (l[i]'(by omega)) := List.getElem?_eq_getElem (by omega)
      rw [take_snoc hg, dd_snoc, ddStep]
      have ih := ih (by omega)
      split
      · rename_i hl
        rw [ih, List.mem_append, List.mem_singleton]
        constructor
        · exact .inl
        · rintro (h | h)
          · exact h
          · exact ih.1 (by rw [h]; exact List.mem_of_getLast? hl)
      · rw [List.mem_append, List.mem_append, ih]
  have := key l.length (Nat.le_refl _)
  rw [List.take_length] at this
  exact this
theorem rises_strict {o : Od} (ho : o.ok) {l : List R3} (h : Rises o l) : Strict o (dd l) := by
  have key : ∀ i, i ≤ l.length → Strict o (dd (l.take i)) := by
    intro i
    induction i with
    | zero => intro _; simp [dd, Strict]
    | succ i ih =>
      intro hi
      have hg : l[i]? = some (l[i]'(by omega)) := List.getElem?_eq_getElem (by omega)
      have ih := ih (by omega)
      rw [take_snoc hg, dd_snoc, ddStep]
      split
      · exact ih
      · rename_i hl
        refine List.pairwise_append.2 ⟨ih, List.pairwise_singleton _ _, fun x hx r hr => ?_⟩
        rw [List.mem_singleton] at hr
        subst hr
        have hx2 := (dd_mem _ _).1 hx
        obtain ⟨j, hj⟩ := List.getElem?_of_mem hx2
        have hji : j < i := by have := (List.getElem?_eq_some_iff.1 hj).1; rw [List.length_take] at this; omega
        rw [List.getElem?_take_of_lt hji] at hj
        have nlt : ∀ (a b : Nat) (x y : R3), a < b → l[a]? = some x → l[b]? = some y → ¬ lt o y x := by
          intro a b x y hab hx hy
          obtain ⟨a1, a2⟩ := List.getElem?_eq_some_iff.1 hx
          obtain ⟨b1, b2⟩ := List.getElem?_eq_some_iff.1 hy
          have := List.pairwise_iff_getElem.1 h a b a1 b1 hab
          rw [a2, b2] at this
          exact this
        rcases lt_cases ho x l[i] with h1 | h1 | h1
        · exact h1
        · exfalso
          subst h1
          obtain ⟨i', rfl⟩ : ∃ i', i = i' + 1 := ⟨i - 1, by omega⟩
          have hz : l[i']? = some (l[i']'(by omega)) := List.getElem?_eq_getElem (by omega)
          have hzl := dd_last hz
          rw [hzl] at hl
          have hne : l[i']'(by omega) ≠ l[i' + 1] := fun e => hl (by rw [e])
          have h2 := nlt i' (i' + 1) _ _ (by omega) hz hg
          have h3 : lt o (l[i']'(by omega)) l[i' + 1] := by
            rcases lt_cases ho (l[i']'(by omega)) l[i' + 1] with h4 | h4 | h4
            · exact h4
            · exact absurd h4 hne
            · exact absurd h4 h2
          rcases Nat.lt_or_ge j i' with h5 | h5
          · exact nlt j i' _ _ h5 hj hz h3
          · have : j = i' := by omega
            subst this
            rw [hz] at hj
            exact hne (Option.some.inj hj)
        · exact absurd h1 (nlt j i _ _ hji hj hg)
  have := key l.length (Nat.le_refl _)
  rw [List.take_length] at this
  exact this
theorem idx_sorted {o : Od} (ho : o.ok) (d : List R3) : IdxOf o d (dd (sortR o d)) :=
  ⟨rises_strict ho (sortR_rises ho d), fun r => by rw [dd_mem]; exact (sortR_perm o d).mem_iff⟩

set_option maxRecDepth 100000 in
theorem eqIn3 (x y : R3) (w : World) : (Op.equalIn 10000 23 (.agg #[.int .i64 x.a, .int .i64 x.b, .int .i64 x.c]) (.agg #[.int .i64 y.a, .int .i64 y.b, .int .i64 y.c])).run Try.prog w = .ok (decide (x = y)) w := by
  have u3 := Try.underlying3
  have a3 := Try.isAgg3
  have z3 := Try.sizeOf3
  rw [show (10000 : Nat) = 9999 + 1 from rfl, Op.equalIn]
  simp only [Sem.run_bind, run_underlying Try.underlying23, Result.andThen_ok]
  simp only [Std.Legacy.Range.forIn_eq_forIn_range', Std.Legacy.Range.size, Nat.sub_zero, Nat.add_sub_cancel, Nat.div_one, List.range'_succ, List.range'_zero, List.forIn_cons, List.forIn_nil]
  go_simp
  obtain ⟨a, b, c⟩ := x
  obtain ⟨a2, b2, c2⟩ := y
  by_cases h1 : a = a2 <;> by_cases h2 : b = b2 <;> by_cases h3 : c = c2 <;> simp [h1, h2, h3]
end Go.Proofs.Ytfocpjplokabgaa
