/- A walk's steps as paths of numbers; where they come to among the rows. -/
import Derived.Test.YtfocpjplokabgaaPMath
namespace Go.Proofs.Ytfocpjplokabgaa

/-- Some row begins so. -/
def Has (o : Od) (L : List R3) (q : List Int) : Prop := lo o L q < hi o L q
theorem Has.row {o : Od} {L : List R3} {q : List Int} (h : Has o L q) (hs : Strict o L) : ∃ r, L[lo o L q]? = some r ∧ mt o q r = true := by
  have h1 := hi_le o L q
  unfold Has at h
  have hl : lo o L q < L.length := by omega
  exact ⟨_, List.getElem?_eq_getElem hl, (span hs q (List.getElem?_eq_getElem hl)).2 ⟨Nat.le_refl _, h⟩⟩
theorem has_of {o : Od} {L : List R3} (hs : Strict o L) {q : List Int} {i : Nat} {r : R3} (hi' : L[i]? = some r) (h : mt o q r = true) : Has o L q := by
  have := (span hs q hi').1 h
  unfold Has
  omega
theorem has_nil {o : Od} {L : List R3} (hs : Strict o L) (h : L ≠ []) : Has o L [] := by
  unfold Has
  rw [lo_nil, hi_nil hs]
  exact List.length_pos_iff.2 h
theorem Has.up {o : Od} {L : List R3} (hs : Strict o L) {q : List Int} {x : Int} (h : Has o L (q ++ [x])) (hq : q.length < 3) : Has o L q := by
  obtain ⟨r, h1, h2⟩ := h.row hs
  exact has_of hs h1 ((mt_snoc hq).1 h2).1
theorem Has.ne {o : Od} {L : List R3} {q : List Int} (h : Has o L q) : L ≠ [] := by
  intro e; subst e
  unfold Has at h
  have := hi_le o [] q
  simp at this
  omega
/-- Where rows begin that begin so. -/
theorem lo_eq {o : Od} {L : List R3} (hs : Strict o L) {q : List Int} {j : Nat} {r : R3} (hj : L[j]? = some r) (h : mt o q r = true) (hn : ∀ i s, i < j → L[i]? = some s → mt o q s = false) : lo o L q = j := by
  have h1 := (span hs q hj).1 h
  rcases Nat.lt_or_ge (lo o L q) j with h2 | h2
  · have hl : lo o L q < L.length := by have := (List.getElem?_eq_some_iff.1 hj).1; omega
    have h3 := hn _ _ h2 (List.getElem?_eq_getElem hl)
    have h4 := (span hs q (List.getElem?_eq_getElem hl)).2 ⟨Nat.le_refl _, by omega⟩
    rw [h3] at h4; cases h4
  · omega
theorem inner {o : Od} {L : List R3} (hs : Strict o L) {q : List Int} {x : Int} (hq : q.length < 3) (h : Has o L (q ++ [x])) : lo o L q ≤ lo o L (q ++ [x]) ∧ hi o L (q ++ [x]) ≤ hi o L q := by
  obtain ⟨r, h1, h2⟩ := h.row hs
  have h3 := (span hs q h1).1 ((mt_snoc hq).1 h2).1
  refine ⟨h3.1, ?_⟩
  have h4 := hi_le o L (q ++ [x])
  unfold Has at h
  have hl : hi o L (q ++ [x]) - 1 < L.length := by omega
  have h5 := (span hs (q ++ [x]) (List.getElem?_eq_getElem hl)).2 ⟨by omega, by omega⟩
  have h6 := (span hs q (List.getElem?_eq_getElem hl)).1 ((mt_snoc hq).1 h5).1
  omega

/-- Behind all rows of a number. -/
theorem behind_hi {o : Od} {L : List R3} (hs : Strict o L) {q : List Int} {x : Int} (hq : q.length < 3) (h : Has o L (q ++ [x])) {j : Nat} (h1 : lo o L (q ++ [x]) ≤ j) (h2 : j ≤ hi o L q)
    (h3 : ∀ i r, lo o L (q ++ [x]) ≤ i → i < j → L[i]? = some r → num o r q.length ≤ x) (h4 : ∀ r, j < hi o L q → L[j]? = some r → x < num o r q.length) : j = hi o L (q ++ [x]) := by
  obtain ⟨i1, i2⟩ := inner hs hq h
  have hll := hi_le o L q
  unfold Has at h
  rcases Nat.lt_trichotomy j (hi o L (q ++ [x])) with h5 | h5 | h5
  · have hl : j < L.length := by omega
    have h6 := (span hs (q ++ [x]) (List.getElem?_eq_getElem hl)).2 ⟨h1, h5⟩
    have h7 := h4 _ (by omega) (List.getElem?_eq_getElem hl)
    have h8 := ((mt_snoc hq).1 h6).2
    omega
  · exact h5
  · have hl : hi o L (q ++ [x]) < L.length := by omega
    have h6 := h3 _ _ (by omega) h5 (List.getElem?_eq_getElem hl)
    have h7 := (span hs q (List.getElem?_eq_getElem hl)).2 ⟨by omega, by omega⟩
    have hl2 : lo o L (q ++ [x]) < L.length := by omega
    have h8 := (span hs (q ++ [x]) (List.getElem?_eq_getElem hl2)).2 ⟨Nat.le_refl _, h⟩
    have h9 := (mt_snoc hq).1 h8
    have h10 := num_mono hq h9.1 h7 (hs.at h (List.getElem?_eq_getElem hl2) (List.getElem?_eq_getElem hl))
    have h11 := (mt_snoc (x := x) hq).2 ⟨h7, by omega⟩
    have h12 := (span hs (q ++ [x]) (List.getElem?_eq_getElem hl)).1 h11
    omega

/-- Where a walk stands: the numbers from the root down, and whether it is behind the last. -/
structure Wk where
  p : List Int
  bh : Bool
/-- .. and it does. -/
structure WkOk (o : Od) (L : List R3) (s : Wk) : Prop where
  len : s.p.length ≤ 3
  at_ : s.bh = false → s.p ≠ [] → Has o L s.p
  past : s.bh = true → s.p ≠ [] ∧ Has o L s.p.dropLast
theorem wkOk_root (o : Od) (L : List R3) : WkOk o L ⟨[], false⟩ := ⟨by simp, fun _ h => absurd rfl h, fun h => by cases h⟩

/-- The first number below some numbers that is no less than one. -/
def nextNum (o : Od) (L : List R3) (q : List Int) (m : Int) : Option Int := (L.find? (fun r => mt o q r && decide (m ≤ num o r q.length))).map (fun r => num o r q.length)
def onTo (o : Od) (L : List R3) (p : List Int) (m : Int) : Wk :=
  match nextNum o L p.dropLast m with
  | some y => ⟨p.dropLast ++ [y], false⟩
  | none => ⟨p, true⟩
def lastN (p : List Int) : Int := p.getLastD 0
theorem lastN_snoc (q : List Int) (x : Int) : lastN (q ++ [x]) = x := by simp [lastN]
/-- What the calls do, and answer: 0, 3. -/
def wOpen (o : Od) (L : List R3) (s : Wk) : Wk × Nat :=
  if s.p.length = 3 ∨ s.bh = true ∨ L = [] then (s, 3) else (⟨s.p ++ [num o (L.getD (lo o L s.p) default) s.p.length], false⟩, 0)
def wUp (s : Wk) : Wk × Nat := if s.p = [] then (s, 3) else (⟨s.p.dropLast, false⟩, 0)
def wNext (o : Od) (L : List R3) (s : Wk) : Wk × Nat := if s.p = [] ∨ s.bh = true then (s, 3) else (onTo o L s.p (lastN s.p + 1), 0)
def wSeek (o : Od) (L : List R3) (s : Wk) (n : Int) : Wk × Nat := if s.p = [] ∨ s.bh = true then (s, 3) else if n ≤ lastN s.p then (s, 0) else (onTo o L s.p n, 0)
def wKey (s : Wk) : Int × Bool := if s.p = [] ∨ s.bh = true then (0, false) else (lastN s.p, true)

theorem snoc_of {p : List Int} (h : p ≠ []) : ∃ q x, p = q ++ [x] := ⟨p.dropLast, p.getLast h, (List.dropLast_concat_getLast h).symm⟩

/-- Where a walk goes on to. -/
theorem land {o : Od} {L : List R3} (hs : Strict o L) {q : List Int} {x : Int} (hq : q.length < 3) (h : Has o L (q ++ [x])) {m : Int} (hm : x < m) {j : Nat} (h1 : lo o L (q ++ [x]) ≤ j) (h2 : j ≤ hi o L q)
    (h3 : ∀ i r, lo o L (q ++ [x]) ≤ i → i < j → L[i]? = some r → num o r q.length < m) (h4 : ∀ r, j < hi o L q → L[j]? = some r → m ≤ num o r q.length) :
    (j = hi o L q ∧ onTo o L (q ++ [x]) m = ⟨q ++ [x], true⟩) ∨ (j < hi o L q ∧ ∃ y, m ≤ y ∧ onTo o L (q ++ [x]) m = ⟨q ++ [y], false⟩ ∧ lo o L (q ++ [y]) = j ∧ Has o L (q ++ [y])) := by
  have hll := hi_le o L q
  obtain ⟨i1, i2⟩ := inner hs hq h
  have hh := h
  unfold Has at hh
  have hl0 : lo o L (q ++ [x]) < L.length := by omega
  have hx := (mt_snoc hq).1 ((span hs (q ++ [x]) (List.getElem?_eq_getElem hl0)).2 ⟨Nat.le_refl _, hh⟩)
  -- no row ahead of j
  have hno : ∀ i r, i < j → L[i]? = some r → (mt o q r && decide (m ≤ num o r q.length)) = false := by
    intro i r hij hr
    cases hm1 : mt o q r with
    | false => rfl
    | true =>
      simp only [Bool.true_and, decide_eq_false_iff_not]
      rcases Nat.lt_or_ge i (lo o L (q ++ [x])) with h5 | h5
      · have := num_mono hq hm1 hx.1 (hs.at h5 hr (List.getElem?_eq_getElem hl0))
        omega
      · have := h3 i r h5 hij hr
        omega
  rcases Nat.lt_or_ge j (hi o L q) with h5 | h5
  · right
    refine ⟨h5, ?_⟩
    have hl : j < L.length := by omega
    have hj := List.getElem?_eq_getElem hl
    have hmq := (span hs q hj).2 ⟨by omega, h5⟩
    have hmn := h4 _ h5 hj
    have hf : L.find? (fun r => mt o q r && decide (m ≤ num o r q.length)) = some L[j] := by
      rw [List.find?_eq_some_iff_getElem]
      refine ⟨by rw [hmq]; simpa using hmn, j, hl, rfl, fun i hi' => ?_⟩
      rw [hno i _ hi' (List.getElem?_eq_getElem (by omega))]; rfl
    refine ⟨num o L[j] q.length, hmn, ?_, ?_, ?_⟩
    · unfold onTo nextNum
      rw [List.dropLast_concat, hf]; rfl
    · refine lo_eq hs hj ((mt_snoc hq).2 ⟨hmq, rfl⟩) (fun i s hi' hsx => ?_)
      cases hc : mt o (q ++ [num o L[j] q.length]) s with
      | false => rfl
      | true =>
        obtain ⟨c1, c2⟩ := (mt_snoc hq).1 hc
        have := hno i s hi' hsx
        rw [c1, c2] at this
        simp at this
        omega
    · exact has_of hs hj ((mt_snoc hq).2 ⟨hmq, rfl⟩)
  · left
    have e : j = hi o L q := by omega
    refine ⟨e, ?_⟩
    have hf : L.find? (fun r => mt o q r && decide (m ≤ num o r q.length)) = none := by
      rw [List.find?_eq_none]
      intro r hr
      obtain ⟨i, hi'⟩ := List.getElem?_of_mem hr
      rcases Nat.lt_or_ge i j with h6 | h6
      · rw [hno i r h6 hi']; simp
      · cases hc : mt o q r with
        | false => simp
        | true =>
          have := (span hs q hi').1 hc
          omega
    unfold onTo nextNum
    rw [List.dropLast_concat, hf]; rfl
/-- The first child. -/
theorem open_lo {o : Od} {L : List R3} (hs : Strict o L) {p : List Int} (hp : p.length < 3) (h : Has o L p) {r : R3} (hr : L[lo o L p]? = some r) : lo o L (p ++ [num o r p.length]) = lo o L p ∧ Has o L (p ++ [num o r p.length]) := by
  have hh := h
  unfold Has at hh
  have h1 := (span hs p hr).2 ⟨Nat.le_refl _, hh⟩
  have h2 := (mt_snoc hp).2 ⟨h1, rfl⟩
  refine ⟨lo_eq hs hr h2 (fun i s hi' hsx => ?_), has_of hs hr h2⟩
  cases hc : mt o (p ++ [num o r p.length]) s with
  | false => rfl
  | true =>
    have := (span hs p hsx).1 ((mt_snoc hp).1 hc).1
    omega
theorem WkOk.has {o : Od} {L : List R3} {s : Wk} (h : WkOk o L s) (hs : Strict o L) (hb : s.bh = false) (hL : L ≠ []) : Has o L s.p := by
  by_cases e : s.p = []
  · rw [e]; exact has_nil hs hL
  · exact h.at_ hb e

/-- The ranges of a walk. -/
def endOf (o : Od) (L : List R3) (p : List Int) (k : Nat) : Nat := if k = 0 then L.length else hi o L (p.take (k - 1))
def atOf (o : Od) (L : List R3) (s : Wk) (k : Nat) : Nat := if s.bh = true ∧ k = s.p.length then endOf o L s.p k else lo o L (s.p.take k)
theorem atOf_here {o : Od} {L : List R3} {p : List Int} : atOf o L ⟨p, false⟩ p.length = lo o L p := by simp [atOf]
theorem atOf_past {o : Od} {L : List R3} {p : List Int} : atOf o L ⟨p, true⟩ p.length = endOf o L p p.length := by simp [atOf]
theorem endOf_snoc {o : Od} {L : List R3} {q : List Int} {x : Int} : endOf o L (q ++ [x]) (q ++ [x]).length = hi o L q := by simp [endOf]
theorem atOf_lt {o : Od} {L : List R3} {s : Wk} {k : Nat} (hk : k < s.p.length) : atOf o L s k = lo o L (s.p.take k) := by
  unfold atOf; rw [if_neg (by omega)]
theorem ended_iff {o : Od} {L : List R3} {s : Wk} (h : WkOk o L s) (hs : Strict o L) : atOf o L s s.p.length = endOf o L s.p s.p.length ↔ (s.bh = true ∨ (s.p = [] ∧ L = [])) := by
  obtain ⟨p, bh⟩ := s
  cases bh with
  | true => simp [atOf]
  | false =>
    rw [atOf_here]
    by_cases e : p = []
    · subst e
      simp [endOf, lo_nil]
      exact eq_comm.trans (by rw [List.length_eq_zero_iff])
    · obtain ⟨q, x, rfl⟩ := snoc_of e
      have hh : Has o L (q ++ [x]) := h.at_ rfl e
      have hq : q.length < 3 := by have := h.len; simp at this; omega
      have := inner hs hq hh
      rw [endOf_snoc]
      unfold Has at hh
      simp
      omega

/-! The document's level. -/
def levStep (o : Od) (q : List Int) (out : List Int) (r : R3) : List Int := if mt o q r = true ∧ out.getLast? ≠ some (num o r q.length) then out ++ [num o r q.length] else out
def lev (o : Od) (L : List R3) (q : List Int) : List Int := L.foldl (levStep o q) []
theorem lev_snoc (o : Od) (L : List R3) (r : R3) (q : List Int) : lev o (L ++ [r]) q = levStep o q (lev o L q) r := by simp [lev]
theorem levF_find (o : Od) (q : List Int) (P : Int → Bool) : ∀ (L : List R3) (out M : List Int), out.find? P = M.find? P → out.getLast? = M.getLast? → (L.foldl (levStep o q) out).find? P = (M ++ (L.filter (mt o q)).map (fun r => num o r q.length)).find? P
  | [], out, M => fun h _ => by simpa using h
  | r :: L, out, M => fun h1 h2 => by
    simp only [List.foldl_cons]
    cases hm : mt o q r with
    | false =>
      have e : levStep o q out r = out := by unfold levStep; rw [if_neg (by simp [hm])]
      rw [e, levF_find o q P L out M h1 h2, List.filter_cons_of_neg (by simp [hm])]
    | true =>
      rw [List.filter_cons_of_pos hm, List.map_cons]
      have e2 : M ++ num o r q.length :: (L.filter (mt o q)).map (fun r => num o r q.length) = (M ++ [num o r q.length]) ++ (L.filter (mt o q)).map (fun r => num o r q.length) := by simp
      rw [e2]
      by_cases hl : out.getLast? = some (num o r q.length)
      · have e : levStep o q out r = out := by unfold levStep; rw [if_neg (by simp [hl])]
        rw [e]
        refine levF_find o q P L out (M ++ [num o r q.length]) ?_ (by rw [hl]; simp)
        rw [h1, List.find?_append]
        cases hf : M.find? P with
        | some y => rfl
        | none =>
          have hmem : num o r q.length ∈ M := List.mem_of_getLast? (by rw [← h2]; exact hl)
          have := List.find?_eq_none.1 hf _ hmem
          simp [this]
      · have e : levStep o q out r = out ++ [num o r q.length] := by unfold levStep; rw [if_pos ⟨hm, hl⟩]
        rw [e]
        exact levF_find o q P L _ _ (by rw [List.find?_append, List.find?_append, h1]) (by simp)
theorem lev_find (o : Od) (L : List R3) (q : List Int) (m : Int) : (lev o L q).find? (fun y => decide (m ≤ y)) = nextNum o L q m := by
  have := levF_find o q (fun y => decide (m ≤ y)) L [] [] rfl rfl
  unfold lev nextNum
  rw [this, List.nil_append, List.find?_map, List.find?_filter]
  congr 2
  funext r
  simp
theorem lev_head (o : Od) (L : List R3) (q : List Int) : (lev o L q).head? = (L.find? (mt o q)).map (fun r => num o r q.length) := by
  have := levF_find o q (fun _ => true) L [] [] rfl rfl
  have e : ∀ l : List Int, l.find? (fun _ => true) = l.head? := fun l => by cases l <;> rfl
  rw [e, e, List.nil_append, List.head?_map, List.head?_filter] at this
  exact this
theorem find_lo {o : Od} {L : List R3} {q : List Int} : L.find? (mt o q) = L[lo o L q]? := by
  unfold lo
  induction L with
  | nil => rfl
  | cons x l ih =>
    rw [List.find?_cons, List.findIdx_cons]
    cases mt o q x with
    | true => rfl
    | false => simpa using ih

/-! The document's New: one row more. -/
theorem ins_strict {o : Od} (ho : o.ok) {out : List R3} {r : R3} {k : Nat} (hs : Strict o out) (hk : k ≤ out.length) (h1 : ∀ i s, i < k → out[i]? = some s → lt o s r) (h2 : ∀ s, out[k]? = some s → ¬ lt o s r ∧ s ≠ r) : Strict o (out.take k ++ r :: out.drop k) := by
  have e := List.take_append_drop k out
  unfold Strict at hs ⊢
  rw [← e] at hs
  obtain ⟨a1, a2, a3⟩ := List.pairwise_append.1 hs
  have hlt : ∀ s ∈ out.drop k, lt o r s := by
    intro s hsd
    rcases Nat.lt_or_ge k out.length with hkl | hkl
    · obtain ⟨g1, g2⟩ := h2 _ (List.getElem?_eq_getElem hkl)
      have g3 : lt o r out[k] := by
        rcases lt_cases ho r out[k] with g | g | g
        · exact g
        · exact absurd g.symm g2
        · exact absurd g g1
      rw [List.drop_eq_getElem_cons hkl] at hsd a2
      rcases List.mem_cons.1 hsd with rfl | hsd
      · exact g3
      · exact lt_trans g3 ((List.pairwise_cons.1 a2).1 s hsd)
    · rw [List.drop_eq_nil_of_le hkl] at hsd; cases hsd
  have hlt2 : ∀ s ∈ out.take k, lt o s r := by
    intro s hsd
    obtain ⟨i, hi'⟩ := List.getElem?_of_mem hsd
    have hik : i < k := by have := (List.getElem?_eq_some_iff.1 hi').1; rw [List.length_take] at this; omega
    rw [List.getElem?_take_of_lt hik] at hi'
    exact h1 i s hik hi'
  refine List.pairwise_append.2 ⟨a1, List.pairwise_cons.2 ⟨hlt, a2⟩, fun s hs1 t ht => ?_⟩
  rcases List.mem_cons.1 ht with rfl | ht
  · exact hlt2 s hs1
  · exact a3 s hs1 t ht
theorem IdxOf.ins {o : Od} (ho : o.ok) {rows out : List R3} {r : R3} {k : Nat} (h : IdxOf o rows out) (hk : k ≤ out.length) (h1 : ∀ i s, i < k → out[i]? = some s → lt o s r) (h2 : ∀ s, out[k]? = some s → ¬ lt o s r ∧ s ≠ r) : IdxOf o (rows ++ [r]) (out.take k ++ r :: out.drop k) :=
  ⟨ins_strict ho h.strict hk h1 h2, fun s => by
    have e := List.take_append_drop k out
    have : s ∈ out ↔ s ∈ out.take k ∨ s ∈ out.drop k := by
      conv => lhs; rw [← e]
      exact List.mem_append
    rw [List.mem_append, List.mem_append, List.mem_cons, List.mem_singleton, ← h.mem s, this]
    constructor
    · rintro (h | h | h)
      · exact .inl (.inl h)
      · exact .inr h
      · exact .inl (.inr h)
    · rintro ((h | h) | h)
      · exact .inl h
      · exact .inr (.inr h)
      · exact .inr (.inl h)⟩
theorem IdxOf.skip {o : Od} {rows out : List R3} {r : R3} (h : IdxOf o rows out) (hr : r ∈ out) : IdxOf o (rows ++ [r]) out :=
  ⟨h.strict, fun s => by
    rw [List.mem_append, List.mem_singleton, ← h.mem s]
    constructor
    · exact .inl
    · rintro (h1 | rfl)
      · exact h1
      · exact hr⟩
theorem idxOf_nil (o : Od) : IdxOf o [] [] := ⟨List.Pairwise.nil, fun _ => Iff.rfl⟩
end Go.Proofs.Ytfocpjplokabgaa
