/- Parts of the proofs of stage 15. -/
import Derived.Test.YtifmpcldiimdbaaZA
import Derived.Test.YtifmpcldiimdbaaZC
import Derived.Test.YtifmpcldiimdbaaZB
import Derived.Deep.RegionHeld
import Derived.Laws.BitsLemmas
namespace Go.Proofs.Ytifmpcldiimdbaa

/-- A note as data. -/
structure NoteD where
  kind : Int
  nums : List Int
  texts : List (List UInt8)
  rows : List (List (List UInt8))
deriving DecidableEq

def listB (ls : List (List UInt8)) : List UInt8 := numB ls.length ++ textsB ls
def numsB (ns : List Int) : List UInt8 := (ns.map fun x => numB x.toNat).flatten
def rowsB (rs : List (List (List UInt8))) : List UInt8 := (rs.map listB).flatten
/-- How many texts there are in rows. -/
def cntR (rs : List (List (List UInt8))) : Nat := (rs.map List.length).sum
def sumR (rs : List (List (List UInt8))) : Nat := (rs.map sumL).sum
def NoteD.body (n : NoteD) : List UInt8 := numB n.kind.toNat ++ (numB n.nums.length ++ (numsB n.nums ++ (listB n.texts ++ (numB n.rows.length ++ rowsB n.rows))))

def goodNum (x : Int) : Prop := 0 ≤ x ∧ x ≤ 4611686018427387903
instance (x : Int) : Decidable (goodNum x) := inferInstanceAs (Decidable (_ ∧ _))
/-- The kind and the numbers are such as may be. -/
def NoteD.numsOk (n : NoteD) : Prop := 1 ≤ n.kind ∧ n.kind ≤ 255 ∧ n.nums.length ≤ 64 ∧ ∀ x ∈ n.nums, goodNum x
instance (n : NoteD) : Decidable n.numsOk := inferInstanceAs (Decidable (_ ∧ _))
def shortL (ls : List (List UInt8)) : Prop := ∀ t ∈ ls, t.length ≤ 65536
instance (ls : List (List UInt8)) : Decidable (shortL ls) := inferInstanceAs (Decidable (∀ t ∈ ls, t.length ≤ 65536))
/-- The texts are such as may be. -/
def NoteD.textsOk (n : NoteD) : Prop := n.rows.length ≤ 4096 ∧ n.texts.length + cntR n.rows ≤ 4096 ∧ shortL n.texts ∧ ∀ r ∈ n.rows, shortL r
instance (n : NoteD) : Decidable n.textsOk := inferInstanceAs (Decidable (_ ∧ _))
def NoteD.size (n : NoteD) : Nat := sumL n.texts + sumR n.rows
/-- The note may be. -/
def NoteD.may (n : NoteD) : Prop := n.numsOk ∧ n.textsOk ∧ n.body.length ≤ 1048576
instance (n : NoteD) : Decidable n.may := inferInstanceAs (Decidable (_ ∧ _))

theorem numsB_snoc (ns : List Int) (x : Int) : numsB (ns ++ [x]) = numsB ns ++ numB x.toNat := by simp [numsB]
theorem rowsB_snoc (rs : List (List (List UInt8))) (x : List (List UInt8)) : rowsB (rs ++ [x]) = rowsB rs ++ listB x := by simp [rowsB]
theorem cntR_snoc (rs : List (List (List UInt8))) (x : List (List UInt8)) : cntR (rs ++ [x]) = cntR rs + x.length := by simp [cntR]
theorem sumR_snoc (rs : List (List (List UInt8))) (x : List (List UInt8)) : sumR (rs ++ [x]) = sumR rs + sumL x := by simp [sumR]
theorem numsB_le (ns : List Int) : (numsB ns).length ≤ 9 * ns.length := by
  induction ns with
  | nil => simp [numsB]
  | cons x ns ih =>
    have := numB_le x.toNat
    simp only [numsB, List.map_cons, List.flatten_cons, List.length_append, List.length_cons] at *; omega

theorem sumL_le_textsB (ls : List (List UInt8)) : sumL ls ≤ (textsB ls).length := by
  induction ls with
  | nil => simp [sumL]
  | cons t ls ih =>
    rw [textsB_cons, List.length_append]
    simp only [sumL, List.map_cons, List.sum_cons, strB, List.length_append] at *
    omega
theorem sumR_le_rowsB (rs : List (List (List UInt8))) : sumR rs ≤ (rowsB rs).length := by
  induction rs with
  | nil => simp [sumR]
  | cons t ls ih =>
    have := sumL_le_textsB t
    simp only [sumR, rowsB, List.map_cons, List.sum_cons, List.flatten_cons, listB, List.length_append] at *
    omega
theorem size_le_body (n : NoteD) : n.size ≤ n.body.length := by
  have a := sumL_le_textsB n.texts
  have b := sumR_le_rowsB n.rows
  simp only [NoteD.size, NoteD.body, listB, List.length_append]; omega
theorem textsB_le2 (ls : List (List UInt8)) (h : shortL ls) : (textsB ls).length ≤ sumL ls + 9 * ls.length := by
  induction ls with
  | nil => simp [textsB]
  | cons t ls ih =>
    have a := ih (fun u hu => h u (by simp [hu]))
    have b := numB_le t.length
    rw [textsB_cons, List.length_append]
    simp only [sumL, List.map_cons, List.sum_cons, strB, List.length_append, List.length_cons] at *
    omega
theorem rowsB_le (rs : List (List (List UInt8))) (h : ∀ r ∈ rs, shortL r) : (rowsB rs).length ≤ sumR rs + 9 * cntR rs + 9 * rs.length := by
  induction rs with
  | nil => simp [rowsB]
  | cons t ls ih =>
    have a := ih (fun u hu => h u (by simp [hu]))
    have b := numB_le t.length
    have c := textsB_le2 t (h t (by simp))
    simp only [sumR, cntR, rowsB, List.map_cons, List.sum_cons, List.flatten_cons, listB, List.length_append, List.length_cons] at *
    omega

/- Reading. -/
theorem beVal_pos (d : List UInt8) (h : d ≠ []) (h0 : d.head? ≠ some 0) : 0 < beVal d := by
  cases d with
  | nil => exact absurd rfl h
  | cons x d =>
    rw [beVal_cons]
    have : x ≠ 0 := fun e => h0 (by simp [e])
    have h1 : 0 < x.toNat := by
      rcases Nat.eq_zero_or_pos x.toNat with h2 | h2
      · exact absurd (UInt8.toNat_inj.1 (by rw [h2]; rfl)) this
      · exact h2
    have := Nat.mul_le_mul_right (256 ^ d.length) h1
    have h3 : 0 < 256 ^ d.length := Nat.pow_pos (by omega)
    simp only [Nat.succ_mul] at this
    omega

theorem lowD_beVal (k : Nat) : ∀ (f : Nat) (d : List UInt8), d.length = k → k ≤ f → d.head? ≠ some 0 → lowD f (beVal d) = d.reverse := by
  induction k with
  | zero =>
    intro f d hd _ _
    have : d = [] := List.length_eq_zero_iff.1 hd
    subst this
    simp [beVal, lowD_zero]
  | succ k ih =>
    intro f d hd hf h0
    obtain ⟨f, rfl⟩ : ∃ g, f = g + 1 := ⟨f - 1, by omega⟩
    have hne : d ≠ [] := by intro e; rw [e] at hd; simp at hd
    have hp := beVal_pos d hne h0
    have e := (List.dropLast_concat_getLast hne).symm
    generalize d.dropLast = d1 at e
    generalize d.getLast hne = x at e
    have hl1 : d1.length = k := by rw [e] at hd; simpa using hd
    have h1 : d1.head? ≠ some 0 := by
      intro h2
      apply h0
      rw [e, List.head?_append, h2]; rfl
    have hx := x.toNat_lt
    rw [lowD_pos _ _ hp, e, beVal_snoc, List.reverse_append, List.reverse_singleton, List.singleton_append]
    have e1 : (beVal d1 * 256 + x.toNat) / 256 = beVal d1 := by omega
    have e2 : (beVal d1 * 256 + x.toNat) % 256 = x.toNat := by omega
    rw [e1, e2, UInt8.ofNat_toNat, ih f d1 hl1 (by omega) h1]

theorem numP_sound {l : List UInt8} {v k : Nat} (h : numP l = (v, k, 0)) : l = numB v ++ l.drop k ∧ v < 2 ^ 63 := by
  unfold numP at h
  split at h
  · simp at h
  · rename_i c r
    split at h
    · simp at h
    · split at h
      · simp at h
      · split at h
        · simp at h
        · rename_i h1 h2 h3
          simp only [Prod.mk.injEq, and_true] at h
          obtain ⟨rfl, rfl⟩ := h
          have hlen : (r.take c.toNat).length = c.toNat := by rw [List.length_take]; omega
          have hhd : (r.take c.toNat).head? ≠ some 0 := by
            intro h4
            apply h3
            left
            cases r with
            | nil => simp at h4
            | cons y r =>
              cases hc : c.toNat with
              | zero => rw [hc] at h4; simp at h4
              | succ m => rw [hc] at h4; simp at h4; simp [h4]
          have hb := lowD_beVal c.toNat 8 (r.take c.toNat) hlen (by omega) hhd
          refine ⟨?_, by have h5 : ¬ 9223372036854775807 < beVal (r.take c.toNat) := fun h6 => h3 (.inr h6); omega⟩
          rw [numB, hb, List.length_reverse, hlen, List.reverse_reverse, UInt8.ofNat_toNat, Nat.add_comm 1, List.drop_succ_cons, List.cons_append, List.take_append_drop]

theorem numP_shape (l : List UInt8) : (numP l).2.2 ≠ 0 → numP l = (0, 0, (numP l).2.2) := by
  unfold numP
  split
  · simp
  · split
    · simp
    · split
      · simp
      · split
        · simp
        · simp

theorem strP_sound {l t : List UInt8} {k : Nat} (h : strP l = (t, k, 0)) : l = strB t ++ l.drop k ∧ t.length ≤ 65536 ∧ k = (strB t).length := by
  obtain ⟨n, j, e, hn⟩ : ∃ n j e, numP l = (n, j, e) := ⟨_, _, _, rfl⟩
  unfold strP at h
  rw [hn] at h
  split at h
  · rename_i h1; simp at h1 h; omega
  · rename_i h1
    have : e = 0 := by simpa using h1
    subst this
    split at h
    · simp at h
    · split at h
      · simp at h
      · rename_i h2 h3
        simp only [Prod.mk.injEq, and_true] at h
        simp only at h2 h3
        obtain ⟨rfl, rfl⟩ := h
        obtain ⟨e1, _⟩ := numP_sound hn
        have hj : j = (numB n).length := by
          have := congrArg List.length e1
          have hu := (numP_used l).1
          rw [hn] at hu
          simp only at hu
          rw [List.length_append, List.length_drop] at this; omega
        have hl : ((l.drop j).take n).length = n := by rw [List.length_take, List.length_drop]; omega
        refine ⟨?_, by rw [hl]; omega, by rw [strB, hl, List.length_append, hl, hj]⟩
        rw [strB, hl, List.append_assoc, ← List.drop_drop, List.take_append_drop]
        exact e1

theorem listLoop_sound : ∀ (n : Nat) (l : List UInt8) (k : Nat) (acc ls : List (List UInt8)) (m : Nat), listLoop n l k acc = (ls, m, 0) → k ≤ l.length →
    ∃ ts, ls = acc ++ ts ∧ ts.length = n ∧ shortL ts ∧ l.drop k = textsB ts ++ l.drop m ∧ m = k + (textsB ts).length
  | 0, l, k, acc, ls, m, h, _ => by
    simp only [listLoop, Prod.mk.injEq, and_true] at h
    obtain ⟨rfl, rfl⟩ := h
    exact ⟨[], by simp, rfl, by intro t ht; simp at ht, by simp [textsB], by simp [textsB]⟩
  | n + 1, l, k, acc, ls, m, h, hk => by
    obtain ⟨t, j, e, hs⟩ : ∃ t j e, strP (l.drop k) = (t, j, e) := ⟨_, _, _, rfl⟩
    by_cases he : e = 0
    · subst he
      rw [loop_ok hs] at h
      obtain ⟨e1, e2, e3⟩ := strP_sound hs
      have hj : k + j ≤ l.length := by
        have := congrArg List.length e1
        rw [List.length_append, List.length_drop] at this; omega
      obtain ⟨ts, rfl, h2, h3, h4, h5⟩ := listLoop_sound n l (k + j) (acc ++ [t]) ls m h hj
      refine ⟨t :: ts, by simp, by simp [h2], ?_, ?_, ?_⟩
      · intro u hu
        rcases List.mem_cons.1 hu with rfl | hu
        · exact e2
        · exact h3 u hu
      · rw [textsB_cons, List.append_assoc, ← h4, ← List.drop_drop]; exact e1
      · rw [textsB_cons, List.length_append]; omega
    · rw [loop_err hs he] at h
      simp only [Prod.mk.injEq] at h
      exact absurd h.2.2 he

theorem listP_sound {l : List UInt8} {ls : List (List UInt8)} {k : Nat} (h : listP l = (ls, k, 0)) : l = listB ls ++ l.drop k ∧ ls.length ≤ 4096 ∧ shortL ls ∧ k = (listB ls).length := by
  obtain ⟨n, j, e, hn⟩ : ∃ n j e, numP l = (n, j, e) := ⟨_, _, _, rfl⟩
  unfold listP at h
  rw [hn] at h
  split at h
  · rename_i h1; simp at h1 h; omega
  · rename_i h1
    have : e = 0 := by simpa using h1
    subst this
    split at h
    · simp at h
    · rename_i h2
      obtain ⟨e1, _⟩ := numP_sound hn
      have hu := (numP_used l).1
      rw [hn] at hu
      simp only at hu h
      have hj : j = (numB n).length := by
        have := congrArg List.length e1
        rw [List.length_append, List.length_drop] at this; omega
      obtain ⟨ts, h2a, h3, h4, h5, h6⟩ := listLoop_sound n l j [] ls k h hu
      rw [List.nil_append] at h2a
      subst h2a
      refine ⟨?_, by simp only at h2; omega, h4, by rw [listB, h3, List.length_append, ← hj, h6]⟩
      rw [listB, h3, List.append_assoc, ← h5]; exact e1

theorem listLoop_shape : ∀ (n : Nat) (l : List UInt8) (k : Nat) (acc : List (List UInt8)), (listLoop n l k acc).2.2 ≠ 0 → listLoop n l k acc = ([], 0, (listLoop n l k acc).2.2)
  | 0, l, k, acc => by simp [listLoop]
  | n + 1, l, k, acc => by
    unfold listLoop
    split
    · simp
    · exact listLoop_shape n l _ _
theorem listP_shape (l : List UInt8) : (listP l).2.2 ≠ 0 → listP l = ([], 0, (listP l).2.2) := by
  unfold listP
  split
  · simp
  · split
    · simp
    · exact listLoop_shape _ _ _ _

/-- A reader of bytes: what is read, and what is left. -/
def numQ (l : List UInt8) : Option (Nat × List UInt8) := if (numP l).2.2 = 0 then some ((numP l).1, l.drop (numP l).2.1) else none
def listQ (l : List UInt8) : Option (List (List UInt8) × List UInt8) := if (listP l).2.2 = 0 then some ((listP l).1, l.drop (listP l).2.1) else none
def many {α : Type} (p : List UInt8 → Option (α × List UInt8)) : Nat → List UInt8 → Option (List α × List UInt8)
  | 0, l => some ([], l)
  | n + 1, l => (many p n l).bind fun q => (p q.2).bind fun x => some (q.1 ++ [x.1], x.2)

theorem numQ_sound {l r : List UInt8} {v : Nat} (h : numQ l = some (v, r)) : l = numB v ++ r ∧ v < 2 ^ 63 := by
  obtain ⟨n, j, e, hn⟩ : ∃ n j e, numP l = (n, j, e) := ⟨_, _, _, rfl⟩
  unfold numQ at h
  rw [hn] at h
  simp only at h
  split at h
  · rename_i h1; subst h1
    simp only [Option.some.injEq, Prod.mk.injEq] at h
    obtain ⟨rfl, rfl⟩ := h
    exact numP_sound hn
  · simp at h
theorem listQ_sound {l r : List UInt8} {v : List (List UInt8)} (h : listQ l = some (v, r)) : l = listB v ++ r ∧ v.length ≤ 4096 ∧ shortL v := by
  obtain ⟨n, j, e, hn⟩ : ∃ n j e, listP l = (n, j, e) := ⟨_, _, _, rfl⟩
  unfold listQ at h
  rw [hn] at h
  simp only at h
  split at h
  · rename_i h1; subst h1
    simp only [Option.some.injEq, Prod.mk.injEq] at h
    obtain ⟨rfl, rfl⟩ := h
    obtain ⟨a, b, c, _⟩ := listP_sound hn
    exact ⟨a, b, c⟩
  · simp at h
theorem numQ_back (v : Nat) (h : v < 2 ^ 63) (r : List UInt8) : numQ (numB v ++ r) = some (v, r) := by
  unfold numQ; rw [numP_numB v h]; simp
theorem listQ_back (ls : List (List UInt8)) (hl : ls.length ≤ 4096) (h : shortL ls) (r : List UInt8) : listQ (listB ls ++ r) = some (ls, r) := by
  unfold listQ listB; rw [listP_back ls hl h]; simp

theorem many_sound {α : Type} {p : List UInt8 → Option (α × List UInt8)} {f : α → List UInt8} (hp : ∀ l x r, p l = some (x, r) → l = f x ++ r) :
    ∀ (n : Nat) (l : List UInt8) (xs : List α) (r : List UInt8), many p n l = some (xs, r) → l = (xs.map f).flatten ++ r ∧ xs.length = n
  | 0, l, xs, r, h => by
    simp only [many, Option.some.injEq, Prod.mk.injEq] at h
    obtain ⟨rfl, rfl⟩ := h
    simp
  | n + 1, l, xs, r, h => by
    simp only [many, Option.bind_eq_some_iff] at h
    obtain ⟨⟨ys, q⟩, h1, ⟨x, r2⟩, h2, h3⟩ := h
    simp only [Option.some.injEq, Prod.mk.injEq] at h2 h3
    obtain ⟨rfl, rfl⟩ := h3
    obtain ⟨e1, e2⟩ := many_sound hp n l ys q h1
    have e3 := hp q x r2 h2
    refine ⟨?_, by simp [e2]⟩
    rw [e1, e3]; simp

theorem many_all {α : Type} {p : List UInt8 → Option (α × List UInt8)} {G : α → Prop} (hp : ∀ l x r, p l = some (x, r) → G x) :
    ∀ (n : Nat) (l : List UInt8) (xs : List α) (r : List UInt8), many p n l = some (xs, r) → ∀ x ∈ xs, G x
  | 0, l, xs, r, h => by
    simp only [many, Option.some.injEq, Prod.mk.injEq] at h
    obtain ⟨rfl, rfl⟩ := h
    simp
  | n + 1, l, xs, r, h => by
    simp only [many, Option.bind_eq_some_iff] at h
    obtain ⟨⟨ys, q⟩, h1, ⟨x, r2⟩, h2, h3⟩ := h
    simp only [Option.some.injEq, Prod.mk.injEq] at h2 h3
    obtain ⟨rfl, rfl⟩ := h3
    intro y hy
    rcases List.mem_append.1 hy with hy | hy
    · exact many_all hp n l ys q h1 y hy
    · rw [List.mem_singleton] at hy; subst hy; exact hp q y r2 h2

theorem many_back {α : Type} {p : List UInt8 → Option (α × List UInt8)} {f : α → List UInt8} (xs : List α) (hp : ∀ x ∈ xs, ∀ r, p (f x ++ r) = some (x, r)) (r : List UInt8) :
    ∀ i, i ≤ xs.length → many p i ((xs.map f).flatten ++ r) = some (xs.take i, ((xs.drop i).map f).flatten ++ r)
  | 0, _ => by simp [many]
  | i + 1, h => by
    have hx : xs.drop i = xs[i] :: xs.drop (i + 1) := List.drop_eq_getElem_cons h
    rw [many, many_back xs hp r i (by omega), Option.bind_some]
    simp only
    rw [hx, List.map_cons, List.flatten_cons, List.append_assoc, hp xs[i] (List.getElem_mem h), Option.bind_some, List.take_succ_eq_append_getElem h]

/-- The note of a body. -/
def readP (l : List UInt8) : Option NoteD :=
  (numQ l).bind fun a => (numQ a.2).bind fun c => if 64 < c.1 then none else (many numQ c.1 c.2).bind fun ns =>
    (listQ ns.2).bind fun ts => (numQ ts.2).bind fun m => if 4096 < m.1 then none else (many listQ m.1 m.2).bind fun rs =>
      if rs.2 = [] ∧ (NoteD.mk a.1 (ns.1.map Int.ofNat) ts.1 rs.1).numsOk ∧ (NoteD.mk a.1 (ns.1.map Int.ofNat) ts.1 rs.1).textsOk then some ⟨a.1, ns.1.map Int.ofNat, ts.1, rs.1⟩ else none

theorem numsB_nat (ns : List Nat) : numsB (ns.map Int.ofNat) = (ns.map numB).flatten := by
  simp only [numsB, List.map_map]; rfl

theorem readP_sound {l : List UInt8} {n : NoteD} (h : readP l = some n) : l = n.body ∧ n.numsOk ∧ n.textsOk := by
  unfold readP at h
  simp only [Option.bind_eq_some_iff] at h
  obtain ⟨⟨k, l1⟩, h1, ⟨c, l2⟩, h2, h⟩ := h
  simp only at h h2
  split at h
  · simp at h
  · simp only [Option.bind_eq_some_iff] at h
    obtain ⟨⟨ns, l3⟩, h3, ⟨ts, l4⟩, h4, ⟨m, l5⟩, h5, h⟩ := h
    simp only at h h4 h5
    split at h
    · simp at h
    · simp only [Option.bind_eq_some_iff] at h
      obtain ⟨⟨rs, l6⟩, h6, h⟩ := h
      simp only at h
      split at h
      · rename_i hg
        obtain ⟨rfl, g1, g2⟩ := hg
        simp only [Option.some.injEq] at h
        subst h
        refine ⟨?_, g1, g2⟩
        obtain ⟨e1, _⟩ := numQ_sound h1
        obtain ⟨e2, _⟩ := numQ_sound h2
        obtain ⟨e3, f3⟩ := many_sound (f := numB) (fun l x r hh => (numQ_sound hh).1) c l2 ns l3 h3
        obtain ⟨e4, _⟩ := listQ_sound h4
        obtain ⟨e5, _⟩ := numQ_sound h5
        obtain ⟨e6, f6⟩ := many_sound (f := listB) (fun l x r hh => (listQ_sound hh).1) m l5 rs [] h6
        simp only [NoteD.body, List.length_map, numsB_nat, rowsB, Int.toNat_natCast]
        rw [e1, e2, e3, e4, e5, e6, f3, f6, List.append_nil]
      · simp at h

theorem cast_nums (ns : List Int) (h : ∀ x ∈ ns, goodNum x) : (ns.map Int.toNat).map Int.ofNat = ns := by
  rw [List.map_map]
  conv => rhs; rw [← List.map_id ns]
  apply List.map_congr_left
  intro x hx
  have := (h x hx).1
  simp only [Function.comp, id]
  exact Int.toNat_of_nonneg this

theorem len_le_cntR {rs : List (List (List UInt8))} {r : List (List UInt8)} (h : r ∈ rs) : r.length ≤ cntR rs := by
  induction rs with
  | nil => simp at h
  | cons t ls ih =>
    simp only [cntR, List.map_cons, List.sum_cons] at *
    rcases List.mem_cons.1 h with rfl | h
    · omega
    · have := ih h; omega

theorem readP_body (n : NoteD) (h1 : n.numsOk) (h2 : n.textsOk) : readP n.body = some n := by
  obtain ⟨a1, a2, a3, a4⟩ := h1
  obtain ⟨b1, b2, b3, b4⟩ := h2
  have hk : ((n.kind.toNat : Nat) : Int) = n.kind := Int.toNat_of_nonneg (by omega)
  have hns : numsB n.nums = ((n.nums.map Int.toNat).map numB).flatten := by
    rw [← numsB_nat, cast_nums n.nums a4]
  have m1 := many_back (p := numQ) (f := numB) (n.nums.map Int.toNat) (by
    intro x hx r
    obtain ⟨y, hy, rfl⟩ := List.mem_map.1 hx
    have := a4 y hy
    exact numQ_back _ (by have := this.2; omega) r) (listB n.texts ++ (numB n.rows.length ++ rowsB n.rows)) n.nums.length (by simp)
  have m2 := many_back (p := listQ) (f := listB) n.rows (by
    intro x hx r
    exact listQ_back x (by have := len_le_cntR hx; omega) (b4 x hx) r) [] n.rows.length (Nat.le_refl _)
  rw [List.append_nil] at m2
  unfold readP NoteD.body
  rw [numQ_back _ (by omega), Option.bind_some]
  simp only
  rw [numQ_back _ (by omega), Option.bind_some]
  simp only
  rw [if_neg (by omega), hns, m1, Option.bind_some]
  simp only
  rw [List.take_of_length_le (by simp), List.drop_of_length_le (by simp), List.map_nil, List.flatten_nil, List.nil_append, listQ_back _ (by omega) b3, Option.bind_some]
  simp only
  rw [numQ_back _ (by omega), Option.bind_some]
  simp only
  rw [if_neg (by omega), rowsB, m2, Option.bind_some]
  simp only
  rw [List.take_of_length_le (by simp), List.drop_of_length_le (by simp), cast_nums n.nums a4, hk]
  simp only [List.map_nil, List.flatten_nil]
  exact if_pos ⟨rfl, ⟨a1, a2, a3, a4⟩, b1, b2, b3, b4⟩

/- Four bytes. -/
def fourB (n : Nat) : List UInt8 := [UInt8.ofNat (n / 16777216 % 256), UInt8.ofNat (n / 65536 % 256), UInt8.ofNat (n / 256 % 256), UInt8.ofNat (n % 256)]
def fourN (l : List UInt8) : Nat := beVal (l.take 4)
theorem fourB_len (n : Nat) : (fourB n).length = 4 := rfl
theorem fourN_fourB (n : Nat) (h : n < 4294967296) (r : List UInt8) : fourN (fourB n ++ r) = n := by
  have e : (fourB n ++ r).take 4 = fourB n := List.take_left' rfl
  rw [fourN, e]
  simp only [fourB, beVal, List.foldl_cons, List.foldl_nil, UInt8.toNat_ofNat']
  omega
theorem fourN_lt (l : List UInt8) : fourN l < 4294967296 := by
  have := beVal_lt (l.take 4)
  have h4 : (l.take 4).length ≤ 4 := by rw [List.length_take]; omega
  have := Nat.pow_le_pow_right (n := 256) (by omega) h4
  rw [fourN]; omega
theorem fourB_fourN (l : List UInt8) (h : 4 ≤ l.length) : fourB (fourN l) = l.take 4 := by
  obtain ⟨a, b, c, d, r, rfl⟩ : ∃ a b c d r, l = a :: b :: c :: d :: r := by
    match l, h with
    | a :: b :: c :: d :: r, _ => exact ⟨a, b, c, d, r, rfl⟩
  have ha := a.toNat_lt
  have hb := b.toNat_lt
  have hc := c.toNat_lt
  have hd := d.toNat_lt
  simp only [fourN, List.take_succ_cons, List.take_zero, beVal, List.foldl_cons, List.foldl_nil, fourB]
  have e1 : ((((0 * 256 + a.toNat) * 256 + b.toNat) * 256 + c.toNat) * 256 + d.toNat) / 16777216 % 256 = a.toNat := by omega
  have e2 : ((((0 * 256 + a.toNat) * 256 + b.toNat) * 256 + c.toNat) * 256 + d.toNat) / 65536 % 256 = b.toNat := by omega
  have e3 : ((((0 * 256 + a.toNat) * 256 + b.toNat) * 256 + c.toNat) * 256 + d.toNat) / 256 % 256 = c.toNat := by omega
  have e4 : ((((0 * 256 + a.toNat) * 256 + b.toNat) * 256 + c.toNat) * 256 + d.toNat) % 256 = d.toNat := by omega
  rw [e1, e2, e3, e4, UInt8.ofNat_toNat, UInt8.ofNat_toNat, UInt8.ofNat_toNat, UInt8.ofNat_toNat]

/-- A body with its length and its sum. -/
def sealB (b : List UInt8) : List UInt8 := fourB b.length ++ (fourB (sumN b) ++ b)
theorem sealB_len (b : List UInt8) : (sealB b).length = 8 + b.length := by simp [sealB, fourB]; omega

def NoteD.none : NoteD := ⟨0, [], [], []⟩
/-- The note that bytes begin with, how many bytes it has, and why there is none. -/
def unpackP (l : List UInt8) : NoteD × Nat × Nat :=
  if l.length < 8 then (.none, 0, 11)
  else if 1048576 < fourN l then (.none, 0, 31)
  else if l.length - 8 < fourN l then (.none, 0, 11)
  else if sumN ((l.drop 8).take (fourN l)) ≠ fourN (l.drop 4) then (.none, 0, 30)
  else match readP ((l.drop 8).take (fourN l)) with
    | .none => (.none, 0, 31)
    | some n => (n, 8 + fourN l, 0)

theorem unpackP_seal (n : NoteD) (h : n.may) (r : List UInt8) : unpackP (sealB n.body ++ r) = (n, (sealB n.body).length, 0) := by
  obtain ⟨h1, h2, h3⟩ := h
  have e : sealB n.body ++ r = fourB n.body.length ++ (fourB (sumN n.body) ++ (n.body ++ r)) := by simp [sealB]
  have e4 : (sealB n.body ++ r).drop 4 = fourB (sumN n.body) ++ (n.body ++ r) := by rw [e]; exact List.drop_left' rfl
  have e8 : (sealB n.body ++ r).drop 8 = n.body ++ r := by
    rw [show 8 = 4 + 4 from rfl, ← List.drop_drop, e4]; exact List.drop_left' rfl
  have hf : fourN (sealB n.body ++ r) = n.body.length := by rw [e]; exact fourN_fourB _ (by omega) _
  have hs : fourN ((sealB n.body ++ r).drop 4) = sumN n.body := by rw [e4]; exact fourN_fourB _ (sumN_lt _) _
  have ht : ((sealB n.body ++ r).drop 8).take n.body.length = n.body := by rw [e8]; exact List.take_left' rfl
  have hl : (sealB n.body ++ r).length = 8 + n.body.length + r.length := by rw [List.length_append, sealB_len]
  unfold unpackP
  rw [hf, hs, ht, hl, if_neg (by omega), if_neg (by omega), if_neg (by omega), if_neg (by simp), readP_body n h1 h2, sealB_len]

theorem unpackP_ok {l : List UInt8} {n : NoteD} {k : Nat} (h : unpackP l = (n, k, 0)) : n.may ∧ l = sealB n.body ++ l.drop k ∧ k = (sealB n.body).length := by
  unfold unpackP at h
  split at h
  · simp at h
  · split at h
    · simp at h
    · split at h
      · simp at h
      · split at h
        · simp at h
        · rename_i g1 g2 g3 g4
          split at h
          · simp at h
          · rename_i m hm
            simp only [Prod.mk.injEq, and_true] at h
            obtain ⟨rfl, rfl⟩ := h
            obtain ⟨e1, e2, e3⟩ := readP_sound hm
            have hlen : ((l.drop 8).take (fourN l)).length = fourN l := by rw [List.length_take, List.length_drop]; omega
            have hb : m.body.length = fourN l := by rw [← e1, hlen]
            have hsum : sumN ((l.drop 8).take (fourN l)) = fourN (l.drop 4) := Classical.byContradiction g4
            refine ⟨⟨e2, e3, by omega⟩, ?_, by rw [sealB_len, hb]⟩
            rw [sealB, hb, fourB_fourN l (by omega), ← e1, hsum, fourB_fourN (l.drop 4) (by rw [List.length_drop]; omega)]
            rw [List.append_assoc, List.append_assoc, ← List.drop_drop, List.take_append_drop, show 8 = 4 + 4 from rfl, ← List.drop_drop, List.take_append_drop, List.take_append_drop]

theorem unpackP_err (l : List UInt8) : (unpackP l).2.2 ≠ 0 → unpackP l = (.none, 0, (unpackP l).2.2) := by
  unfold unpackP
  split
  · simp
  · split
    · simp
    · split
      · simp
      · split
        · simp
        · split <;> simp

/- All notes. -/
def allF : Nat → List UInt8 → List NoteD × Nat
  | 0, _ => ([], 0)
  | f + 1, l => if (unpackP l).2.2 = 0 then ((unpackP l).1 :: (allF f (l.drop (unpackP l).2.1)).1, (unpackP l).2.1 + (allF f (l.drop (unpackP l).2.1)).2) else ([], 0)
def allP (l : List UInt8) : List NoteD × Nat := allF (l.length + 1) l

theorem unpackP_used {l : List UInt8} (h : (unpackP l).2.2 = 0) : 8 ≤ (unpackP l).2.1 ∧ (unpackP l).2.1 ≤ l.length := by
  obtain ⟨n, k, e, hn⟩ : ∃ n k e, unpackP l = (n, k, e) := ⟨_, _, _, rfl⟩
  rw [hn] at h ⊢
  simp only at h ⊢
  subst h
  obtain ⟨_, h1, h2⟩ := unpackP_ok hn
  have := congrArg List.length h1
  rw [List.length_append, List.length_drop] at this
  rw [sealB_len] at h2 this
  omega

theorem allF_fuel : ∀ (f g : Nat) (l : List UInt8), l.length < f → l.length < g → allF f l = allF g l
  | 0, _, l, h, _ => by omega
  | _ + 1, 0, l, _, h => by omega
  | f + 1, g + 1, l, hf, hg => by
    unfold allF
    split
    · rename_i h0
      obtain ⟨h1, h2⟩ := unpackP_used h0
      rw [allF_fuel f g (l.drop (unpackP l).2.1) (by rw [List.length_drop]; omega) (by rw [List.length_drop]; omega)]
    · rfl

theorem allP_ok {l : List UInt8} {n : NoteD} {k : Nat} (h : unpackP l = (n, k, 0)) : allP l = (n :: (allP (l.drop k)).1, k + (allP (l.drop k)).2) := by
  obtain ⟨h1, h2⟩ := unpackP_used (l := l) (by rw [h])
  have e : allF l.length (l.drop k) = allP (l.drop k) := allF_fuel _ _ _ (by rw [h] at h1 h2; simp only at h1 h2; rw [List.length_drop]; omega) (by omega)
  rw [allP, allF, h]
  simp only [if_true]
  rw [e]
theorem allP_end {l : List UInt8} (h : (unpackP l).2.2 ≠ 0) : allP l = ([], 0) := by
  rw [allP, allF, if_neg h]
end Go.Proofs.Ytifmpcldiimdbaa

namespace Go.Proofs.Ytifmpcldiimdbaa
open Go.RowKit

/-- A slice of one-cell elements in memory, read-only. -/
def ValsAt (w : World) (v : Value) (vs : List Value) : Prop :=
  vs.length ≤ 9223372036854775807 ∧ ∃ ao cap, v = .slice ao vs.length cap ∧ (vs = [] ∨ ∃ b o, ao = some ⟨b, o, none⟩ ∧ b < w.heap.size ∧ ∀ j x, vs[j]? = some x → w.cell? ⟨b, o + j, none⟩ = some x)

theorem ValsAt.below {w w' : World} {v : Value} {vs : List Value} (h : ValsAt w v vs) (hb : Below w.heap.size w w') : ValsAt w' v vs := by
  obtain ⟨h1, ao, cap, h2, h3⟩ := h
  refine ⟨h1, ao, cap, h2, ?_⟩
  rcases h3 with h3 | ⟨b, o, ha, hl, hc⟩
  · exact .inl h3
  · exact .inr ⟨b, o, ha, Nat.lt_of_lt_of_le hl hb.size, fun j t hj => (hb.cell (p := ⟨b, o + j, none⟩) hl).trans (hc j t hj)⟩

theorem valsAt_own {w : World} {B : Nat} {e : TypeId} {v : Value} {vs : List Value} (h : w.ownsRow B e 1 v vs.length vs) (hl : vs.length ≤ 9223372036854775807) : ValsAt w v vs := by
  refine ⟨hl, ?_⟩
  have h2 := h.2
  rcases h2 with ⟨rfl, h0⟩ | ⟨g, cap, cur, rfl, h2⟩
  · exact ⟨none, 0, by rw [h0], .inl (List.length_eq_zero_iff.1 h0)⟩
  · refine ⟨_, cap, rfl, .inr ⟨g, 0, rfl, (h.lt g rfl).2, fun j t hj => ?_⟩⟩
    rw [Nat.zero_add, h.cellAt j (by have := (List.getElem?_eq_some_iff.1 hj).1; omega), hj]

def intCs (ns : List Int) : List Value := ns.map (Value.int .i64)
theorem intCs_snoc (ns : List Int) (x : Int) : intCs (ns ++ [x]) = intCs ns ++ [.int .i64 x] := by simp [intCs]
theorem intCs_len (ns : List Int) : (intCs ns).length = ns.length := by simp [intCs]
def IntsAt (w : World) (v : Value) (ns : List Int) : Prop := ValsAt w v (intCs ns)
theorem IntsAt.below {w w' : World} {v : Value} {ns : List Int} (h : IntsAt w v ns) (hb : Below w.heap.size w w') : IntsAt w' v ns := ValsAt.below h hb

def RowsAt (w : World) (v : Value) (rs : List (List (List UInt8))) : Prop :=
  ∃ vs, ValsAt w v vs ∧ vs.length = rs.length ∧ ∀ (j : Nat) x r, vs[j]? = some x → rs[j]? = some r → StrsAt w x r
theorem RowsAt.below {w w' : World} {v : Value} {rs : List (List (List UInt8))} (h : RowsAt w v rs) (hb : Below w.heap.size w w') : RowsAt w' v rs := by
  obtain ⟨vs, h1, h2, h3⟩ := h
  exact ⟨vs, h1.below hb, h2, fun j x r hx hr => (h3 j x r hx hr).below hb⟩

theorem RowsAt.parts {w : World} {v : Value} {rs : List (List (List UInt8))} (h : RowsAt w v rs) :
    rs.length ≤ 9223372036854775807 ∧ ∃ ao cap vs, v = .slice ao rs.length cap ∧ vs.length = rs.length ∧ (vs = [] ∨ ∃ b o, ao = some ⟨b, o, none⟩ ∧ b < w.heap.size ∧ ∀ j x, vs[j]? = some x → w.cell? ⟨b, o + j, none⟩ = some x) ∧ ∀ (j : Nat) x r, vs[j]? = some x → rs[j]? = some r → StrsAt w x r := by
  obtain ⟨vs, ⟨hlen, ao, cap, rfl, hc⟩, hvl, hrs⟩ := h
  exact ⟨by omega, ao, cap, vs, by rw [hvl], hvl, hc, hrs⟩

def NoteAt (w : World) (v : Value) (n : NoteD) : Prop :=
  ∃ vn vt vr, v = .agg #[.int .i64 n.kind, vn, vt, vr] ∧ IntsAt w vn n.nums ∧ StrsAt w vt n.texts ∧ RowsAt w vr n.rows
theorem NoteAt.below {w w' : World} {v : Value} {n : NoteD} (h : NoteAt w v n) (hb : Below w.heap.size w w') : NoteAt w' v n := by
  obtain ⟨vn, vt, vr, h1, h2, h3, h4⟩ := h
  exact ⟨vn, vt, vr, h1, h2.below hb, h3.below hb, h4.below hb⟩

theorem take_good {P : Int → Prop} {ls : List Int} {i : Nat} {t : Int} (h : ∀ u ∈ ls.take i, P u) (hx : ls[i]? = some t) (ht : P t) : ∀ u ∈ ls.take (i + 1), P u := by
  intro u hu
  rw [List.take_add_one, hx] at hu
  simp at hu
  rcases hu with hu | rfl
  · exact h u hu
  · exact ht

set_option maxRecDepth 100000 in
set_option maxHeartbeats 1000000 in
theorem numsMayBe_any (v : Value) (n : NoteD) (w : World) (h : NoteAt w v n) :
    Calls Try.prog 57 #[v] w fun e w' => e = .returned (.bool (decide n.numsOk)) ∧ Below w.heap.size w w' := by
  obtain ⟨vn, vt, vr, rfl, hn, _, _⟩ := h
  obtain ⟨kind, nums, texts, rows⟩ := n
  simp only at *
  obtain ⟨hlen, ao, cap, rfl, hc⟩ := hn
  rw [intCs_len] at *
  have HC := Hid.mk hc
  clear hc
  by_cases h1 : kind < 1
  · have HV : Hid (decide (NoteD.mk kind nums texts rows).numsOk = false) := Hid.mk (decide_eq_false (fun h => by have := h.1; simp only at this; omega))
    go_enter Try.func57, Try.ntmps57
    go_wp2
    go_ret
    exact ⟨by rw [HV.out]; rfl, (Below.refl _ _).alloc (Nat.le_refl _) _⟩
  · by_cases h2 : 255 < kind
    · have HV : Hid (decide (NoteD.mk kind nums texts rows).numsOk = false) := Hid.mk (decide_eq_false (fun h => by have := h.2.1; simp only at this; omega))
      go_enter Try.func57, Try.ntmps57
      go_wp2
      go_ret
      exact ⟨by rw [HV.out]; rfl, (Below.refl _ _).alloc (Nat.le_refl _) _⟩
    · by_cases h3 : 64 < nums.length
      · have HV : Hid (decide (NoteD.mk kind nums texts rows).numsOk = false) := Hid.mk (decide_eq_false (fun h => by have := h.2.2.1; simp only at this; omega))
        go_enter Try.func57, Try.ntmps57
        go_wp2
        go_ret
        exact ⟨by rw [HV.out]; rfl, (Below.refl _ _).alloc (Nat.le_refl _) _⟩
      · go_enter Try.func57, Try.ntmps57
        go_wp2
        go_loop [22] (fun c => ∃ i : Nat, i ≤ nums.length ∧ c = .int .i64 i ∧ ∀ x ∈ nums.take i, goodNum x) (fun c => nums.length - (intOf c).toNat)
        case atStart => exact ⟨0, Nat.zero_le _, rfl, by simp⟩
        case round =>
          obtain ⟨i, hi, rfl, hall⟩ := hrel
          have HALL := Hid.mk hall
          clear hall
          by_cases hlt : i < nums.length
          · obtain ⟨x, hx⟩ : ∃ x, nums[i]? = some x := ⟨_, List.getElem?_eq_getElem hlt⟩
            rcases HC.out with hnil | ⟨b, o, rfl, hl, hc⟩
            · exfalso
              have := intCs_len nums
              rw [hnil] at this
              simp at this
              omega
            · have hcx := hc i (.int .i64 x) (by rw [intCs, List.getElem?_map, hx]; rfl)
              have HX := Hid.mk hx
              have hltI : (i : Int) < (nums.length : Int) := by omega
              clear hc hx
              by_cases hg : goodNum x
              · have HA2 := Hid.mk (take_good HALL.out HX.out hg)
                obtain ⟨g1, g2⟩ := hg
                go_wp2
                go_round
                case rel => exact ⟨i + 1, by omega, by go_num, HA2.out⟩
                case measure => simp [intOf]; omega
              · have HV : Hid (decide (NoteD.mk kind nums texts rows).numsOk = false) := Hid.mk (decide_eq_false (fun h => hg (h.2.2.2 x (List.mem_of_getElem? HX.out))))
                by_cases g1 : x < 0
                · clear hg
                  go_wp2
                  go_ret
                  exact ⟨by rw [HV.out]; rfl, (Below.refl _ _).alloc (Nat.le_refl _) _⟩
                · have g2 : 4611686018427387903 < x := by
                    rw [goodNum] at hg; omega
                  clear hg
                  go_wp2
                  go_ret
                  exact ⟨by rw [HV.out]; rfl, (Below.refl _ _).alloc (Nat.le_refl _) _⟩
          · have hall := HALL.out
            rw [List.take_of_length_le (by omega)] at hall
            have HV : Hid (decide (NoteD.mk kind nums texts rows).numsOk = true) := Hid.mk (decide_eq_true ⟨by simp only; omega, by simp only; omega, by simp only; omega, hall⟩)
            clear hall
            go_wp2
            go_ret
            exact ⟨by rw [HV.out]; rfl, (Below.refl _ _).alloc (Nat.le_refl _) _⟩
end Go.Proofs.Ytifmpcldiimdbaa

namespace Go.Proofs.Ytifmpcldiimdbaa
open Go.RowKit

/-- A variable of the call's own, one cell. -/
abbrev One (w : World) (b : Nat) (t : TypeId) (v : Value) : Prop := w.heap[b]? = some (.cells #[v] t (0, 0))
theorem one_other {w : World} {b c : Nat} {t : TypeId} {v u : Value} (h : One w b t v) (hne : b ≠ c) : One (w.setCell ⟨c, 0, none⟩ u) b t v :=
  (Below.heap_setCell w ⟨c, 0, none⟩ u b hne).trans h
theorem sumL_le {ls : List (List UInt8)} (h : ∀ u ∈ ls, u.length ≤ 65536) : sumL ls ≤ 65536 * ls.length := by
  induction ls with
  | nil => simp [sumL]
  | cons t ls ih =>
    have a := ih (fun u hu => h u (by simp [hu]))
    have b := h t (by simp)
    simp only [sumL, List.map_cons, List.sum_cons, List.length_cons] at *; omega

/-- Some texts more are within the limits. -/
def Fits (T Z : Nat) (ls : List (List UInt8)) : Prop := T + ls.length ≤ 4096 ∧ shortL ls ∧ Z + sumL ls ≤ 1048576

set_option maxRecDepth 100000 in
set_option maxHeartbeats 1000000 in
theorem mayBe_any (w0 w : World) (v : Value) (ls : List (List UInt8)) (bt bs T Z : Nat) (hv : StrsAt w0 v ls) (hb : Below w0.heap.size w0 w) (h1 : w0.heap.size ≤ bt) (h2 : w0.heap.size ≤ bs) (hne : bt ≠ bs)
    (ct : One w bt 3 (.int .i64 T)) (cs : One w bs 3 (.int .i64 Z)) (hT : T ≤ 4096) (hZ : Z ≤ 1048576) (hlen : ls.length ≤ 4611686018427387904) :
    Calls Try.prog 75 #[v, .pointer (some ⟨bt, 0, none⟩), .pointer (some ⟨bs, 0, none⟩)] w fun e w' => Below w0.heap.size w0 w' ∧
      ((e = .returned (.bool true) ∧ Fits T Z ls ∧ One w' bt 3 (.int .i64 ((T + ls.length : Nat) : Int)) ∧ One w' bs 3 (.int .i64 ((Z + sumL ls : Nat) : Int))) ∨
       (e = .returned (.bool false) ∧ ¬ Fits T Z ls)) := by
  obtain ⟨_, ao, cap, rfl, hc⟩ := hv
  have HC := Hid.mk hc
  clear hc
  have t1 := cell_of_one ct
  have t2 := free_of_one ct
  have s1 := cell_of_one cs
  have s2 := free_of_one cs
  have hne' : ¬ bs = bt := fun h => hne h.symm
  have CT := Hid.mk ct
  have CS := Hid.mk cs
  clear ct cs
  by_cases hm : 4096 < T + ls.length
  · have hmI : (4096 : Int) < (T : Int) + (ls.length : Int) := by omega
    go_enter Try.func75, Try.ntmps75
    go_wp2
    go_ret
    exact ⟨hb.setCell (p := ⟨bt, 0, none⟩) h1 _, .inr ⟨rfl, fun h => by have := h.1; omega⟩⟩
  · have hmI : ¬ (4096 : Int) < (T : Int) + (ls.length : Int) := by omega
    go_enter Try.func75, Try.ntmps75
    go_wp2
    go_loopw [15] (fun c wr => ∃ i : Nat, i ≤ ls.length ∧ c = .int .i64 i ∧ (∀ u ∈ ls.take i, u.length ≤ 65536) ∧ Below w0.heap.size w0 wr ∧ One wr bt 3 (.int .i64 ((T + ls.length : Nat) : Int)) ∧ One wr bs 3 (.int .i64 ((Z + sumL (ls.take i) : Nat) : Int))) (fun c _ => ls.length - (intOf c).toNat)
    case atStart =>
      refine ⟨0, Nat.zero_le _, rfl, by simp, hb.setCell (p := ⟨bt, 0, none⟩) h1 _, ?_, ?_⟩
      · exact (one_setCell CT.out).trans (by simp)
      · exact (one_other CS.out (fun h => hne h.symm)).trans (by simp [sumL])
    case round =>
      obtain ⟨i, hi, rfl, hall, hbr, rt, rs⟩ := hrel
      have HALL := Hid.mk hall
      have hsl := sumL_le hall
      rw [List.length_take, Nat.min_eq_left hi] at hsl
      clear hall t1 t2 s1 s2
      have r1 := cell_of_one rs
      have r2 := free_of_one rs
      have RT := Hid.mk rt
      have RS := Hid.mk rs
      clear rt rs
      by_cases hlt : i < ls.length
      · obtain ⟨t, ht⟩ : ∃ t, ls[i]? = some t := ⟨_, List.getElem?_eq_getElem hlt⟩
        rcases HC.out with hnil | ⟨b, o, rfl, hl, hc⟩
        · rw [hnil] at ht; simp at ht
        · have hcx := (hbr.cell (p := ⟨b, o + i, none⟩) hl).trans (hc i t ht)
          have HT := Hid.mk ht
          have hltI : (i : Int) < (ls.length : Int) := by omega
          have hts := size_list t
          have hst := Hid.mk (sum_step ht)
          clear hc ht
          obtain ⟨S, hS⟩ : ∃ S, S = sumL (ls.take i) := ⟨_, rfl⟩
          rw [← hS] at r1 hsl
          have HS := Hid.mk hS
          clear hS
          by_cases h6 : t.length ≤ 65536
          · have HA2 := Hid.mk (take_all HALL.out HT.out h6)
            go_wp2
            go_roundw
            case rel =>
              refine ⟨i + 1, by omega, by go_num, HA2.out, hbr.setCell (p := ⟨bs, 0, none⟩) h2 _, one_other RT.out hne, (one_setCell RS.out).trans ?_⟩
              rw [hst.out, ← HS.out]
              exact congrArg (fun z => some (Obj.cells #[Value.int .i64 z] 3 (0, 0))) (by omega)
            case measure => simp [intOf]; omega
          · have hbad : ¬ Fits T Z ls := fun h => h6 (h.2.1 t (List.mem_of_getElem? HT.out))
            have HB := Hid.mk hbad
            clear hbad
            go_wp2
            go_ret
            exact ⟨hbr, .inr ⟨rfl, HB.out⟩⟩
      · have hall := HALL.out
        have RS2 := RS.out
        rw [List.take_of_length_le (by omega)] at hall RS2 hsl r1
        have HALL2 := Hid.mk hall
        have HRS := Hid.mk RS2
        clear hall RS2
        obtain ⟨S, hS⟩ : ∃ S, S = sumL ls := ⟨_, rfl⟩
        rw [← hS] at r1 hsl
        have HS := Hid.mk hS
        clear hS
        by_cases hz : Z + S ≤ 1048576
        · have hzI : (Z : Int) + (S : Int) ≤ 1048576 := by omega
          go_wp2
          go_ret
          refine ⟨hbr, .inl ⟨?_, ⟨by omega, HALL2.out, by rw [← HS.out]; exact hz⟩, RT.out, HRS.out⟩⟩
          simp
        · have hzI : ¬ (Z : Int) + (S : Int) ≤ 1048576 := by omega
          go_wp2
          go_ret
          refine ⟨hbr, .inr ⟨?_, fun h => hz (by rw [HS.out]; exact h.2.2)⟩⟩
          simp

/-- A note whose parts are not so long that their counts could not be added. -/
def NoteD.sane (n : NoteD) : Prop := n.texts.length ≤ 4611686018427387904 ∧ ∀ r ∈ n.rows, r.length ≤ 4611686018427387904
/-- The texts are within the limits, and their bytes within a body's. -/
def NoteD.textsFit (n : NoteD) : Prop := n.textsOk ∧ n.size ≤ 1048576
instance (n : NoteD) : Decidable n.textsFit := inferInstanceAs (Decidable (_ ∧ _))
theorem cntR_take_le (rs : List (List (List UInt8))) (i : Nat) : cntR (rs.take i) ≤ cntR rs ∧ sumR (rs.take i) ≤ sumR rs := by
  induction rs generalizing i with
  | nil => simp
  | cons r rs ih =>
    cases i with
    | zero => simp [cntR, sumR]
    | succ i =>
      have := ih i
      simp only [cntR, sumR, List.take_succ_cons, List.map_cons, List.sum_cons] at *; omega
theorem rows_step {rs : List (List (List UInt8))} {i : Nat} {r : List (List UInt8)} (h : rs[i]? = some r) : cntR (rs.take (i + 1)) = cntR (rs.take i) + r.length ∧ sumR (rs.take (i + 1)) = sumR (rs.take i) + sumL r := by
  rw [List.take_add_one, h, Option.toList_some, cntR_snoc, sumR_snoc]; exact ⟨rfl, rfl⟩
theorem take_rows {P : List (List UInt8) → Prop} {ls : List (List (List UInt8))} {i : Nat} {t : List (List UInt8)} (h : ∀ u ∈ ls.take i, P u) (hx : ls[i]? = some t) (ht : P t) : ∀ u ∈ ls.take (i + 1), P u := by
  intro u hu
  rw [List.take_add_one, hx] at hu
  simp at hu
  rcases hu with hu | rfl
  · exact h u hu
  · exact ht

theorem box_at (w : World) (o : Obj) : (w.alloc o).heap[w.heap.size]? = some o := heap_alloc_new w o

set_option maxRecDepth 100000 in
set_option maxHeartbeats 1000000 in
theorem textsMayBe_any (v : Value) (n : NoteD) (w : World) (h : NoteAt w v n) (hs : n.sane) :
    Calls Try.prog 58 #[v] w fun e w' => e = .returned (.bool (decide n.textsFit)) ∧ Below w.heap.size w w' := by
  obtain ⟨vn, vt, vr, rfl, _, ht, hr⟩ := h
  obtain ⟨kind, nums, texts, rows⟩ := n
  obtain ⟨hs1, hs2⟩ := hs
  simp only at *
  obtain ⟨vs, ⟨hlen, ao, cap, rfl, hc⟩, hvl, hrs⟩ := hr
  rw [hvl] at hlen ⊢
  have HVL := Hid.mk hvl
  clear hvl
  have HC := Hid.mk hc
  have HRS := Hid.mk hrs
  have HS2 := Hid.mk hs2
  clear hc hrs hs2
  by_cases hm : 4096 < rows.length
  · have HV : Hid (decide (NoteD.mk kind nums texts rows).textsFit = false) := Hid.mk (decide_eq_false (fun h => by have := h.1.1; simp only at this; omega))
    go_enter Try.func58, Try.ntmps58
    go_wp2
    go_ret
    exact ⟨by rw [HV.out]; rfl, (Below.refl _ _).alloc (Nat.le_refl _) _⟩
  · have hbb : Below w.heap.size w (w.alloc (.cells #[.int .i64 kind, vn, vt, .slice ao rows.length cap] 36)) := (Below.refl _ _).alloc (Nat.le_refl _) _
    have ht0 := ht.below hbb
    obtain ⟨w0, hw0⟩ : ∃ w0, w0 = w.alloc (.cells #[.int .i64 kind, vn, vt, .slice ao rows.length cap] 36) := ⟨_, rfl⟩
    rw [← hw0] at hbb ht0
    have hz0 : w0.heap.size = w.heap.size + 1 := by rw [hw0]; simp
    have hc3 : w0.cell? ⟨w.heap.size, 3, none⟩ = some (.slice ao rows.length cap) := by rw [hw0]; simp [World.cell?_alloc_at]
    have HW0 := Hid.mk hw0
    clear hw0
    have key : ∀ w2 : World, Below w0.heap.size w0 w2 → Below w.heap.size w w2 := fun w2 h2 => hbb.trans (h2.mono (by omega))
    have KEY := Hid.mk key
    clear key
    go_enter Try.func58, Try.ntmps58
    go_wp2_with fail
    rw [← HW0.out]
    have e1 : w0.heap.size = w.heap.size + 1 := hz0
    refine (mayBe_any w0 _ vt texts (w.heap.size + 1) (w.heap.size + 1 + 1) 0 0 ht0 (((Below.refl _ _).alloc (Nat.le_refl _) _).alloc (by simp) _) (by omega) (by omega) (by omega) ?_ ?_ (by omega) (by omega) hs1).mono ?_
    · rw [← e1]
      exact (Below.heap_alloc _ _ _ (by simp)).trans (box_at _ _)
    · have := box_at (w0.alloc (Obj.cells #[Value.int IntKind.i64 0] 3)) (Obj.cells #[Value.int IntKind.i64 0] 3)
      simp only [World.size_alloc, e1] at this
      exact this
    rintro e w1 ⟨hb1, ⟨rfl, hf, ct, cs⟩ | ⟨rfl, hf⟩⟩
    · have hc31 := (hb1.cell (p := ⟨w.heap.size, 3, none⟩) (by simp only; omega)).trans hc3
      have HF := Hid.mk hf
      have CT := Hid.mk ct
      have CS := Hid.mk cs
      clear hf ct cs
      simp only [Nat.zero_add] at CT CS
      go_wp2
      go_loopw [21] (fun c wr => ∃ i : Nat, i ≤ rows.length ∧ c = .int .i64 i ∧ (∀ r ∈ rows.take i, shortL r) ∧ texts.length + cntR (rows.take i) ≤ 4096 ∧ sumL texts + sumR (rows.take i) ≤ 1048576 ∧ Below w0.heap.size w0 wr ∧
        One wr (w.heap.size + 1) 3 (.int .i64 ((texts.length + cntR (rows.take i) : Nat) : Int)) ∧ One wr (w.heap.size + 1 + 1) 3 (.int .i64 ((sumL texts + sumR (rows.take i) : Nat) : Int))) (fun c _ => rows.length - (intOf c).toNat)
      case atStart =>
        have hf := HF.out
        refine ⟨0, Nat.zero_le _, rfl, by simp, ?_, ?_, hb1, ?_, ?_⟩
        · have := hf.1; simpa [cntR] using this
        · have := hf.2.2; simpa [sumR] using this
        · simpa [cntR] using CT.out
        · simpa [sumR] using CS.out
      case round =>
        obtain ⟨i, hi, rfl, hall, hcn, hsm, hbr, rt, rs⟩ := hrel
        have HALL := Hid.mk hall
        have HCN := Hid.mk hcn
        have HSM := Hid.mk hsm
        have RT := Hid.mk rt
        have RS := Hid.mk rs
        clear hall hcn hsm rt rs hc31
        by_cases hlt : i < rows.length
        · obtain ⟨r, hr⟩ : ∃ r, rows[i]? = some r := ⟨_, List.getElem?_eq_getElem hlt⟩
          obtain ⟨x, hx⟩ : ∃ x, vs[i]? = some x := ⟨_, List.getElem?_eq_getElem (by rw [HVL.out]; exact hlt)⟩
          rcases HC.out with hnil | ⟨b, o, rfl, hl, hc⟩
          · rw [hnil] at hx; simp at hx
          · have hcx := ((KEY.out _ hbr).cell (p := ⟨b, o + i, none⟩) hl).trans (hc i x hx)
            have hrx := (HRS.out i x r hx hr).below hbb
            have HR := Hid.mk hr
            have hltI : (i : Int) < (rows.length : Int) := by omega
            have hst := Hid.mk (rows_step hr)
            have hrl := HS2.out r (List.mem_of_getElem? hr)
            clear hc hr hx
            go_wp2_with fail
            refine (mayBe_any w0 _ x r (w.heap.size + 1) (w.heap.size + 1 + 1) _ _ hrx hbr (by omega) (by omega) (by omega) RT.out RS.out HCN.out HSM.out hrl).mono ?_
            rintro e w2 ⟨hb2, ⟨rfl, hf2, ct2, cs2⟩ | ⟨rfl, hf2⟩⟩
            · have HA2 := Hid.mk (take_rows HALL.out HR.out hf2.2.1)
              have HF2 := Hid.mk hf2
              have CT2 := Hid.mk ct2
              have CS2 := Hid.mk cs2
              clear hf2 ct2 cs2 hcx
              go_wp2
              go_roundw
              case rel =>
                obtain ⟨g1, g2⟩ := hst.out
                refine ⟨i + 1, by omega, by go_num, HA2.out, ?_, ?_, hb2, ?_, ?_⟩
                · rw [g1]; have := HF2.out.1; omega
                · rw [g2]; have := HF2.out.2.2; omega
                · rw [g1, ← Nat.add_assoc]; exact CT2.out
                · rw [g2, ← Nat.add_assoc]; exact CS2.out
              case measure => simp [intOf]; omega
            · have HV : Hid (decide (NoteD.mk kind nums texts rows).textsFit = false) := Hid.mk (decide_eq_false (fun h => by
                obtain ⟨⟨_, q2, _, q4⟩, q5⟩ := h
                simp only [NoteD.size] at q2 q4 q5
                obtain ⟨g1, g2⟩ := hst.out
                have g3 := cntR_take_le rows (i + 1)
                exact hf2 ⟨by omega, q4 r (List.mem_of_getElem? HR.out), by omega⟩))
              clear hf2 hcx
              go_wp2
              go_ret
              exact ⟨by rw [HV.out]; rfl, KEY.out _ hb2⟩
        · have hall := HALL.out
          have hcn := HCN.out
          have hsm := HSM.out
          rw [List.take_of_length_le (by omega)] at hall hcn hsm
          have HV : Hid (decide (NoteD.mk kind nums texts rows).textsFit = true) := Hid.mk (decide_eq_true ⟨⟨by simp only; omega, hcn, HF.out.2.1, hall⟩, hsm⟩)
          clear hall hcn hsm
          go_wp2
          go_ret
          exact ⟨by rw [HV.out]; rfl, KEY.out _ hbr⟩
    · have HV : Hid (decide (NoteD.mk kind nums texts rows).textsFit = false) := Hid.mk (decide_eq_false (fun h => by
        obtain ⟨⟨_, q2, q3, _⟩, q5⟩ := h
        simp only [NoteD.size] at q2 q3 q5
        exact hf ⟨by omega, q3, by omega⟩))
      clear hf
      go_wp2
      go_ret
      exact ⟨by rw [HV.out]; rfl, KEY.out _ hb1⟩
end Go.Proofs.Ytifmpcldiimdbaa

namespace Go.Proofs.Ytifmpcldiimdbaa
open Go.RowKit Go.Shelf

theorem writeString_k (B b : Nat) (bs : List Value) (s : ByteArray) (w : World) (h : Lib.IsBuilderF 106 5 B b bs w) (hlen : bs.length + s.size ≤ 140737488355328) (hBw : B ≤ w.heap.size) :
    Calls Try.prog 60 #[.pointer (some ⟨b, 0, none⟩), .string s] w fun e w' => e = .returned (.tuple #[.int .i64 s.size, .nilIface]) ∧ (Lib.BuilderAtF 106 5 B b (.pointer (some ⟨b, 0, none⟩)) (bs ++ Lib.strCells s) w' ∧ Below B w w' ∧ Lib.OthersKept 5 (some b) w w') :=
  Any.Builder_WriteString_k lays166 extraB B b bs s w h hlen hBw

/-- The value of 'put', the builder being block b. -/
abbrev putV (b : Nat) : Value := .func (.func 59) #[] #[.pointer (some ⟨b, 0, none⟩)]
/-- What holds while a body is written: the builder holds 'out', 'put' lies where it lay, what was there stays. -/
def BodyInv (w0 w : World) (out : List UInt8) : Prop :=
  Lib.IsBuilderF 106 5 w0.heap.size w0.heap.size (Lib.byteCells out) w ∧ One w (w0.heap.size + 1) 111 (putV w0.heap.size) ∧ Below w0.heap.size w0 w

theorem builderF_below {w w' : World} {T e : TypeId} {B b : Nat} {bs : List Value} (h : Lib.IsBuilderF T e B b bs w) (hb : Below w.heap.size w w') : Lib.IsBuilderF T e B b bs w' := by
  have key : ∀ p, Lib.BuilderAtF T e B b p bs w → Lib.BuilderAtF T e B b p bs w' := by
    rintro p h
    have hlt := h.lt
    obtain ⟨h1, v, h2, h3, h4⟩ := h
    refine ⟨h1, v, (hb.block b hlt).trans h2, ?_, h4⟩
    obtain ⟨g1, g2⟩ := h3
    refine ⟨g1, ?_⟩
    rcases g2 with g2 | ⟨g, cap, cur, fz, e1, e2, e3, e4⟩
    · exact .inl g2
    · exact .inr ⟨g, cap, cur, fz, e1, e2, (hb.block g (lt_of_block e3)).trans e3, e4⟩
  rcases h with h | h
  · exact .inl (key _ h)
  · exact .inr (key _ h)

theorem BodyInv.below {w0 w w' : World} {out : List UInt8} (h : BodyInv w0 w out) (hb : Below w.heap.size w w') : BodyInv w0 w' out := by
  obtain ⟨h1, h2, h3⟩ := h
  exact ⟨builderF_below h1 hb, (hb.block _ (lt_of_block h2)).trans h2, h3.trans (hb.mono h3.size)⟩
theorem BodyInv.drew {w0 w : World} {out : List UInt8} (h : BodyInv w0 w out) : BodyInv w0 w.drew out := h.below (Below.refl _ _).drew

theorem byteCells_len (l : List UInt8) : (Lib.byteCells l).length = l.length := Lib.byteCells_length l

set_option maxRecDepth 100000 in
set_option maxHeartbeats 400000 in
theorem put_any (w0 w : World) (l : List UInt8) (e : Int) (out : List UInt8) (h : BodyInv w0 w out) (hlen : out.length + l.length ≤ 140737488355328) :
    Calls Try.prog 59 #[.string ⟨l.toArray⟩, .int .i64 e, .pointer (some ⟨w0.heap.size, 0, none⟩)] w fun e w' => e = .returned (.tuple #[]) ∧ BodyInv w0 w' (out ++ l) := by
  obtain ⟨h1, h2, h3⟩ := h
  have H2 := Hid.mk h2
  clear h2
  go_enter Try.func59, Try.ntmps59
  go_wp2_with fail
  refine (writeString_k _ _ _ _ _ h1 (by rw [byteCells_len, size_list]; exact hlen) h3.size).mono ?_
  rintro e w1 ⟨rfl, hb1, hl1, hk1⟩
  go_wp2
  go_end0
  refine ⟨rfl, ?_, ?_, h3.trans hl1⟩
  · rw [← byteCells_str]; exact .inr hb1
  · exact hk1 _ _ H2.out (by simp) (by intro c fz h; simp at h)

set_option maxRecDepth 100000 in
set_option maxHeartbeats 1000000 in
theorem numPut_any (w0 w : World) (m : Nat) (out : List UInt8) (h : BodyInv w0 w out) (hm : m < 2 ^ 63) (hlen : out.length + 9 ≤ 140737488355328) :
    Calls Try.prog 61 #[.int .i64 m, .pointer (some ⟨w0.heap.size + 1, 0, none⟩)] w fun e w' => e = .returned (.tuple #[]) ∧ BodyInv w0 w' (out ++ numB m) := by
  have hc := cell_of_one h.2.1
  have H := Hid.mk h
  have h9 := numB_le m
  clear h
  go_enter Try.func61, Try.ntmps61
  go_wp2_with fail
  go_region_held (fun w' => w'.cell? ⟨w0.heap.size + 1, 0, none⟩ = some (putV w0.heap.size))
    (first | exact hc | (exact cell_of_one (by assumption : BodyInv _ _ _).2.1))
    (first
      | (go_at_call 62; refine (putNum_pos _ _ hm).mono ?_; rintro e w1 ⟨rfl, hb1⟩; have hi1 := H.out.drew.below hb1)
      | (go_at_call 59; refine (put_any _ _ _ _ _ (by assumption) (by omega)).mono ?_; rintro e w2 ⟨rfl, hi2⟩))
  go_end0
  exact ⟨rfl, hi2⟩

theorem StrsAt.drew {w : World} {v : Value} {ls : List (List UInt8)} (h : StrsAt w v ls) : StrsAt w.drew v ls := h.below (Below.refl _ _).drew

set_option maxRecDepth 100000 in
set_option maxHeartbeats 1000000 in
theorem listPut_any (w0 w : World) (v : Value) (ls : List (List UInt8)) (out : List UInt8) (h : BodyInv w0 w out) (hv : StrsAt w v ls) (hl : ls.length ≤ 4096) (hs : shortL ls) (hlen : out.length + (listB ls).length ≤ 140737488355328) :
    Calls Try.prog 63 #[v, .pointer (some ⟨w0.heap.size + 1, 0, none⟩)] w fun e w' => e = .returned (.tuple #[]) ∧ BodyInv w0 w' (out ++ listB ls) := by
  have hc := cell_of_one h.2.1
  have H := Hid.mk h
  have HV := Hid.mk hv.drew
  have HP : Hid (putListV ls = .tuple #[.string ⟨(listB ls).toArray⟩, .int .i64 0]) := Hid.mk (putListV_of (putListP_ok ls hl hs))
  have HS : Hid (ls.length ≤ 4096 → ∀ t ∈ ls, t.length ≤ 140737488355328) := Hid.mk (fun _ t ht => Nat.le_trans (hs t ht) (by decide))
  clear h hs hv
  go_enter Try.func63, Try.ntmps63
  go_wp2_with fail
  go_region_held (fun w' => w'.cell? ⟨w0.heap.size + 1, 0, none⟩ = some (putV w0.heap.size))
    (first | exact hc | (exact cell_of_one (by assumption : BodyInv _ _ _).2.1))
    (first
      | (go_at_call 64; refine (putList_any _ _ _ HV.out HS.out).mono ?_; rintro e w1 ⟨rfl, hb1⟩; rw [HP.out]; have hi1 := H.out.drew.below hb1)
      | (go_at_call 59; refine (put_any _ _ _ _ _ (by assumption) hlen).mono ?_; rintro e w2 ⟨rfl, hi2⟩))
  go_end0
  exact ⟨rfl, hi2⟩

/-- What bodyOf answers. -/
def bodyV (n : NoteD) : Value := if n.may then .tuple #[.string ⟨n.body.toArray⟩, .int .i64 0] else .tuple #[.string ⟨#[]⟩, .int .i64 1]

theorem bodyInv_start (w : World) : BodyInv w ((w.alloc (.cells #[.pointer none, .slice none 0 0] 106)).alloc (.cells #[putV w.heap.size] 111)) [] := by
  have hf := Lib.IsBuilderF.of (Lib.fresh_isBuilder 106 5 w)
  have hb : Below w.heap.size w (w.alloc (.cells #[.pointer none, .slice none 0 0] 106)) := (Below.refl _ _).alloc (Nat.le_refl _) _
  refine ⟨builderF_below hf ((Below.refl _ _).alloc (Nat.le_refl _) _), ?_, hb.alloc (by simp) _⟩
  have := box_at (w.alloc (.cells #[.pointer none, .slice none 0 0] 106)) (.cells #[putV w.heap.size] 111)
  rw [show (w.alloc (.cells #[.pointer none, .slice none 0 0] 106)).heap.size = w.heap.size + 1 from by simp] at this
  exact this

theorem box_cells {w w1 : World} {c0 c1 c2 c3 : Value} {t : TypeId} (h : Below (w.alloc (.cells #[c0, c1, c2, c3] t)).heap.size (w.alloc (.cells #[c0, c1, c2, c3] t)) w1) :
    w1.cell? ⟨w.heap.size, 0, none⟩ = some c0 ∧ w1.cell? ⟨w.heap.size, 1, none⟩ = some c1 ∧ w1.cell? ⟨w.heap.size, 2, none⟩ = some c2 ∧ w1.cell? ⟨w.heap.size, 3, none⟩ = some c3 := by
  have key : ∀ i, w1.cell? ⟨w.heap.size, i, none⟩ = (#[c0, c1, c2, c3])[i]? := fun i => (h.cell (p := ⟨w.heap.size, i, none⟩) (by simp)).trans (World.cell?_alloc_at _ _ _ _ rfl)
  exact ⟨key 0, key 1, key 2, key 3⟩

theorem body_of_parts (n : NoteD) (k : Nat) (hk : n.kind = k) : [] ++ numB k ++ numB n.nums.length ++ numsB n.nums ++ listB n.texts ++ numB n.rows.length ++ rowsB n.rows = n.body := by
  simp [NoteD.body, hk]
theorem listB_le {n : NoteD} (h : n.textsFit) : (listB n.texts).length ≤ 1085450 := by
  have a := textsB_le2 n.texts h.1.2.2.1
  have b := numB_le n.texts.length
  have c := h.1.2.1
  have d := h.2
  simp only [NoteD.size] at d
  rw [listB, List.length_append]; omega
theorem rowsB_take_le {n : NoteD} (h : n.textsFit) (i : Nat) : (rowsB (n.rows.take i)).length ≤ 1122304 := by
  have a := rowsB_le (n.rows.take i) (fun r hr => h.1.2.2.2 r (List.mem_of_mem_take hr))
  have b := cntR_take_le n.rows i
  have c := h.1.2.1
  have d := h.2
  have e := h.1.1
  simp only [NoteD.size] at d
  rw [List.length_take] at a
  have f : min i n.rows.length ≤ 4096 := by omega
  omega
theorem row_le {n : NoteD} (h : n.textsFit) {r : List (List UInt8)} (hr : r ∈ n.rows) : (listB r).length ≤ 1085450 ∧ r.length ≤ 4096 := by
  have a := textsB_le2 r (h.1.2.2.2 r hr)
  have b := numB_le r.length
  have c := h.1.2.1
  have d := h.2
  have e := len_le_cntR hr
  have f : sumL r ≤ sumR n.rows := by
    clear a b c d e
    generalize n.rows = rs at *
    induction rs with
    | nil => simp at hr
    | cons t ls ih =>
      simp only [sumR, List.map_cons, List.sum_cons] at *
      rcases List.mem_cons.1 hr with rfl | hr
      · omega
      · have := ih hr; omega
  simp only [NoteD.size] at d
  rw [listB, List.length_append]; omega
theorem numsB_step {ns : List Int} {i m : Nat} (h : ns[i]? = some (m : Int)) : numsB (ns.take (i + 1)) = numsB (ns.take i) ++ numB m := by
  rw [List.take_add_one, h, Option.toList_some, numsB_snoc, Int.toNat_natCast]
theorem rowsB_step {rs : List (List (List UInt8))} {i : Nat} {r : List (List UInt8)} (h : rs[i]? = some r) : rowsB (rs.take (i + 1)) = rowsB (rs.take i) ++ listB r := by
  rw [List.take_add_one, h, Option.toList_some, rowsB_snoc]

set_option maxHeartbeats 2000000 in
set_option maxRecDepth 100000 in
theorem bodyOf_any (v : Value) (n : NoteD) (w : World) (h : NoteAt w v n) (hs : n.sane) :
    Calls Try.prog 47 #[v] w fun e w' => e = .returned (bodyV n) ∧ Below w.heap.size w w' := by
  have hN := h
  obtain ⟨vn, vt, vr, rfl, hn, ht, hr⟩ := h
  have hbb : Below w.heap.size w (w.alloc (.cells #[.int .i64 n.kind, vn, vt, vr] 36)) := (Below.refl _ _).alloc (Nat.le_refl _) _
  have N0 := Hid.mk (hN.below hbb)
  have HS := Hid.mk hs
  have hsz : (w.alloc (.cells #[.int .i64 n.kind, vn, vt, vr] 36)).heap.size = w.heap.size + 1 := by simp
  clear hN hs
  by_cases hno : n.numsOk
  · have hd : decide n.numsOk = true := decide_eq_true hno
    have HD := Hid.mk hd
    clear hd
    by_cases htf : n.textsFit
    · have hd2 : decide n.textsFit = true := decide_eq_true htf
      have HD2 := Hid.mk hd2
      clear hd2
      have HNO := Hid.mk hno
      have HTF := Hid.mk htf
      clear hno htf
      have HBB := Hid.mk hbb
      clear hbb
      go_enter Try.func47, Try.ntmps47
      go_wp2_with fail
      refine (numsMayBe_any _ n _ N0.out).mono ?_
      rintro e w1 ⟨rfl, hb1⟩
      rw [HD.out]
      have N1 := Hid.mk (N0.out.below hb1)
      obtain ⟨g0, g1, g2, g3⟩ := box_cells hb1
      go_wp2_with fail
      refine (textsMayBe_any _ n _ N1.out HS.out).mono ?_
      rintro e w2 ⟨rfl, hb2⟩
      rw [HD2.out]
      have hbx := hb1.trans (hb2.mono hb1.size)
      have hb12 := HBB.out.trans (hbx.mono (by simp))
      have BOX := Hid.mk hbx
      have CELLS : Hid (∀ w3 out, BodyInv w2 w3 out → w3.cell? ⟨w.heap.size, 0, none⟩ = some (.int .i64 n.kind) ∧ w3.cell? ⟨w.heap.size, 1, none⟩ = some vn ∧ w3.cell? ⟨w.heap.size, 2, none⟩ = some vt ∧ w3.cell? ⟨w.heap.size, 3, none⟩ = some vr) :=
        Hid.mk (fun w3 out h3 => box_cells (BOX.out.trans (h3.2.2.mono BOX.out.size)))
      have KEEP : Hid (∀ w3 out, BodyInv w2 w3 out → Below w.heap.size w w3) := Hid.mk (fun w3 out h3 => hb12.trans (h3.2.2.mono hb12.size))
      have HI := Hid.mk (bodyInv_start w2)
      have HW2 : Hid (w.heap.size ≤ w2.heap.size) := Hid.mk hb12.size
      clear hb1 hb2 g0 g1 g2 g3 hbx hb12 N1 N0 HD HD2 HBB BOX
      obtain ⟨k, hk⟩ : ∃ k : Nat, n.kind = (k : Int) := ⟨n.kind.toNat, (Int.toNat_of_nonneg (by have := HNO.out.1; omega)).symm⟩
      have hk255 : k ≤ 255 := by have := HNO.out.2.1; omega
      have HK := Hid.mk hk
      obtain ⟨g0, g1, g2, g3⟩ := CELLS.out _ _ HI.out
      rw [hk] at g0
      obtain ⟨hlen, ao, cap, rfl, hc⟩ := hn
      rw [intCs_len] at *
      have hl64 := HNO.out.2.2.1
      have hk9 := numB_le k
      have hn9 := numB_le n.nums.length
      clear hk
      have hst : ∀ (a : Addr) (m : Mode) (w : World) (fn : Fn) (f c : Array Value), (store a (.func fn f c) m).run Try.prog w = stored Try.prog w a (.func fn f c) m := fun a m w fn f c => run_store Try.prog w a _ m rfl
      go_wp2_with fail
      refine (numPut_any w2 _ k [] HI.out (by omega) (by simp)).mono ?_
      rintro e w3 ⟨rfl, hi3⟩
      have H3 := Hid.mk hi3
      clear hi3 g0 g1 g2 g3 HI
      obtain ⟨g0, g1, g2, g3⟩ := CELLS.out _ _ H3.out
      clear hst
      go_wp2_with fail
      refine (numPut_any w2 _ n.nums.length ([] ++ numB k) H3.out (by omega) (by simp; omega)).mono ?_
      rintro e w4 ⟨rfl, hi4⟩
      have H4 := Hid.mk hi4
      clear hi4 g0 g1 g2 g3 H3
      obtain ⟨g0, g1, g2, g3⟩ := CELLS.out _ _ H4.out
      have HC := Hid.mk hc
      clear hc
      go_wp2
      clear g0 g1 g2 g3
      go_loopw [35] (fun c wr => ∃ i : Nat, i ≤ n.nums.length ∧ c = .int .i64 i ∧ BodyInv w2 wr ([] ++ numB k ++ numB n.nums.length ++ numsB (n.nums.take i))) (fun c _ => n.nums.length - (intOf c).toNat)
      case atStart => exact ⟨0, Nat.zero_le _, rfl, by simpa [numsB] using H4.out⟩
      case round =>
        obtain ⟨i, hi, rfl, hir⟩ := hrel
        have hbr := KEEP.out _ _ hir
        have HR := Hid.mk hir
        clear hir H4
        by_cases hlt : i < n.nums.length
        · obtain ⟨x, hx⟩ : ∃ x, n.nums[i]? = some x := ⟨_, List.getElem?_eq_getElem hlt⟩
          have hg := HNO.out.2.2.2 x (List.mem_of_getElem? hx)
          obtain ⟨m, rfl⟩ : ∃ m : Nat, x = (m : Int) := ⟨x.toNat, (Int.toNat_of_nonneg hg.1).symm⟩
          have hm63 : m < 2 ^ 63 := by have := hg.2; omega
          rcases HC.out with hnil | ⟨b, o, rfl, hl, hc⟩
          · exfalso
            have := intCs_len n.nums
            rw [hnil] at this
            simp at this
            omega
          · have hcx := (hbr.cell (p := ⟨b, o + i, none⟩) hl).trans (hc i (.int .i64 m) (by rw [intCs, List.getElem?_map, hx]; rfl))
            have HX := Hid.mk (numsB_step hx)
            have hltI : (i : Int) < (n.nums.length : Int) := by omega
            have hnl := numsB_le (n.nums.take i)
            rw [List.length_take, Nat.min_eq_left hi] at hnl
            clear hc hx hg
            go_wp2_with fail
            refine (numPut_any w2 _ m _ HR.out hm63 (by simp only [List.length_append, List.length_nil]; omega)).mono ?_
            rintro e w5 ⟨rfl, hi5⟩
            have H5 := Hid.mk hi5
            clear hi5 hcx hbr HR
            go_wp2
            go_roundw
            case rel => exact ⟨i + 1, by omega, by go_num, by rw [HX.out, ← List.append_assoc]; exact H5.out⟩
            case measure => simp [intOf]; omega
        · have hir := HR.out
          rw [List.take_of_length_le (by omega)] at hir
          have HR2 := Hid.mk hir
          clear hir HR
          obtain ⟨W5, hW5⟩ : ∃ W, W = wr := ⟨_, rfl⟩
          subst hW5
          obtain ⟨g0, g1, g2, g3⟩ := CELLS.out _ _ HR2.out
          have hT := ht.below hbr
          have HT := Hid.mk hT
          have hnl := numsB_le n.nums
          have hL := listB_le HTF.out
          have hro := HTF.out.1.1
          obtain ⟨O1, hO1⟩ : ∃ O, O = [] ++ numB k ++ numB n.nums.length ++ numsB n.nums := ⟨_, rfl⟩
          have hO1l : O1.length ≤ 594 := by rw [hO1]; simp only [List.length_append, List.length_nil]; omega
          rw [← hO1] at HR2
          have HO1 := Hid.mk hO1
          clear hT hO1 hk9 hn9 hnl
          go_wp2_with fail
          refine (listPut_any w2 _ vt n.texts O1 HR2.out HT.out (by have := HTF.out.1.2.1; omega) HTF.out.1.2.2.1 (by omega)).mono ?_
          rintro e w6 ⟨rfl, hi6⟩
          have H6 := Hid.mk hi6
          clear hi6 g0 g1 g2 g3 HR2 HT
          obtain ⟨g0, g1, g2, g3⟩ := CELLS.out _ _ H6.out
          obtain ⟨hlen2, ao2, cap2, vs, rfl, hvl, hc2, hrs⟩ := hr.parts
          have HVL := Hid.mk hvl
          have HC2 := Hid.mk hc2
          have HRS := Hid.mk hrs
          have hr9 := numB_le n.rows.length
          clear hvl hc2 hrs
          go_wp2_with fail
          refine (numPut_any w2 _ n.rows.length (O1 ++ listB n.texts) H6.out (by omega) (by simp only [List.length_append]; omega)).mono ?_
          rintro e w7 ⟨rfl, hi7⟩
          have H7 := Hid.mk hi7
          clear hi7 g0 g1 g2 g3 H6
          obtain ⟨g0, g1, g2, g3⟩ := CELLS.out _ _ H7.out
          go_wp2
          clear g0 g1 g2 g3
          go_loopw [55] (fun c wr => ∃ i : Nat, i ≤ n.rows.length ∧ c = .int .i64 i ∧ BodyInv w2 wr (O1 ++ listB n.texts ++ numB n.rows.length ++ rowsB (n.rows.take i))) (fun c _ => n.rows.length - (intOf c).toNat)
          case atStart => exact ⟨0, Nat.zero_le _, rfl, by simpa [rowsB] using H7.out⟩
          case round =>
            clear hi
            obtain ⟨i, hi, rfl, hir⟩ := hrel
            have hbr2 := KEEP.out _ _ hir
            have HR := Hid.mk hir
            clear hir H7 hbr
            by_cases hlt2 : i < n.rows.length
            · obtain ⟨r, hx⟩ : ∃ x, n.rows[i]? = some x := ⟨_, List.getElem?_eq_getElem hlt2⟩
              obtain ⟨x, hy⟩ : ∃ x, vs[i]? = some x := ⟨_, List.getElem?_eq_getElem (by rw [HVL.out]; exact hlt2)⟩
              have hrm := List.mem_of_getElem? hx
              rcases HC2.out with hnil | ⟨b, o, rfl, hl, hc⟩
              · rw [hnil] at hy; simp at hy
              · have hcx := (hbr2.cell (p := ⟨b, o + i, none⟩) hl).trans (hc i x hy)
                have HX := Hid.mk (rowsB_step hx)
                have hX := (HRS.out i x r hy hx).below hbr2
                have HXS := Hid.mk hX
                have hltI : (i : Int) < (n.rows.length : Int) := by omega
                have hnl := rowsB_take_le HTF.out i
                obtain ⟨hrl, hrc⟩ := row_le HTF.out hrm
                have HSH := Hid.mk (HTF.out.1.2.2.2 r hrm)
                clear hc hx hy hX hrm
                go_wp2_with fail
                refine (listPut_any w2 _ x r _ HR.out HXS.out hrc HSH.out (by simp only [List.length_append]; omega)).mono ?_
                rintro e w8 ⟨rfl, hi8⟩
                have H8 := Hid.mk hi8
                clear hi8 hcx hbr2 HR
                go_wp2
                go_roundw
                case rel => exact ⟨i + 1, by omega, by go_num, by rw [HX.out, ← List.append_assoc]; exact H8.out⟩
                case measure => simp [intOf]; omega
            · have hir := HR.out
              rw [List.take_of_length_le (by omega), HO1.out, body_of_parts n k HK.out] at hir
              have HR2 := Hid.mk hir
              clear hir HR
              have hbl : (Lib.byteCells n.body).length = n.body.length := byteCells_len _
              obtain ⟨W8, hW8⟩ : ∃ W, W = wr := ⟨_, rfl⟩
              subst hW8
              by_cases hmb : 1048576 < n.body.length
              · have HV : Hid (bodyV n = .tuple #[.string ⟨#[]⟩, .int .i64 1]) := Hid.mk (if_neg (fun hm => by have := hm.2.2; omega))
                have hmbI : (1048576 : Int) < (n.body.length : Int) := by omega
                go_wp2_with fail
                refine (Try.Builder_Len_f _ _ _ _ HR2.out.1).mono ?_
                rintro e w9 ⟨rfl, rfl⟩
                rw [hbl]
                go_wp2
                go_ret2
                exact ⟨by rw [HV.out]; rfl, hbr2⟩
              · have HV : Hid (bodyV n = .tuple #[.string ⟨n.body.toArray⟩, .int .i64 0]) := Hid.mk (if_pos ⟨HNO.out, HTF.out.1, by omega⟩)
                have hmbI : ¬ (1048576 : Int) < (n.body.length : Int) := by omega
                go_wp2_with fail
                refine (Try.Builder_Len_f _ _ _ _ HR2.out.1).mono ?_
                rintro e w9 ⟨rfl, rfl⟩
                rw [hbl]
                clear hbl hmb hlt2 hlt hlen hlen2 hl64 hL hro hO1l hr9 hk255
                obtain ⟨L, hL⟩ : ∃ L : Int, L = (n.body.length : Int) := ⟨_, rfl⟩
                rw [← hL] at hmbI ⊢
                clear hL
                go_wp2_with fail
                refine (Try.Builder_String_any_f _ _ _ _ HR2.out.1 HR2.out.2.2.size).mono ?_
                rintro e w10 ⟨rfl, _, hb10⟩
                have HB10 : Hid (Below w.heap.size w w10) := Hid.mk (hbr2.trans (hb10.mono (by have := HW2.out; omega)))
                clear hb10
                go_wp2
                go_ret2
                exact ⟨by rw [HV.out]; rfl, HB10.out⟩
    · have hd2 : decide n.textsFit = false := decide_eq_false htf
      have HD2 := Hid.mk hd2
      have HV : Hid (bodyV n = .tuple #[.string ⟨#[]⟩, .int .i64 1]) := Hid.mk (if_neg (fun hm => htf ⟨hm.2.1, Nat.le_trans (size_le_body n) hm.2.2⟩))
      clear hd2 htf hno
      have HBB := Hid.mk hbb
      clear hbb
      go_enter Try.func47, Try.ntmps47
      go_wp2_with fail
      refine (numsMayBe_any _ n _ N0.out).mono ?_
      rintro e w1 ⟨rfl, hb1⟩
      rw [HD.out]
      have N1 := Hid.mk (N0.out.below hb1)
      obtain ⟨g0, g1, g2, g3⟩ := box_cells hb1
      go_wp2_with fail
      refine (textsMayBe_any _ n _ N1.out HS.out).mono ?_
      rintro e w2 ⟨rfl, hb2⟩
      rw [HD2.out]
      have hb12 := HBB.out.trans ((hb1.trans (hb2.mono hb1.size)).mono (by simp))
      clear hb1 hb2 g0 g1 g2 g3
      go_wp2
      go_ret2
      exact ⟨by rw [HV.out]; rfl, hb12⟩
  · have hd : decide n.numsOk = false := decide_eq_false hno
    have HD := Hid.mk hd
    have HV : Hid (bodyV n = .tuple #[.string ⟨#[]⟩, .int .i64 1]) := Hid.mk (if_neg (fun hm => hno hm.1))
    clear hd hno
    have HBB := Hid.mk hbb
    clear hbb
    go_enter Try.func47, Try.ntmps47
    go_wp2_with fail
    refine (numsMayBe_any _ n _ N0.out).mono ?_
    rintro e w1 ⟨rfl, hb1⟩
    rw [HD.out]
    go_wp2
    go_ret2
    exact ⟨by rw [HV.out]; rfl, HBB.out.trans (hb1.mono (by simp))⟩
end Go.Proofs.Ytifmpcldiimdbaa

namespace Go.Proofs.Ytifmpcldiimdbaa
open Go.RowKit

theorem four_conv (n : Nat) (w : World) (hn : n < 4294967296) :
    (convert 104 9 (.slice (some ⟨w.heap.size, 0, none⟩) 4 4)).run Try.prog (w.alloc (.cells #[.int .u8 ((n : Int) / 16777216), .int .u8 ((n : Int) / 65536 % 256), .int .u8 ((n : Int) / 256 % 256), .int .u8 ((n : Int) % 256)] 5))
      = .ok (.string ⟨(fourB n).toArray⟩) (w.alloc (.cells #[.int .u8 ((n : Int) / 16777216), .int .u8 ((n : Int) / 65536 % 256), .int .u8 ((n : Int) / 256 % 256), .int .u8 ((n : Int) % 256)] 5)) := by
  refine run_convert_bytes_back (P := Try.prog) _ 104 9 5 ⟨w.heap.size, 0, none⟩ 4 (fourB n) Try.underlying104 Try.underlying5 Try.underlying9 (fun j hj => ?_)
  rw [show (⟨w.heap.size, 0, none⟩ : Addr).add j = ⟨w.heap.size, j, none⟩ from by cases j <;> simp [Addr.add], World.cell?_alloc_at _ _ _ _ rfl]
  have hj4 : j < 4 := hj
  match j, hj4 with
  | 0, _ => simp [fourB]; omega
  | 1, _ => simp [fourB]
  | 2, _ => simp [fourB]
  | 3, _ => simp [fourB]

set_option maxRecDepth 100000 in
set_option maxHeartbeats 1000000 in
theorem putFour_any (n : Nat) (w : World) (hn : n < 4294967296) :
    Calls Try.prog 48 #[.int .i64 n] w fun e w' => e = .returned (.string ⟨(fourB n).toArray⟩) ∧ Below w.heap.size w w' := by
  have hcv := four_conv n w hn
  go_enter Try.func48, Try.ntmps48
  go_wp2
  go_ret
  exact ⟨rfl, (Below.refl _ _).alloc (Nat.le_refl _) _⟩

theorem i64_or_nat (q y k K : Nat) (hK : K = 2 ^ k) (hy : y < K) (h : K * q + y < 9223372036854775808) : bits .or .i64 ((K * q : Nat) : Int) (y : Int) = ((K * q + y : Nat) : Int) := by
  show IntKind.i64.wrap ((BitVec.ofInt 64 ((K * q : Nat) : Int) ||| BitVec.ofInt 64 (y : Int)).toNat : Int) = _
  have e : K * q ||| y = K * q + y := by subst hK; exact (Nat.two_pow_add_eq_or_of_lt hy q).symm
  rw [BitVec.toNat_or, ofInt_i64 _ (by omega), ofInt_i64 y (by omega), e, IntKind.wrap_i64]
  generalize K * q = x at *
  omega

theorem wrap_in (n : Int) (h1 : -9223372036854775808 ≤ n) (h2 : n ≤ 9223372036854775807) : wrap64 n = n := by unfold wrap64; omega
theorem wrap_byte (a : UInt8) (k : Nat) (hk : k ≤ 16777216) : wrap64 (wrap64 (a.toNat : Int) * (k : Int)) = ((k * a.toNat : Nat) : Int) := by
  have ha := a.toNat_lt
  have hm : k * a.toNat ≤ 16777216 * 255 := Nat.mul_le_mul hk (by omega)
  rw [wrap_in (a.toNat : Int) (by omega) (by omega), ← Int.natCast_mul, Nat.mul_comm a.toNat k]
  generalize k * a.toNat = x at *
  exact wrap_in _ (by omega) (by omega)

theorem or_four (a b c d : UInt8) :
    bits BinOp.or IntKind.i64 (bits BinOp.or IntKind.i64 (bits BinOp.or IntKind.i64 (wrap64 (wrap64 (a.toNat : Int) * 16777216)) (wrap64 (wrap64 (b.toNat : Int) * 65536))) (wrap64 (wrap64 (c.toNat : Int) * 256))) (wrap64 (d.toNat : Int))
      = ((beVal [a, b, c, d] : Nat) : Int) := by
  have e1 := wrap_byte a 16777216 (by omega)
  have e2 := wrap_byte b 65536 (by omega)
  have e3 := wrap_byte c 256 (by omega)
  have ha := a.toNat_lt
  have hb := b.toNat_lt
  have hc := c.toNat_lt
  have hd := d.toNat_lt
  have e4 : wrap64 (d.toNat : Int) = (d.toNat : Int) := wrap_in _ (by omega) (by omega)
  have e5 : beVal [a, b, c, d] = 256 * (65536 * a.toNat + 256 * b.toNat + c.toNat) + d.toNat := by
    simp only [beVal, List.foldl_cons, List.foldl_nil]; omega
  rw [e5, e4]
  rw [show ((16777216 : Nat) : Int) = 16777216 from rfl] at e1
  rw [show ((65536 : Nat) : Int) = 65536 from rfl] at e2
  rw [show ((256 : Nat) : Int) = 256 from rfl] at e3
  rw [e1, e2, e3]
  generalize a.toNat = x at *
  generalize b.toNat = y at *
  generalize c.toNat = z at *
  generalize d.toNat = u at *
  rw [i64_or_nat x (65536 * y) 24 16777216 rfl (by omega) (by omega)]
  have g1 : 16777216 * x + 65536 * y = 65536 * (256 * x + y) := by omega
  rw [g1, i64_or_nat (256 * x + y) (256 * z) 16 65536 rfl (by omega) (by omega)]
  have g2 : 65536 * (256 * x + y) + 256 * z = 256 * (65536 * x + 256 * y + z) := by omega
  rw [g2, i64_or_nat (65536 * x + 256 * y + z) u 8 256 rfl (by omega) (by omega)]

theorem take_four (s : ByteArray) (h : 3 < s.size) : s.data.toList.take 4 = [s[0], s[1], s[2], s[3]] := by
  have e3 : s.data.toList.take 4 = _ := take_snoc s 3 h
  have e2 : s.data.toList.take 3 = _ := take_snoc s 2 (by omega)
  have e1 : s.data.toList.take 2 = _ := take_snoc s 1 (by omega)
  have e0 : s.data.toList.take 1 = _ := take_snoc s 0 (by omega)
  rw [e3, e2, e1, e0]
  rfl

set_option maxRecDepth 100000 in
set_option maxHeartbeats 1000000 in
theorem four_any (s : ByteArray) (w : World) (hs : 4 ≤ s.size) :
    Calls Try.prog 82 #[.string s] w fun e w' => e = .returned (.int .i64 (fourN s.data.toList)) ∧ Below w.heap.size w w' := by
  have h0 : 0 < s.size := by omega
  have h1 : 1 < s.size := by omega
  have h2 : 2 < s.size := by omega
  have h3 : 3 < s.size := by omega
  have h1I : (1 : Int) < (s.size : Int) := by omega
  have h2I : (2 : Int) < (s.size : Int) := by omega
  have h3I : (3 : Int) < (s.size : Int) := by omega
  go_enter Try.func82, Try.ntmps82
  go_wp2_with fail
  go_quiet (fail)
  have hbq : Below w.heap.size w (w.drewN nq) := below_drewN (Below.refl _ _) nq
  have hor := or_four (s[0]'h0) (s[1]'h1) (s[2]'h2) (s[3]'h3)
  go_wp2
  go_ret
  exact ⟨(congrArg (fun z => Ending.returned (Value.int .i64 z)) hor).trans (by rw [fourN, take_four s h3]), hbq⟩

/-- What Pack answers. -/
def packV (n : NoteD) : Value := if n.may then .tuple #[.string ⟨(sealB n.body).toArray⟩, .int .i64 0] else .tuple #[.string ⟨#[]⟩, .int .i64 1]


theorem seal_join (b : List UInt8) : (⟨(fourB b.length).toArray⟩ : ByteArray) ++ ⟨(fourB (sumN b)).toArray⟩ ++ ⟨b.toArray⟩ = ⟨(sealB b).toArray⟩ := by
  apply bytes_ext
  rw [append_data, append_data, data_list, data_list, data_list, data_list, sealB, List.append_assoc]

set_option maxRecDepth 100000 in
set_option maxHeartbeats 1000000 in
theorem pack_any (v : Value) (n : NoteD) (w : World) (h : NoteAt w v n) (hs : n.sane) :
    Calls Try.prog 32 #[v] w fun e w' => e = .returned (packV n) ∧ Below w.heap.size w w' := by
  have hN := h
  obtain ⟨vn, vt, vr, rfl, hn, ht, hr⟩ := h
  have hbb : Below w.heap.size w (w.alloc (.cells #[.int .i64 n.kind, vn, vt, vr] 36)) := (Below.refl _ _).alloc (Nat.le_refl _) _
  have N0 := Hid.mk (hN.below hbb)
  have HS := Hid.mk hs
  clear hN hs hn ht hr
  have HBB := Hid.mk hbb
  clear hbb
  by_cases hm : n.may
  · have HV : Hid (bodyV n = .tuple #[.string ⟨n.body.toArray⟩, .int .i64 0]) := Hid.mk (if_pos hm)
    have HP : Hid (packV n = .tuple #[.string ⟨(sealB n.body).toArray⟩, .int .i64 0]) := Hid.mk (if_pos hm)
    have hbl := hm.2.2
    have HJ := Hid.mk (seal_join n.body)
    have HSUM := fun w => sum_any ⟨n.body.toArray⟩ w (by rw [size_list]; omega)
    rw [data_list] at HSUM
    have HSUM := Hid.mk HSUM
    have hsl := sumN_lt n.body
    have hsz := size_list n.body
    clear hm
    obtain ⟨X, hX⟩ : ∃ X, X = sumN n.body := ⟨_, rfl⟩
    rw [← hX] at HSUM hsl HJ
    clear hX
    go_enter Try.func32, Try.ntmps32
    go_wp2_with fail
    refine (bodyOf_any _ n _ N0.out HS.out).mono ?_
    rintro e w1 ⟨rfl, hb1⟩
    rw [HV.out]
    have B1 := Hid.mk (HBB.out.trans (hb1.mono (by simp)))
    clear hb1
    go_wp2_with fail
    refine (putFour_any _ _ (by omega)).mono ?_
    rintro e w2 ⟨rfl, hb2⟩
    have B2 := Hid.mk (B1.out.trans (hb2.mono B1.out.size))
    clear hb2
    go_wp2_with fail
    refine (HSUM.out _).mono ?_
    rintro e w3 ⟨rfl, hb3⟩
    have B3 := Hid.mk (B2.out.trans (hb3.mono B2.out.size))
    clear hb3
    go_wp2_with fail
    refine (putFour_any _ _ hsl).mono ?_
    rintro e w4 ⟨rfl, hb4⟩
    have B4 := Hid.mk (B3.out.trans (hb4.mono B3.out.size))
    clear hb4
    have q1 := fourB_len n.body.length
    have q2 := fourB_len X
    go_wp2
    go_ret2
    exact ⟨by rw [HP.out, ← HJ.out]; rfl, B4.out⟩
  · have HV : Hid (bodyV n = .tuple #[.string ⟨#[]⟩, .int .i64 1]) := Hid.mk (if_neg hm)
    have HP : Hid (packV n = .tuple #[.string ⟨#[]⟩, .int .i64 1]) := Hid.mk (if_neg hm)
    go_enter Try.func32, Try.ntmps32
    go_wp2_with fail
    refine (bodyOf_any _ n _ N0.out HS.out).mono ?_
    rintro e w1 ⟨rfl, hb1⟩
    rw [HV.out]
    go_wp2
    go_ret2
    exact ⟨by rw [HP.out]; rfl, HBB.out.trans (hb1.mono (by simp))⟩
end Go.Proofs.Ytifmpcldiimdbaa
