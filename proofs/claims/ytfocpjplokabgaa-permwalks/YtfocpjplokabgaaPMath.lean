/- Rows of three numbers, orders of places, the order of rows; an index's rows, one list alone; a walk as a path of numbers. -/
import Derived.RowKit
import Derived.Test.YtfocpjplokabgaaProg
namespace Go.Proofs.Ytfocpjplokabgaa

/-- A row. -/
structure R3 where
  a : Int
  b : Int
  c : Int
deriving DecidableEq, Inhabited
def R3.at (r : R3) : Nat → Int
  | 0 => r.a
  | 1 => r.b
  | _ => r.c
/-- An order of places. -/
structure Od where
  x : Nat
  y : Nat
  z : Nat
deriving DecidableEq, Inhabited
def Od.ok (o : Od) : Prop := (o.x < 3 ∧ o.y < 3 ∧ o.z < 3) ∧ o.x ≠ o.y ∧ o.x ≠ o.z ∧ o.y ≠ o.z
def Od.r3 (o : Od) : R3 := ⟨(o.x : Int), (o.y : Int), (o.z : Int)⟩
def Od.at (o : Od) : Nat → Nat
  | 0 => o.x
  | 1 => o.y
  | _ => o.z
/-- Is a row of numbers an order? -/
def IsO (r : R3) : Prop := ∃ o : Od, o.ok ∧ r = o.r3
theorem Od.lt {o : Od} (h : o.ok) (k : Nat) : o.at k < 3 := by
  obtain ⟨⟨h1, h2, h3⟩, _⟩ := h
  match k with
  | 0 => exact h1
  | 1 => exact h2
  | k + 2 => exact h3
theorem od_cases {o : Od} (h : o.ok) : o = ⟨0, 1, 2⟩ ∨ o = ⟨0, 2, 1⟩ ∨ o = ⟨1, 0, 2⟩ ∨ o = ⟨1, 2, 0⟩ ∨ o = ⟨2, 0, 1⟩ ∨ o = ⟨2, 1, 0⟩ := by
  obtain ⟨x, y, z⟩ := o
  obtain ⟨⟨h1, h2, h3⟩, h4, h5, h6⟩ := h
  simp only [Od.mk.injEq]
  simp only at h1 h2 h3 h4 h5 h6
  omega

/-- The numbers of a row in the order of places. -/
def key (o : Od) (r : R3) : List Int := [r.at o.x, r.at o.y, r.at o.z]
theorem key_len (o : Od) (r : R3) : (key o r).length = 3 := rfl
def num (o : Od) (r : R3) (k : Nat) : Int := r.at (o.at k)
theorem key_get (o : Od) (r : R3) {k : Nat} (hk : k < 3) : (key o r)[k]? = some (num o r k) := by
  match k, hk with
  | 0, _ => rfl
  | 1, _ => rfl
  | 2, _ => rfl
theorem key_inj {o : Od} (h : o.ok) {r s : R3} (e : key o r = key o s) : r = s := by
  obtain ⟨a, b, c⟩ := r
  obtain ⟨a2, b2, c2⟩ := s
  rcases od_cases h with rfl | rfl | rfl | rfl | rfl | rfl <;> simp [key, R3.at] at e <;> obtain ⟨e1, e2, e3⟩ := e <;> subst e1 e2 e3 <;> rfl

/-- Lists of numbers, the first number first. -/
def ll : List Int → List Int → Prop
  | a :: x, b :: y => a < b ∨ (a = b ∧ ll x y)
  | _, _ => False
theorem ll_irrefl : ∀ x, ¬ ll x x
  | [] => fun h => h
  | a :: x => fun h => h.elim (fun h => absurd h (by omega)) (fun h => ll_irrefl x h.2)
theorem ll_trans : ∀ x y z, ll x y → ll y z → ll x z
  | [], _, _ => fun h _ => h.elim
  | _ :: _, [], _ => fun h _ => h.elim
  | _ :: _, _ :: _, [] => fun _ h => h.elim
  | a :: x, b :: y, c :: z => fun h1 h2 => by
    rcases h1 with h1 | ⟨rfl, h1⟩
    · rcases h2 with h2 | ⟨rfl, h2⟩
      · exact .inl (by omega)
      · exact .inl h1
    · rcases h2 with h2 | ⟨rfl, h2⟩
      · exact .inl h2
      · exact .inr ⟨rfl, ll_trans x y z h1 h2⟩
theorem ll_cases : ∀ x y : List Int, x.length = y.length → ll x y ∨ x = y ∨ ll y x
  | [], [] => fun _ => .inr (.inl rfl)
  | [], _ :: _ => fun h => by simp at h
  | _ :: _, [] => fun h => by simp at h
  | a :: x, b :: y => fun h => by
    by_cases h1 : a < b
    · exact .inl (.inl h1)
    · by_cases h2 : b < a
      · exact .inr (.inr (.inl h2))
      · have e : a = b := by omega
        subst e
        rcases ll_cases x y (by simpa using h) with h | h | h
        · exact .inl (.inr ⟨rfl, h⟩)
        · exact .inr (.inl (by rw [h]))
        · exact .inr (.inr (.inr ⟨rfl, h⟩))
def cmpL : List Int → List Int → Int
  | a :: x, b :: y => if a < b then -1 else if b < a then 1 else cmpL x y
  | _, _ => 0
theorem cmpL_neg : ∀ x y, cmpL x y < 0 ↔ ll x y
  | [], _ => by simp [cmpL, ll]
  | _ :: _, [] => by simp [cmpL, ll]
  | a :: x, b :: y => by
    simp only [cmpL, ll]
    by_cases h1 : a < b
    · simp [h1]
    · by_cases h2 : b < a
      · simp [h1, h2]
        omega
      · have e : a = b := by omega
        subst e
        simp [cmpL_neg x y]
/-- One row stands ahead of another. -/
def lt (o : Od) (r s : R3) : Prop := ll (key o r) (key o s)
theorem lt_irrefl (o : Od) (r : R3) : ¬ lt o r r := ll_irrefl _
theorem lt_trans {o : Od} {r s t : R3} (h1 : lt o r s) (h2 : lt o s t) : lt o r t := ll_trans _ _ _ h1 h2
theorem lt_cases {o : Od} (ho : o.ok) (r s : R3) : lt o r s ∨ r = s ∨ lt o s r := by
  rcases ll_cases (key o r) (key o s) rfl with h | h | h
  · exact .inl h
  · exact .inr (.inl (key_inj ho h))
  · exact .inr (.inr h)
def cf (o : Od) (r s : R3) : Int := cmpL (key o r) (key o s)

/-- The rows of an index: each once, rising. -/
def Strict (o : Od) (l : List R3) : Prop := l.Pairwise (lt o)
structure IdxOf (o : Od) (rows l : List R3) : Prop where
  strict : Strict o l
  mem : ∀ r, r ∈ l ↔ r ∈ rows
theorem strict_unique {o : Od} : ∀ l m : List R3, Strict o l → Strict o m → (∀ r, r ∈ l ↔ r ∈ m) → l = m
  | [], [] => fun _ _ _ => rfl
  | [], y :: m => fun _ _ h => absurd ((h y).2 (List.mem_cons_self ..)) (by simp)
  | x :: l, [] => fun _ _ h => absurd ((h x).1 (List.mem_cons_self ..)) (by simp)
  | x :: l, y :: m => fun h1 h2 h => by
    obtain ⟨a1, a2⟩ := List.pairwise_cons.1 h1
    obtain ⟨b1, b2⟩ := List.pairwise_cons.1 h2
    have e : x = y := by
      rcases List.mem_cons.1 ((h x).1 (List.mem_cons_self ..)) with e | hx
      · exact e
      · rcases List.mem_cons.1 ((h y).2 (List.mem_cons_self ..)) with e | hy
        · exact e.symm
        · exact absurd (lt_trans (a1 y hy) (b1 x hx)) (lt_irrefl o x)
    subst e
    rw [strict_unique l m a2 b2 (fun r => ⟨fun hr => by
      rcases List.mem_cons.1 ((h r).1 (List.mem_cons_of_mem _ hr)) with e | h3
      · subst e; exact absurd (a1 r hr) (lt_irrefl o r)
      · exact h3, fun hr => by
      rcases List.mem_cons.1 ((h r).2 (List.mem_cons_of_mem _ hr)) with e | h3
      · subst e; exact absurd (b1 r hr) (lt_irrefl o r)
      · exact h3⟩)]
theorem IdxOf.unique {o : Od} {rows rows2 l m : List R3} (h1 : IdxOf o rows l) (h2 : IdxOf o rows2 m) (h : ∀ r, r ∈ rows ↔ r ∈ rows2) : l = m :=
  strict_unique l m h1.strict h2.strict (fun r => (h1.mem r).trans ((h r).trans (h2.mem r).symm))
theorem Strict.nodup {o : Od} {l : List R3} (h : Strict o l) : l.Nodup := h.imp (fun {a b} hab e => by subst e; exact lt_irrefl o a hab)
theorem Strict.at {o : Od} {l : List R3} (h : Strict o l) {i j : Nat} {r s : R3} (hij : i < j) (hi : l[i]? = some r) (hj : l[j]? = some s) : lt o r s := by
  obtain ⟨a1, a2⟩ := List.getElem?_eq_some_iff.1 hi
  obtain ⟨b1, b2⟩ := List.getElem?_eq_some_iff.1 hj
  have := List.pairwise_iff_getElem.1 h i j a1 b1 hij
  rw [a2, b2] at this
  exact this
/-- Strict lists are no longer than the rows. -/
theorem nodup_sub_len : ∀ (l m : List R3), l.Nodup → (∀ r, r ∈ l → r ∈ m) → l.length ≤ m.length
  | [], _ => fun _ _ => Nat.zero_le _
  | x :: l, m => fun hn h => by
    obtain ⟨h1, h2⟩ := List.nodup_cons.1 hn
    have hx := h x (List.mem_cons_self ..)
    have := nodup_sub_len l (m.erase x) h2 (fun r hr => by
      refine (List.mem_erase_of_ne ?_).2 (h r (List.mem_cons_of_mem _ hr))
      intro e; subst e; exact h1 hr)
    rw [List.length_erase_of_mem hx] at this
    have := List.length_pos_of_mem hx
    simp
    omega
theorem IdxOf.len {o : Od} {rows l : List R3} (h : IdxOf o rows l) : l.length ≤ rows.length := nodup_sub_len l rows h.strict.nodup (fun r hr => (h.mem r).1 hr)

/-! The tree. -/
/-- A row begins with some numbers. -/
def mt (o : Od) (q : List Int) (r : R3) : Bool := q.isPrefixOf (key o r)
theorem mt_iff {o : Od} {q : List Int} {r : R3} : mt o q r = true ↔ q <+: key o r := List.isPrefixOf_iff_prefix
theorem mt_nil (o : Od) (r : R3) : mt o [] r = true := rfl
theorem mt_snoc {o : Od} {q : List Int} {x : Int} {r : R3} (hq : q.length < 3) : mt o (q ++ [x]) r = true ↔ mt o q r = true ∧ num o r q.length = x := by
  have hk := key_get o r hq
  rw [mt_iff, mt_iff]
  constructor
  · intro h
    have h1 := (List.prefix_append q [x]).trans h
    refine ⟨h1, ?_⟩
    obtain ⟨t, ht⟩ := h
    rw [← ht] at hk
    simp at hk
    exact hk.symm
  · rintro ⟨⟨t, ht⟩, h2⟩
    rw [← ht] at hk
    cases t with
    | nil => simp at hk
    | cons y t =>
      simp at hk
      subst h2
      rw [← hk, ← ht] 
      exact ⟨t, by simp⟩
theorem mt_take {o : Od} {q : List Int} {r : R3} {k : Nat} (h : mt o q r = true) : mt o (q.take k) r = true := by
  rw [mt_iff] at *
  exact (List.take_prefix k q).trans h
theorem ll_mid : ∀ (q x y z : List Int), q <+: x → q <+: z → ll x y → ll y z → q <+: y
  | [], _, y, _ => fun _ _ _ _ => List.nil_prefix
  | a :: q, x, y, z => fun h1 h2 h3 h4 => by
    cases x with
    | nil => exact h3.elim
    | cons b x =>
      cases y with
      | nil => exact h4.elim
      | cons c y =>
        cases z with
        | nil => exact h4.elim
        | cons d z =>
          obtain ⟨e1, g1⟩ := List.cons_prefix_cons.1 h1
          obtain ⟨e2, g2⟩ := List.cons_prefix_cons.1 h2
          subst e1 e2
          have e : a = c := by
            rcases h3 with h3 | ⟨h3, _⟩ <;> rcases h4 with h4 | ⟨h4, _⟩ <;> omega
          subst e
          have h3 : ll x y := h3.elim (fun h => absurd h (by omega)) (fun h => h.2)
          have h4 : ll y z := h4.elim (fun h => absurd h (by omega)) (fun h => h.2)
          exact List.cons_prefix_cons.2 ⟨rfl, ll_mid q x y z g1 g2 h3 h4⟩
theorem ll_next : ∀ (q x y : List Int) (u v : Int), q <+: x → q <+: y → ll x y → x[q.length]? = some u → y[q.length]? = some v → u ≤ v
  | [], x, y, u, v => fun _ _ h hu hv => by
    cases x with
    | nil => exact h.elim
    | cons b x =>
      cases y with
      | nil => exact h.elim
      | cons c y =>
        simp at hu hv
        subst hu hv
        rcases h with h | ⟨h, _⟩ <;> omega
  | a :: q, x, y, u, v => fun h1 h2 h hu hv => by
    cases x with
    | nil => exact h.elim
    | cons b x =>
      cases y with
      | nil => exact h.elim
      | cons c y =>
        obtain ⟨e1, g1⟩ := List.cons_prefix_cons.1 h1
        obtain ⟨e2, g2⟩ := List.cons_prefix_cons.1 h2
        subst e1 e2
        have h : ll x y := h.elim (fun h => absurd h (by omega)) (fun h => h.2)
        exact ll_next q x y u v g1 g2 h (by simpa using hu) (by simpa using hv)
theorem num_mono {o : Od} {q : List Int} {r s : R3} (hq : q.length < 3) (h1 : mt o q r = true) (h2 : mt o q s = true) (h : lt o r s) : num o r q.length ≤ num o s q.length :=
  ll_next q _ _ _ _ (mt_iff.1 h1) (mt_iff.1 h2) h (key_get o r hq) (key_get o s hq)
theorem mt_mid {o : Od} {q : List Int} {r s t : R3} (h1 : mt o q r = true) (h2 : mt o q t = true) (h3 : lt o r s) (h4 : lt o s t) : mt o q s = true :=
  mt_iff.2 (ll_mid q _ _ _ (mt_iff.1 h1) (mt_iff.1 h2) h3 h4)

/-- From which row on, and as far as which, rows begin with some numbers. -/
def lo (o : Od) (L : List R3) (q : List Int) : Nat := L.findIdx (mt o q)
def hi (o : Od) (L : List R3) (q : List Int) : Nat := lo o L q + (L.drop (lo o L q)).findIdx (fun r => !mt o q r)
theorem lo_le (o : Od) (L : List R3) (q : List Int) : lo o L q ≤ L.length := List.findIdx_le_length
theorem lo_le_hi (o : Od) (L : List R3) (q : List Int) : lo o L q ≤ hi o L q := Nat.le_add_right _ _
theorem hi_le (o : Od) (L : List R3) (q : List Int) : hi o L q ≤ L.length := by
  have h1 := lo_le o L q
  have : (L.drop (lo o L q)).findIdx (fun r => !mt o q r) ≤ (L.drop (lo o L q)).length := List.findIdx_le_length
  rw [List.length_drop] at this
  unfold hi
  omega
theorem span {o : Od} {L : List R3} (hs : Strict o L) (q : List Int) {i : Nat} {r : R3} (hi' : L[i]? = some r) : mt o q r = true ↔ lo o L q ≤ i ∧ i < hi o L q := by
  obtain ⟨hl, he⟩ := List.getElem?_eq_some_iff.1 hi'
  constructor
  · intro h
    have h1 : lo o L q ≤ i := by
      rcases Nat.lt_or_ge i (lo o L q) with h2 | h2
      · have := List.not_of_lt_findIdx h2
        rw [he, h] at this; exact absurd this (by simp)
      · exact h2
    refine ⟨h1, ?_⟩
    rcases Nat.lt_or_ge i (hi o L q) with h2 | h2
    · exact h2
    · exfalso
      have hlo : lo o L q < L.length := by omega
      have m0 : mt o q L[lo o L q] = true := List.findIdx_getElem (w := hlo)
      have hh : (L.drop (lo o L q)).findIdx (fun r => !mt o q r) < (L.drop (lo o L q)).length := by
        rw [List.length_drop]; unfold hi at h2; omega
      have hx := List.findIdx_getElem (w := hh)
      rw [List.getElem_drop] at hx
      have hx2 : mt o q (L[hi o L q]'(by omega)) = false := by
        have : (!mt o q (L[hi o L q]'(by omega))) = true := hx
        simpa using this
      rcases Nat.lt_or_ge (lo o L q) (hi o L q) with h3 | h3
      · rcases Nat.lt_or_ge (hi o L q) i with h4 | h4
        · have := mt_mid (s := L[hi o L q]'(by omega)) m0 h (hs.at h3 (List.getElem?_eq_getElem _) (List.getElem?_eq_getElem _)) (hs.at h4 (List.getElem?_eq_getElem _) hi')
          rw [hx2] at this; cases this
        · have e : hi o L q = i := by omega
          have h5 : mt o q (L[hi o L q]'(by omega)) = true := by
            have : L[hi o L q]'(by omega) = r := by rw [← he]; congr 1
            rw [this]; exact h
          rw [hx2] at h5; cases h5
      · have e : hi o L q = lo o L q := by have := lo_le_hi o L q; omega
        have h5 : L[hi o L q]'(by omega) = L[lo o L q] := by congr 1
        rw [h5, m0] at hx2; cases hx2
  · rintro ⟨h1, h2⟩
    have h3 : i - lo o L q < (L.drop (lo o L q)).findIdx (fun r => !mt o q r) := by unfold hi at h2; omega
    have := List.not_of_lt_findIdx h3
    rw [List.getElem_drop] at this
    have e : L[lo o L q + (i - lo o L q)]'(by omega) = r := by rw [← he]; congr 1; omega
    rw [e] at this
    simpa using this
theorem lo_nil (o : Od) (L : List R3) : lo o L [] = 0 := by
  unfold lo
  cases L with
  | nil => rfl
  | cons x l => simp [List.findIdx_cons, mt_nil]
theorem hi_nil {o : Od} {L : List R3} (hs : Strict o L) : hi o L [] = L.length := by
  have h1 := hi_le o L []
  rcases Nat.lt_or_ge (hi o L []) L.length with h | h
  · have := (span hs [] (List.getElem?_eq_getElem h)).1 (mt_nil _ _)
    omega
  · omega
end Go.Proofs.Ytfocpjplokabgaa
