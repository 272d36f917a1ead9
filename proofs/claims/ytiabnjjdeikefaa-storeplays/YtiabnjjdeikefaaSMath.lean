/- Facts, batches and versions: plain mathematics of layer 7. Walks nothing. -/
import Derived.Test.YtiabnjjdeikefaaVMath
namespace Go.Proofs.Ytiabnjjdeikefaa

/-- A fact: three texts. -/
abbrev Tri := List UInt8 × List UInt8 × List UInt8
def lessT (a b : Tri) : Bool := if a.1 = b.1 then (if a.2.1 = b.2.1 then less a.2.2 b.2.2 else less a.2.1 b.2.1) else less a.1 b.1
theorem lessT_irrefl (a : Tri) : lessT a a = false := by simp only [lessT, if_true]; exact less_irrefl _
theorem less_ne {a b : List UInt8} (h : less a b = true) : a ≠ b := geq_less a b h
theorem lessT_trans (a b c : Tri) (h1 : lessT a b = true) (h2 : lessT b c = true) : lessT a c = true := by
  obtain ⟨a1, a2, a3⟩ := a
  obtain ⟨b1, b2, b3⟩ := b
  obtain ⟨c1, c2, c3⟩ := c
  simp only [lessT] at *
  by_cases e1 : a1 = b1
  · subst e1
    rw [if_pos rfl] at h1
    by_cases e2 : a1 = c1
    · subst e2
      rw [if_pos rfl] at h2 ⊢
      by_cases e3 : a2 = b2
      · subst e3
        rw [if_pos rfl] at h1
        by_cases e4 : a2 = c2
        · subst e4
          rw [if_pos rfl] at h2 ⊢
          exact less_trans _ _ _ h1 h2
        · rw [if_neg e4] at h2 ⊢
          exact h2
      · rw [if_neg e3] at h1
        by_cases e4 : b2 = c2
        · subst e4
          rw [if_neg e3]
          exact h1
        · rw [if_neg e4] at h2
          have h3 := less_trans _ _ _ h1 h2
          rw [if_neg (less_ne h3)]
          exact h3
    · rw [if_neg e2] at h2 ⊢
      exact h2
  · rw [if_neg e1] at h1
    by_cases e2 : b1 = c1
    · subst e2
      rw [if_neg e1]
      exact h1
    · rw [if_neg e2] at h2
      have h3 := less_trans _ _ _ h1 h2
      rw [if_neg (less_ne h3)]
      exact h3
theorem lessT_cases (a b : Tri) (h1 : lessT a b = false) (h2 : lessT b a = false) : a = b := by
  obtain ⟨a1, a2, a3⟩ := a
  obtain ⟨b1, b2, b3⟩ := b
  simp only [lessT] at *
  by_cases e1 : a1 = b1
  · subst e1
    rw [if_pos rfl] at h1 h2
    by_cases e2 : a2 = b2
    · subst e2
      rw [if_pos rfl] at h1 h2
      rw [less_cases _ _ h1 h2]
    · rw [if_neg e2] at h1
      rw [if_neg (Ne.symm e2)] at h2
      exact absurd (less_cases _ _ h1 h2) e2
  · rw [if_neg e1] at h1
    rw [if_neg (Ne.symm e1)] at h2
    exact absurd (less_cases _ _ h1 h2) e1
theorem lessT_asymm {a b : Tri} (h : lessT a b = true) : lessT b a = false := by
  cases hb : lessT b a with
  | false => rfl
  | true => have := lessT_trans a b a h hb; rw [lessT_irrefl] at this; cases this
theorem lessT_ne {a b : Tri} (h : lessT a b = true) : a ≠ b := by
  intro e; subst e; rw [lessT_irrefl] at h; cases h
theorem lessT_ntrans (a b c : Tri) (h1 : lessT a b = false) (h2 : lessT b c = false) : lessT a c = false := by
  cases h : lessT a c with
  | false => rfl
  | true =>
    cases h3 : lessT c b with
    | true => rw [lessT_trans a c b h h3] at h1; cases h1
    | false =>
      have := lessT_cases b c h2 h3
      subst this
      rw [h] at h1; cases h1

/-- Facts in their order, each once. -/
def Rise (l : List Tri) : Prop := l.Pairwise (fun a b => lessT a b = true)
theorem Rise.nodup {l : List Tri} (h : Rise l) : l.Nodup := h.imp (fun h => lessT_ne h)
theorem rise_nil : Rise [] := List.Pairwise.nil
theorem rise_ext : ∀ {l1 l2 : List Tri}, Rise l1 → Rise l2 → (∀ t, t ∈ l1 ↔ t ∈ l2) → l1 = l2
  | [], [], _, _, _ => rfl
  | [], b :: l2, _, _, h => absurd ((h b).2 (by simp)) (by simp)
  | a :: l1, [], _, _, h => absurd ((h a).1 (by simp)) (by simp)
  | a :: l1, b :: l2, h1, h2, h => by
    obtain ⟨g1, r1⟩ := List.pairwise_cons.1 h1
    obtain ⟨g2, r2⟩ := List.pairwise_cons.1 h2
    have hab : a = b := by
      rcases List.mem_cons.1 ((h a).1 (by simp)) with e | e
      · exact e
      · rcases List.mem_cons.1 ((h b).2 (by simp)) with e' | e'
        · exact e'.symm
        · have := lessT_asymm (g2 a e)
          rw [g1 b e'] at this; cases this
    subst hab
    rw [rise_ext r1 r2 (fun t => ?_)]
    constructor
    · intro ht
      rcases List.mem_cons.1 ((h t).1 (List.mem_cons_of_mem _ ht)) with e | e
      · subst e; exact absurd rfl (lessT_ne (g1 t ht))
      · exact e
    · intro ht
      rcases List.mem_cons.1 ((h t).2 (List.mem_cons_of_mem _ ht)) with e | e
      · subst e; exact absurd rfl (lessT_ne (g2 t ht))
      · exact e

/-- With one more; without one. -/
def putT : List Tri → Tri → List Tri
  | [], t => [t]
  | a :: l, t => if lessT a t = true then a :: putT l t else if a = t then a :: l else t :: a :: l
def dropT (l : List Tri) (t : Tri) : List Tri := l.filter fun x => decide (x ≠ t)
theorem mem_putT {x t : Tri} : ∀ {l : List Tri}, x ∈ putT l t ↔ x = t ∨ x ∈ l
  | [] => by simp [putT]
  | a :: l => by
    unfold putT
    by_cases h : lessT a t = true
    · rw [if_pos h, List.mem_cons, mem_putT (l := l), List.mem_cons]
      constructor
      · rintro (h | h | h)
        · exact .inr (.inl h)
        · exact .inl h
        · exact .inr (.inr h)
      · rintro (h | h | h)
        · exact .inr (.inl h)
        · exact .inl h
        · exact .inr (.inr h)
    · rw [if_neg h]
      by_cases e : a = t
      · rw [if_pos e]; subst e; simp
      · rw [if_neg e]; simp
theorem mem_dropT {x t : Tri} {l : List Tri} : x ∈ dropT l t ↔ x ≠ t ∧ x ∈ l := by
  simp [dropT, List.mem_filter, and_comm]
theorem Rise.put {t : Tri} : ∀ {l : List Tri}, Rise l → Rise (putT l t)
  | [], _ => by simp [putT, Rise]
  | a :: l, h => by
    obtain ⟨g, r⟩ := List.pairwise_cons.1 h
    unfold putT
    by_cases h1 : lessT a t = true
    · rw [if_pos h1]
      refine List.pairwise_cons.2 ⟨fun x hx => ?_, Rise.put r⟩
      rcases mem_putT.1 hx with e | e
      · subst e; exact h1
      · exact g x e
    · rw [if_neg h1]
      by_cases e : a = t
      · rw [if_pos e]; exact h
      · rw [if_neg e]
        have h2 : lessT t a = true := by
          cases h3 : lessT t a with
          | true => rfl
          | false => exact absurd (lessT_cases a t (by simpa using h1) h3) e
        refine List.pairwise_cons.2 ⟨fun x hx => ?_, h⟩
        rcases List.mem_cons.1 hx with e | e
        · subst e; exact h2
        · exact lessT_trans _ _ _ h2 (g x e)
theorem Rise.drop {t : Tri} {l : List Tri} (h : Rise l) : Rise (dropT l t) := List.Pairwise.filter _ h
/-- The document's way to put. -/
theorem putT_at : ∀ {l : List Tri} {t : Tri} {k : Nat}, k ≤ l.length → (∀ (i : Nat) x, i < k → l[i]? = some x → lessT x t = true) → (∀ x, l[k]? = some x → lessT x t = false) →
    putT l t = if l[k]? = some t then l else l.take k ++ [t] ++ l.drop k
  | [], t, k, hk, _, _ => by
    obtain rfl : k = 0 := by simpa using hk
    simp [putT]
  | a :: l, t, 0, _, _, h2 => by
    have := h2 a (by simp)
    unfold putT
    rw [if_neg (by rw [this]; simp)]
    by_cases e : a = t
    · rw [if_pos e, if_pos (by simp [e])]
    · rw [if_neg e, if_neg (by simpa using e)]
      simp
  | a :: l, t, k + 1, hk, h1, h2 => by
    have h0 := h1 0 a (by omega) (by simp)
    unfold putT
    rw [if_pos h0, putT_at (k := k) (by simpa using hk) (fun i x hi hx => h1 (i + 1) x (by omega) (by simpa using hx)) (fun x hx => h2 x (by simpa using hx))]
    simp only [List.getElem?_cons_succ, List.take_succ_cons, List.drop_succ_cons]
    split <;> simp

/-- A change: whether it goes, and what. -/
abbrev Chg := Bool × Tri
def stepT (l : List Tri) (c : Chg) : List Tri := if c.1 = true then dropT l c.2 else putT l c.2
def doneT (l : List Tri) (b : List Chg) : List Tri := b.foldl stepT l
theorem doneT_snoc (l : List Tri) (b : List Chg) (c : Chg) : doneT l (b ++ [c]) = stepT (doneT l b) c := by simp [doneT]
theorem Rise.step {l : List Tri} (h : Rise l) (c : Chg) : Rise (stepT l c) := by
  unfold stepT
  split
  · exact h.drop
  · exact h.put
theorem Rise.done {l : List Tri} (h : Rise l) : ∀ b : List Chg, Rise (doneT l b) := fun b => by
  induction b generalizing l with
  | nil => exact h
  | cons c b ih => exact ih (h.step c)
theorem mem_stepT_same (l : List Tri) (c : Chg) : c.2 ∈ stepT l c ↔ c.1 = false := by
  unfold stepT
  cases h : c.1
  · rw [if_neg (by simp), mem_putT]; simp
  · rw [if_pos rfl, mem_dropT]; simp
theorem mem_stepT_other {l : List Tri} {c : Chg} {t : Tri} (h : t ≠ c.2) : t ∈ stepT l c ↔ t ∈ l := by
  unfold stepT
  split
  · rw [mem_dropT]; simp [h]
  · rw [mem_putT]; simp [h]

def isTW (t : Tri) : Bool := isW t.1 && isW t.2.1 && isW t.2.2
theorem isTW_parts {t : Tri} (h : isTW t = true) : isW t.1 = true ∧ isW t.2.1 = true ∧ isW t.2.2 = true := by
  simp only [isTW, Bool.and_eq_true] at h; exact ⟨h.1.1, h.1.2, h.2⟩
def mayT (b : List Chg) : Bool := decide (b.length ≤ 64) && b.all fun c => isTW c.2
theorem mayT_len {b : List Chg} (h : mayT b = true) : b.length ≤ 64 := by
  simp only [mayT, Bool.and_eq_true, decide_eq_true_eq] at h; exact h.1
theorem mayT_word {b : List Chg} (h : mayT b = true) {c : Chg} (hc : c ∈ b) : isTW c.2 = true := by
  simp only [mayT, Bool.and_eq_true, List.all_eq_true] at h; exact h.2 c hc
theorem word_step {l : List Tri} (h : ∀ t ∈ l, isTW t = true) {c : Chg} (hc : isTW c.2 = true) : ∀ t ∈ stepT l c, isTW t = true := by
  intro t ht
  by_cases e : t = c.2
  · rw [e]; exact hc
  · exact h t ((mem_stepT_other e).1 ht)
theorem word_done : ∀ (b : List Chg) {l : List Tri}, (∀ t ∈ l, isTW t = true) → (∀ c ∈ b, isTW c.2 = true) → ∀ t ∈ doneT l b, isTW t = true
  | [], _, h, _ => h
  | c :: b, l, h, hb => word_done b (word_step h (hb c (by simp))) (fun x hx => hb x (by simp [hx]))
theorem mem_doneT_of : ∀ (b : List Chg) {l : List Tri} {t : Tri}, t ∈ doneT l b → t ∈ l ∨ ∃ c ∈ b, c.2 = t
  | [], _, _, h => .inl h
  | c :: b, l, t, h => by
    rcases mem_doneT_of b (l := stepT l c) h with h1 | ⟨x, hx, e⟩
    · by_cases e : t = c.2
      · exact .inr ⟨c, by simp, e.symm⟩
      · exact .inl ((mem_stepT_other e).1 h1)
    · exact .inr ⟨x, by simp [hx], e⟩
theorem doneT_same {l : List Tri} {t : Tri} : ∀ (b : List Chg), (∀ c ∈ b, c.2 ≠ t) → (t ∈ doneT l b ↔ t ∈ l) := fun b => by
  induction b generalizing l with
  | nil => intro _; exact Iff.rfl
  | cons c b ih =>
    intro h
    exact (ih (l := stepT l c) (fun x hx => h x (by simp [hx]))).trans (mem_stepT_other (Ne.symm (h c (by simp))))
theorem stepT_len (l : List Tri) (c : Chg) : (stepT l c).length ≤ l.length + 1 := by
  unfold stepT
  split
  · have := List.length_filter_le (fun x => decide (x ≠ c.2)) l
    simp only [dropT]; omega
  · have : ∀ (l : List Tri) t, (putT l t).length ≤ l.length + 1 := by
      intro l t
      induction l with
      | nil => simp [putT]
      | cons a l ih =>
        unfold putT
        split
        · simp; omega
        · split <;> simp
    exact this l c.2
theorem doneT_len : ∀ (b : List Chg) (l : List Tri), (doneT l b).length ≤ l.length + b.length
  | [], l => by simp [doneT]
  | c :: b, l => by
    have h1 := doneT_len b (stepT l c)
    have h2 := stepT_len l c
    have h3 : doneT l (c :: b) = doneT (stepT l c) b := rfl
    rw [h3]; simp; omega

/-- m holds just what a batch has turned. -/
def Turned (l : List Tri) (b : List Chg) (m : List Tri) : Prop := ∀ t, t ∈ m ↔ ¬ (t ∈ doneT l b ↔ t ∈ l)
theorem turned_nil (l : List Tri) : Turned l [] [] := fun t => by simp [doneT]
/-- One change more: it comes to the turned ones, or goes from them. -/
theorem Turned.step {l m m' : List Tri} {b : List Chg} {c : Chg} (h : Turned l b m) (h1 : c.2 ∈ m' ↔ (c.2 ∈ l ↔ c.1 = true)) (h2 : ∀ t, t ≠ c.2 → (t ∈ m' ↔ t ∈ m)) : Turned l (b ++ [c]) m' := by
  intro t
  rw [doneT_snoc]
  by_cases e : t = c.2
  · subst e
    rw [h1, mem_stepT_same]
    cases c.1 <;> simp
  · rw [h2 t e, h t, mem_stepT_other e]

theorem len_filter2 (p : Tri → Bool) (l : List Tri) : l.length = (l.filter p).length + (l.filter fun x => !p x).length := by
  induction l with
  | nil => rfl
  | cons a l ih =>
    cases h : p a <;> simp [h] <;> omega
theorem len_same {l1 l2 : List Tri} (h1 : l1.Nodup) (h2 : l2.Nodup) (h : ∀ t, t ∈ l1 ↔ t ∈ l2) : l1.length = l2.length :=
  ((List.perm_ext_iff_of_nodup h1 h2).2 h).length_eq
/-- How many there are behind a batch. -/
theorem turned_count {l m : List Tri} {b : List Chg} (hl : Rise l) (hm : m.Nodup) (h : Turned l b m) :
    (doneT l b).length + (m.filter fun t => decide (t ∈ l)).length = l.length + (m.filter fun t => !decide (t ∈ l)).length := by
  have hd := (hl.done b).nodup
  have e1 := len_filter2 (fun t => decide (t ∈ l)) (doneT l b)
  have e2 := len_filter2 (fun t => decide (t ∈ m)) l
  have a1 : ((doneT l b).filter fun t => decide (t ∈ l)).length = (l.filter fun t => !decide (t ∈ m)).length := by
    refine len_same (hd.filter _) (hl.nodup.filter _) (fun t => ?_)
    simp only [List.mem_filter, decide_eq_true_eq, Bool.not_eq_true', decide_eq_false_iff_not]
    rw [h t]
    by_cases p : t ∈ l <;> by_cases q : t ∈ doneT l b <;> simp [p, q]
  have a2 : ((doneT l b).filter fun t => !decide (t ∈ l)).length = (m.filter fun t => !decide (t ∈ l)).length := by
    refine len_same (hd.filter _) (hm.filter _) (fun t => ?_)
    simp only [List.mem_filter, Bool.not_eq_true', decide_eq_false_iff_not]
    rw [h t]
    by_cases p : t ∈ l <;> by_cases q : t ∈ doneT l b <;> simp [p, q]
  have a3 : (l.filter fun t => decide (t ∈ m)).length = (m.filter fun t => decide (t ∈ l)).length := by
    refine len_same (hl.nodup.filter _) (hm.filter _) (fun t => ?_)
    simp only [List.mem_filter, decide_eq_true_eq]
    exact and_comm
  omega

/-- Whether a fact turned an odd number of times behind a version. -/
def parT (ts : List (Nat × Tri)) (v : Nat) (x : Tri) : Bool := ts.foldr (fun p acc => (decide (v < p.1) && decide (p.2 = x)) ^^ acc) false
theorem parT_append (a b : List (Nat × Tri)) (v : Nat) (x : Tri) : parT (a ++ b) v x = (parT a v x ^^ parT b v x) := by
  induction a with
  | nil => simp [parT]
  | cons p a ih =>
    have e1 : parT (p :: a ++ b) v x = ((decide (v < p.1) && decide (p.2 = x)) ^^ parT (a ++ b) v x) := rfl
    have e2 : parT (p :: a) v x = ((decide (v < p.1) && decide (p.2 = x)) ^^ parT a v x) := rfl
    rw [e1, e2, ih, Bool.xor_assoc]
theorem parT_low {ts : List (Nat × Tri)} {v : Nat} (h : ∀ p ∈ ts, p.1 ≤ v) (x : Tri) : parT ts v x = false := by
  induction ts with
  | nil => rfl
  | cons p ts ih =>
    have e : parT (p :: ts) v x = ((decide (v < p.1) && decide (p.2 = x)) ^^ parT ts v x) := rfl
    have h1 := h p (by simp)
    rw [e, ih (fun q hq => h q (by simp [hq])), decide_eq_false (by omega)]
    rfl
/-- Facts that turn at one version, each once. -/
theorem parT_once {m : List Tri} (hm : m.Nodup) {n v : Nat} (hv : v < n) (x : Tri) : parT (m.map fun t => (n, t)) v x = decide (x ∈ m) := by
  induction m with
  | nil => rfl
  | cons a m ih =>
    obtain ⟨h1, h2⟩ := List.nodup_cons.1 hm
    have e : parT ((a :: m).map fun t => (n, t)) v x = ((decide (v < n) && decide (a = x)) ^^ parT (m.map fun t => (n, t)) v x) := rfl
    rw [e, ih h2, decide_eq_true hv]
    by_cases q : a = x
    · subst q
      simp [h1]
    · have : ¬ x = a := fun e => q e.symm
      simp [q, this]

def lastT (All : List (List Tri)) : List Tri := All.getLastD []
theorem lastT_snoc (All : List (List Tri)) (F : List Tri) : lastT (All ++ [F]) = F := by simp [lastT]
theorem lastT_at {All : List (List Tri)} (h : 1 ≤ All.length) : All[All.length - 1]? = some (lastT All) := by
  rcases List.eq_nil_or_concat All with rfl | ⟨l, F, rfl⟩
  · simp at h
  · simp [lastT]
theorem lastT_mem {All : List (List Tri)} (h : 1 ≤ All.length) : lastT All ∈ All := List.mem_of_getElem? (lastT_at h)

/-- All versions, and what turned between them. -/
structure Hist (All : List (List Tri)) (ts : List (Nat × Tri)) : Prop where
  one : 1 ≤ All.length
  zero : All[0]? = some []
  rise : ∀ F ∈ All, Rise F
  word : ∀ F ∈ All, ∀ t ∈ F, isTW t = true
  few : ∀ F ∈ All, F.length ≤ 4096
  back : ∀ (v : Nat) F x, All[v]? = some F → decide (x ∈ F) = (decide (x ∈ lastT All) ^^ parT ts v x)
  vers : ts.Pairwise (fun a b => a.1 ≤ b.1)
  top : ∀ p ∈ ts, p.1 < All.length
  met : ∀ x, (∃ p ∈ ts, p.2 = x) ↔ ∃ F ∈ All, x ∈ F
  len : ts.length ≤ 64 * (All.length - 1)
theorem hist_new : Hist [[]] [] where
  one := by simp
  zero := rfl
  rise := by intro F h; simp at h; subst h; exact rise_nil
  word := by intro F h; simp at h; subst h; simp
  few := by intro F h; simp at h; subst h; simp
  back := by
    intro v F x h
    cases v with
    | zero => simp at h; subst h; rfl
    | succ v => simp at h
  vers := List.Pairwise.nil
  top := by simp
  met := by simp
  len := by simp
theorem Hist.word_turn {All : List (List Tri)} {ts : List (Nat × Tri)} (h : Hist All ts) {p : Nat × Tri} (hp : p ∈ ts) : isTW p.2 = true := by
  obtain ⟨F, hF, hx⟩ := (h.met p.2).1 ⟨p, hp, rfl⟩
  exact h.word F hF _ hx
theorem Hist.next {All : List (List Tri)} {ts : List (Nat × Tri)} {b : List Chg} {m : List Tri} (h : Hist All ts) (hb : mayT b = true) (hf : (doneT (lastT All) b).length ≤ 4096) (hm : m.Nodup) (ht : Turned (lastT All) b m) (hl : m.length ≤ 64) :
    Hist (All ++ [doneT (lastT All) b]) (ts ++ m.map fun t => (All.length, t)) := by
  have h0 := h.one
  have hm0 := lastT_mem h.one
  have hsnoc : ∀ F, F ∈ All ++ [doneT (lastT All) b] ↔ F ∈ All ∨ F = doneT (lastT All) b := fun F => by simp
  have hww := word_done b (h.word _ hm0) (fun c hc => mayT_word hb hc)
  refine ⟨by simp, ?_, ?_, ?_, ?_, ?_, ?_, ?_, ?_, ?_⟩
  · rw [List.getElem?_append_left (by omega)]; exact h.zero
  · intro F hF
    rcases (hsnoc F).1 hF with hF | rfl
    · exact h.rise F hF
    · exact (h.rise _ hm0).done b
  · intro F hF
    rcases (hsnoc F).1 hF with hF | rfl
    · exact h.word F hF
    · exact hww
  · intro F hF
    rcases (hsnoc F).1 hF with hF | rfl
    · exact h.few F hF
    · exact hf
  · intro v F x hv
    rw [lastT_snoc, parT_append]
    by_cases hlt : v < All.length
    · rw [List.getElem?_append_left hlt] at hv
      rw [h.back v F x hv, parT_once hm hlt]
      have := ht x
      by_cases p : x ∈ lastT All <;> by_cases q : x ∈ doneT (lastT All) b <;> by_cases r : x ∈ m <;> simp [p, q, r] at this ⊢
    · have hv2 := (List.getElem?_eq_some_iff.1 hv).1
      simp at hv2
      obtain rfl : v = All.length := by omega
      simp at hv
      subst hv
      rw [parT_low (fun p hp => Nat.le_of_lt (h.top p hp)), parT_low (fun p hp => by
        obtain ⟨t, _, rfl⟩ := List.mem_map.1 hp
        exact Nat.le_refl _)]
      simp
  · rw [List.pairwise_append]
    refine ⟨h.vers, ?_, ?_⟩
    · rw [List.pairwise_map]
      exact List.Pairwise.imp (fun _ => Nat.le_refl _) hm
    · intro a ha c hc
      obtain ⟨t, _, rfl⟩ := List.mem_map.1 hc
      exact Nat.le_of_lt (h.top a ha)
  · intro p hp
    rw [List.length_append]
    rcases List.mem_append.1 hp with hp | hp
    · have := h.top p hp; simp; omega
    · obtain ⟨t, _, rfl⟩ := List.mem_map.1 hp
      simp
  · intro x
    constructor
    · rintro ⟨p, hp, rfl⟩
      rcases List.mem_append.1 hp with hp | hp
      · obtain ⟨F, hF, hx⟩ := (h.met p.2).1 ⟨p, hp, rfl⟩
        exact ⟨F, (hsnoc F).2 (.inl hF), hx⟩
      · obtain ⟨t, htm, rfl⟩ := List.mem_map.1 hp
        have := (ht t).1 htm
        by_cases q : t ∈ lastT All
        · exact ⟨_, (hsnoc _).2 (.inl hm0), q⟩
        · have : t ∈ doneT (lastT All) b := by
            by_cases r : t ∈ doneT (lastT All) b
            · exact r
            · exact absurd (by simp [q, r]) this
          exact ⟨_, (hsnoc _).2 (.inr rfl), this⟩
    · rintro ⟨F, hF, hx⟩
      have old : (∃ F ∈ All, x ∈ F) → ∃ p ∈ ts ++ m.map fun t => (All.length, t), p.2 = x := fun h1 => by
        obtain ⟨p, hp, e⟩ := (h.met x).2 h1
        exact ⟨p, List.mem_append.2 (.inl hp), e⟩
      rcases (hsnoc F).1 hF with hF | rfl
      · exact old ⟨F, hF, hx⟩
      · by_cases q : x ∈ lastT All
        · exact old ⟨_, hm0, q⟩
        · exact ⟨(All.length, x), List.mem_append.2 (.inr (List.mem_map.2 ⟨x, (ht x).2 (by simp [q, hx]), rfl⟩)), rfl⟩
  · have := h.len
    simp only [List.length_append, List.length_map, List.length_cons, List.length_nil]
    omega
/-- Going back from the last version: what is left ahead has not turned since. -/
theorem Hist.at {All : List (List Tri)} {ts : List (Nat × Tri)} (h : Hist All ts) {v : Nat} {F : List Tri} (hF : All[v]? = some F) {i : Nat} (hi : ∀ (j : Nat) p, j < i → ts[j]? = some p → p.1 ≤ v) (x : Tri) :
    decide (x ∈ F) = (decide (x ∈ lastT All) ^^ parT (ts.drop i) v x) := by
  rw [h.back v F x hF]
  have : parT ts v x = parT (ts.drop i) v x := by
    have e : ts = ts.take i ++ ts.drop i := (List.take_append_drop i ts).symm
    rw [show parT ts v x = parT (ts.take i ++ ts.drop i) v x by rw [← e], parT_append, parT_low (fun p hp => ?_)]
    · simp
    · obtain ⟨j, hj, e2⟩ := List.getElem_of_mem hp
      rw [List.length_take] at hj
      refine hi j p (by omega) ?_
      rw [← e2, List.getElem_take]
      exact List.getElem?_eq_getElem _
  rw [this]

/-- Has a fact the words that another triple has? -/
def likeT (like t : Tri) : Bool := (decide (like.1 = []) || decide (like.1 = t.1)) && (decide (like.2.1 = []) || decide (like.2.1 = t.2.1)) && (decide (like.2.2 = []) || decide (like.2.2 = t.2.2))
def matchT (F : List Tri) (like : Tri) : List Tri := F.filter (likeT like)
theorem Rise.like {F : List Tri} (h : Rise F) (like : Tri) : Rise (matchT F like) := List.Pairwise.filter _ h
theorem matchT_all (F : List Tri) : matchT F ([], [], []) = F := by
  refine List.filter_eq_self.2 (fun t _ => ?_)
  simp [likeT]
end Go.Proofs.Ytiabnjjdeikefaa
