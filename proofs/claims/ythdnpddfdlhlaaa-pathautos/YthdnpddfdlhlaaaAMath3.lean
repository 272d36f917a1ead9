/- Which words will do, cut by cut; where nothing will do; sets of places, step by step; parts that begin at a place. -/
import Derived.Test.YthdnpddfdlhlaaaAMath2
namespace Go.Proofs.Ythdnpddfdlhlaaa
open Go.RowKit

theorem cut_iff {P : List Wd → List Wd → Prop} (l : List Wd) : (∃ a b, l = a ++ b ∧ P a b) ↔ ∃ i, i ≤ l.length ∧ P (l.take i) (l.drop i) := by
  constructor
  · rintro ⟨a, b, rfl, h⟩
    exact ⟨a.length, by simp, by rw [List.take_left' rfl, List.drop_left' rfl]; exact h⟩
  · rintro ⟨i, _, h⟩
    exact ⟨l.take i, l.drop i, (List.take_append_drop i l).symm, h⟩
theorem seq_cut {f : List Wd → Prop} {fs : List (List Wd → Prop)} (l : List Wd) : seqL (f :: fs) l ↔ ∃ i, i ≤ l.length ∧ f (l.take i) ∧ seqL fs (l.drop i) := cut_iff (P := fun a b => f a ∧ seqL fs b) l
theorem star_nil (f : List Wd → Prop) : starL f [] := ⟨[], rfl, by simp⟩
theorem plus_nil {f : List Wd → Prop} : plusL f [] ↔ f [] := by
  constructor
  · rintro ⟨a, b, e, h, _⟩
    have := List.append_eq_nil_iff.1 e.symm
    rw [this.1] at h
    exact h
  · intro h
    exact ⟨[], [], rfl, h, star_nil f⟩
theorem star_cut {f : List Wd → Prop} : ∀ (l : List Wd), l ≠ [] → (starL f l ↔ ∃ i, 1 ≤ i ∧ i ≤ l.length ∧ f (l.take i) ∧ starL f (l.drop i)) := by
  intro l hl
  constructor
  · rintro ⟨ls, rfl, h⟩
    induction ls with
    | nil => exact absurd rfl hl
    | cons a ls ih =>
      cases a with
      | nil =>
        rw [List.flatten_cons, List.nil_append] at hl ⊢
        exact ih (fun x hx => h x (List.mem_cons_of_mem _ hx)) hl
      | cons u a =>
        refine ⟨(u :: a).length, by simp, by simp, ?_, ?_⟩
        · rw [List.flatten_cons, List.take_left' rfl]
          exact h _ (List.mem_cons_self ..)
        · rw [List.flatten_cons, List.drop_left' rfl]
          exact ⟨ls, rfl, fun x hx => h x (List.mem_cons_of_mem _ hx)⟩
  · rintro ⟨i, _, _, hf, ls, e, h⟩
    refine ⟨l.take i :: ls, by rw [List.flatten_cons, ← e, List.take_append_drop], fun x hx => ?_⟩
    rcases List.mem_cons.1 hx with rfl | hx
    · exact hf
    · exact h x hx
theorem plus_star {f : List Wd → Prop} {l : List Wd} (hl : l ≠ []) : plusL f l ↔ starL f l := by
  rw [← star_plus]
  exact ⟨.inr, fun h => h.resolve_left hl⟩
theorem plus_cut {f : List Wd → Prop} (l : List Wd) (hl : l ≠ []) : plusL f l ↔ ∃ i, 1 ≤ i ∧ i ≤ l.length ∧ f (l.take i) ∧ (i = l.length ∨ plusL f (l.drop i)) := by
  rw [plus_star hl, star_cut l hl]
  constructor
  · rintro ⟨i, h1, h2, h3, h4⟩
    refine ⟨i, h1, h2, h3, ?_⟩
    by_cases e : i = l.length
    · exact .inl e
    · exact .inr ((plus_star (by intro h; have := List.drop_eq_nil_iff.1 h; omega)).2 h4)
  · rintro ⟨i, h1, h2, h3, h4⟩
    refine ⟨i, h1, h2, h3, ?_⟩
    rcases h4 with e | h4
    · rw [e, List.drop_length]; exact star_nil f
    · exact (star_plus _).1 (.inr h4)
theorem star_cut2 {f : List Wd → Prop} (l : List Wd) (hl : l ≠ []) : starL f l ↔ ∃ i, 1 ≤ i ∧ i ≤ l.length ∧ f (l.take i) ∧ (i = l.length ∨ starL f (l.drop i)) := by
  rw [star_cut l hl]
  constructor
  · rintro ⟨i, h1, h2, h3, h4⟩
    exact ⟨i, h1, h2, h3, .inr h4⟩
  · rintro ⟨i, h1, h2, h3, h4⟩
    refine ⟨i, h1, h2, h3, ?_⟩
    rcases h4 with e | h4
    · rw [e, List.drop_length]; exact star_nil f
    · exact h4
/-- Once, or once and then again. -/
theorem plus_often {f : List Wd → Prop} (l : List Wd) : plusL f l ↔ f l ∨ ∃ i, 1 ≤ i ∧ i < l.length ∧ f (l.take i) ∧ plusL f (l.drop i) := by
  by_cases hl : l = []
  · subst hl
    rw [plus_nil]
    constructor
    · exact .inl
    · rintro (h | ⟨i, h1, h2, _⟩)
      · exact h
      · simp at h2
  · rw [plus_cut l hl]
    constructor
    · rintro ⟨i, h1, h2, h3, h4⟩
      rcases h4 with e | h4
      · left
        rw [e, List.take_length] at h3
        exact h3
      · by_cases e : i = l.length
        · left
          rw [e, List.take_length] at h3
          exact h3
        · exact .inr ⟨i, h1, by omega, h3, h4⟩
    · rintro (h | ⟨i, h1, h2, h3, h4⟩)
      · exact ⟨l.length, List.length_pos_iff.2 hl, Nat.le_refl _, by rw [List.take_length]; exact h, .inl rfl⟩
      · exact ⟨i, h1, by omega, h3, .inr h4⟩
theorem seq_one {f : List Wd → Prop} (l : List Wd) : seqL [f] l ↔ f l := by
  constructor
  · rintro ⟨a, b, rfl, h, e⟩
    have e : b = [] := e
    subst e
    simpa using h
  · intro h
    exact ⟨l, [], by simp, h, rfl⟩
theorem will_seq (p q : Pt) (l : List Wd) : willL ⟨2, [], [p, q]⟩ l ↔ ∃ i, i ≤ l.length ∧ willL p (l.take i) ∧ willL q (l.drop i) := by
  rw [willL_mk]
  show seqL [willL p, willL q] l ↔ _
  rw [seq_cut]
  constructor
  · rintro ⟨i, h1, h2, h3⟩; exact ⟨i, h1, h2, (seq_one _).1 h3⟩
  · rintro ⟨i, h1, h2, h3⟩; exact ⟨i, h1, h2, (seq_one _).2 h3⟩
theorem will_alt (p q : Pt) (l : List Wd) : willL ⟨3, [], [p, q]⟩ l ↔ willL p l ∨ willL q l := by
  rw [willL_mk]
  show altL [willL p, willL q] l ↔ _
  simp [altL]
theorem alt_one {f : List Wd → Prop} : altL [f] = f := by
  funext l
  simp [altL]
theorem will_star (p : Pt) (l : List Wd) : willL ⟨4, [], [p]⟩ l ↔ l = [] ∨ plusL (willL p) l := by
  rw [willL_mk]
  show starL (altL [willL p]) l ↔ _
  rw [alt_one, star_plus]
theorem will_plus (p : Pt) (l : List Wd) : willL ⟨5, [], [p]⟩ l ↔ plusL (willL p) l := by
  rw [willL_mk]
  show plusL (altL [willL p]) l ↔ _
  rw [alt_one]
theorem will_may (p : Pt) (l : List Wd) : willL ⟨6, [], [p]⟩ l ↔ l = [] ∨ willL p l := by
  rw [willL_mk]
  show (l = [] ∨ altL [willL p] l) ↔ _
  rw [alt_one]
theorem will_alt_turn (p q w : Pt) (l : List Wd) : willL ⟨3, [], [p, q, w]⟩ l ↔ willL ⟨3, [], [w, ⟨3, [], [q, p]⟩]⟩ l := by
  rw [will_alt, will_alt, willL_mk]
  show altL [willL p, willL q, willL w] l ↔ _
  simp only [altL, List.mem_cons, List.not_mem_nil, or_false, exists_eq_or_imp, exists_eq_left]
  constructor
  · rintro (h | h | h)
    · exact .inr (.inr h)
    · exact .inr (.inl h)
    · exact .inl h
  · rintro (h | h | h)
    · exact .inr (.inr h)
    · exact .inr (.inl h)
    · exact .inl h
theorem will_seq_turn (p q w : Pt) (l : List Wd) : willL ⟨2, [], [p, q, w]⟩ l ↔ willL ⟨2, [], [p, ⟨2, [], [q, w]⟩]⟩ l := by
  rw [willL_mk, willL_mk]
  show seqL [willL p, willL q, willL w] l ↔ seqL [willL p, willL ⟨2, [], [q, w]⟩] l
  constructor
  · rintro ⟨a, b, rfl, h1, h2⟩
    refine ⟨a, b, rfl, h1, (seq_one b).2 ?_⟩
    rw [willL_mk]
    exact h2
  · rintro ⟨a, b, rfl, h1, h2⟩
    refine ⟨a, b, rfl, h1, ?_⟩
    have := (seq_one b).1 h2
    rw [willL_mk] at this
    exact this

/-! Where nothing will do. -/
def noneB : Pt → Bool
  | ⟨k, _, kids⟩ => if k = 1 then false else if k = 4 ∨ k = 6 then true else if k = 3 then (kids.map noneB).any id else (kids.map noneB).all id
theorem noneB_mk (k : Int) (w : Wd) (kids : List Pt) : noneB ⟨k, w, kids⟩ = if k = 1 then false else if k = 4 ∨ k = 6 then true else if k = 3 then kids.any noneB else kids.all noneB := by
  rw [noneB, List.any_map, List.all_map]
  rfl
theorem seq_nil : ∀ fs : List (List Wd → Prop), seqL fs [] ↔ ∀ f ∈ fs, f []
  | [] => by simp [seqL]
  | f :: fs => by
    rw [seq_cut]
    simp only [List.length_nil, Nat.le_zero_eq, List.take_nil, List.drop_nil, exists_eq_left, List.mem_cons, forall_eq_or_imp, seq_nil fs]
theorem will_none : ∀ (t : Pt) (d : Nat), shapedP d t = true → (willL t [] ↔ noneB t = true) := by
  refine Pt.ind (fun k w kids ih => ?_)
  intro d hd
  cases d with
  | zero => cases hd
  | succ d =>
    simp only [shapedP, Bool.and_eq_true, List.all_eq_true] at hd
    have hk : ∀ x ∈ kids, (willL x [] ↔ noneB x = true) := fun x hx => ih x hx d (hd.2 x hx)
    have hf := hd.1.1
    rw [willL_mk, noneB_mk]
    unfold kindL
    by_cases h1 : k = 1
    · simp [h1]
    · rw [if_neg h1, if_neg h1]
      by_cases h2 : k = 2
      · subst h2
        rw [if_pos rfl, if_neg (by decide), if_neg (by decide), seq_nil, List.all_eq_true]
        constructor
        · intro h x hx
          exact (hk x hx).1 (h _ (List.mem_map_of_mem hx))
        · intro h f hf
          obtain ⟨x, hx, rfl⟩ := List.mem_map.1 hf
          exact (hk x hx).2 (h x hx)
      · rw [if_neg h2]
        by_cases h4 : k = 4
        · subst h4
          rw [if_pos rfl, if_pos (.inl rfl)]
          exact ⟨fun _ => rfl, fun _ => star_nil _⟩
        · rw [if_neg h4]
          by_cases h5 : k = 5
          · subst h5
            rw [if_pos rfl, if_neg (by decide), if_neg (by decide), plus_nil]
            have hn : kids.length = 1 := by
              simp [formedP] at hf
              exact hf.1
            obtain ⟨x, rfl⟩ : ∃ x, kids = [x] := by
              rcases kids with _ | ⟨x, _ | ⟨y, l⟩⟩
              · simp at hn
              · exact ⟨x, rfl⟩
              · simp at hn
            rw [List.map_cons, List.map_nil, alt_one, hk x (List.mem_singleton_self x)]
            simp
          · rw [if_neg h5]
            by_cases h6 : k = 6
            · subst h6
              rw [if_pos rfl, if_pos (.inr rfl)]
              simp
            · rw [if_neg h6, if_neg (by omega)]
              have h3 : k = 3 := by
                simp only [formedP, h1, h2, h4, h5, h6, false_or, or_self, if_false] at hf
                split at hf
                · assumption
                · cases hf
              rw [if_pos h3, List.any_eq_true]
              constructor
              · rintro ⟨f, hf, h⟩
                obtain ⟨x, hx, rfl⟩ := List.mem_map.1 hf
                exact ⟨x, hx, (hk x hx).1 h⟩
              · rintro ⟨x, hx, h⟩
                exact ⟨_, List.mem_map_of_mem hx, (hk x hx).2 h⟩
theorem auto_none {t : Pt} (h : mayP t = true) : (autoOf t).empty = noneB t := by
  obtain ⟨hm, ha⟩ := auto_will h
  have h12 : shapedP 12 t = true := by
    simp only [mayP, Bool.and_eq_true] at h
    exact h.1
  have h1 := (ha []).trans (will_none t 12 h12)
  have h2 : accA (autoOf t) [] ↔ (autoOf t).empty = true := by
    have hp : isPl (autoOf t) (-1) = true := by
      simp only [isPl, Bool.and_eq_true, decide_eq_true_eq]
      omega
    show mayA (autoOf t) = true ∧ endsA (autoOf t) (-1) = true ↔ _
    rw [endsA, hm, hp, if_pos (by omega)]
    simp
  have h3 := h2.symm.trans h1
  cases he : (autoOf t).empty <;> cases hn : noneB t
  · rfl
  · rw [he, hn] at h3; simp at h3
  · rw [he, hn] at h3; simp at h3
  · rfl

/-! Sets of places, step by step. -/
def riseI (n : Nat) (l : List Int) : List Int := ((List.range n).filter (fun (k : Nat) => decide ((k : Int) ∈ l))).map Int.ofNat
theorem mem_riseI {n : Nat} {l : List Int} {z : Int} : z ∈ riseI n l ↔ (0 ≤ z ∧ z < n) ∧ z ∈ l := by
  unfold riseI
  simp only [List.mem_map, List.mem_filter, List.mem_range, decide_eq_true_eq]
  constructor
  · rintro ⟨k, ⟨h1, h2⟩, rfl⟩
    exact ⟨⟨by simp, by simp; omega⟩, h2⟩
  · rintro ⟨⟨h1, h2⟩, h3⟩
    refine ⟨z.toNat, ⟨by omega, ?_⟩, ?_⟩
    · rw [Int.toNat_of_nonneg h1]; exact h3
    · rw [Int.ofNat_eq_natCast, Int.toNat_of_nonneg h1]
def setA (a : Au) : List Int → List Wd → List Int
  | S, [] => S
  | S, w :: l => setA a (riseI a.words.length (S.flatMap fun s => nextA a s w)) l
theorem next_in {a : Au} {s y : Int} {w : Wd} (h : y ∈ nextA a s w) : 0 ≤ y ∧ y < a.words.length := by
  unfold nextA at h
  split at h
  · rename_i hm
    obtain ⟨h1, _⟩ := List.mem_filter.1 h
    have hm := hm.1
    simp only [mayA, Bool.and_eq_true, decide_eq_true_eq] at hm
    unfold outA at h1
    split at h1
    · exact good_mem hm.1.1.1.2 h1
    · rw [List.getD] at h1
      cases hg : a.follow[s.toNat]? with
      | none => rw [hg] at h1; simp at h1
      | some l =>
        rw [hg] at h1
        have hl := List.mem_of_getElem? hg
        have := List.all_eq_true.1 hm.2 l hl
        exact good_mem this h1
  · simp at h
theorem set_acc {a : Au} : ∀ (l : List Wd) (S : List Int), (∃ s ∈ setA a S l, endsA a s = true) ↔ ∃ s ∈ S, accW a s l
  | [], S => Iff.rfl
  | w :: l, S => by
    rw [setA, set_acc l]
    constructor
    · rintro ⟨y, hy, h⟩
      obtain ⟨_, h1⟩ := mem_riseI.1 hy
      obtain ⟨s, hs, h2⟩ := List.mem_flatMap.1 h1
      exact ⟨s, hs, y, h2, h⟩
    · rintro ⟨s, hs, y, hy, h⟩
      exact ⟨y, mem_riseI.2 ⟨next_in hy, List.mem_flatMap.2 ⟨s, hs, hy⟩⟩, h⟩
def accB (a : Au) (l : List Wd) : Bool := mayA a && (setA a [-1] l).any (endsA a)
theorem accB_iff (a : Au) (l : List Wd) : accB a l = true ↔ accA a l := by
  unfold accB accA
  rw [Bool.and_eq_true, List.any_eq_true, set_acc]
  simp

/-! Parts whose places begin at a number. -/
theorem up_append (n : Nat) (a b : List Nat) : up n (a ++ b) = up n a ++ up n b := by simp [up]
theorem up_up (n m : Nat) (a : List Nat) : up n (up m a) = up (n + m) a := by
  simp only [up, List.map_map]
  exact List.map_congr_left (fun x _ => by simp only [Function.comp]; omega)
theorem upP_append (n : Nat) (a b : List (Nat × Nat)) : upP n (a ++ b) = upP n a ++ upP n b := by simp [upP]
theorem upP_upP (n m : Nat) (a : List (Nat × Nat)) : upP n (upP m a) = upP (n + m) a := by
  simp only [upP, List.map_map]
  exact List.map_congr_left (fun x _ => by simp only [Function.comp, Prod.mk.injEq]; omega)
theorem cross_up (n : Nat) (a b : List Nat) : upP n (cross a b) = cross (up n a) (up n b) := by
  simp only [upP, cross, up, List.map_flatMap, List.flatMap_map, List.map_map]
  rfl
theorem up_zero (a : List Nat) : up 0 a = a := by simp [up]
theorem shift_zero (x : Prt) : shift 0 x = x := by
  simp [shift, up, upP]
theorem shift_seq (n : Nat) (x y : Prt) : shift n (seqC x y) = ⟨x.words ++ y.words, if x.empty = true then up n x.first ++ up (n + x.words.length) y.first else up n x.first, if y.empty = true then up n x.last ++ up (n + x.words.length) y.last else up (n + x.words.length) y.last,
    up n |> fun _ => upP n x.pairs ++ upP (n + x.words.length) y.pairs ++ cross (up n x.last) (up (n + x.words.length) y.first), x.empty && y.empty⟩ := by
  unfold shift seqC
  simp only [upP_append, upP_upP, cross_up, up_up]
  congr 1
  · split
    · rw [up_append, up_up]
    · rfl
  · split
    · rw [up_append, up_up]
    · rw [up_up]
theorem shift_alt (n : Nat) (x y : Prt) : shift n (altC x y) = ⟨x.words ++ y.words, up n x.first ++ up (n + x.words.length) y.first, up n x.last ++ up (n + x.words.length) y.last, upP n x.pairs ++ upP (n + x.words.length) y.pairs, x.empty || y.empty⟩ := by
  unfold shift altC
  simp only [upP_append, upP_upP, up_append, up_up]
end Go.Proofs.Ythdnpddfdlhlaaa
