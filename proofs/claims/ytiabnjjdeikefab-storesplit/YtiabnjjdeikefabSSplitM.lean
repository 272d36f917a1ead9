/- Facts that are split by their homes: plain mathematics; changes that are laid one behind the other, beside a store. -/
import Derived.Test.YtiabnjjdeikefabSLive
namespace Go.Proofs.Ytiabnjjdeikefab
open Go.RowKit

theorem i64_mask7 (n : Int) (k : Nat) (m M : Int) (hk : k ≤ 62) (hm : (BitVec.ofInt 64 m).toNat = 2 ^ k - 1) (hM : M = ((2 ^ k : Nat) : Int)) : bits .and .i64 n m = n % M := by
  have key : (BitVec.ofInt 64 n &&& BitVec.ofInt 64 m).toNat = (n % ((2 ^ 64 : Nat) : Int)).toNat % 2 ^ k := by
    rw [BitVec.toNat_and, BitVec.toNat_ofInt, hm, Nat.and_two_pow_sub_one_eq_mod]
  show IntKind.i64.wrap ((BitVec.ofInt 64 n &&& BitVec.ofInt 64 m).toNat : Nat) = n % M
  have hd : (2 ^ 64 : Nat) = 2 ^ k * 2 ^ (64 - k) := by rw [← Nat.pow_add]; congr 1; omega
  have e : ((n % ((2 ^ 64 : Nat) : Int)).toNat % 2 ^ k : Nat) = (n % ((2 ^ k : Nat) : Int)).toNat := by
    apply Int.ofNat.inj
    show (((n % ((2 ^ 64 : Nat) : Int)).toNat % 2 ^ k : Nat) : Int) = ((n % ((2 ^ k : Nat) : Int)).toNat : Int)
    rw [Int.natCast_emod, Int.toNat_of_nonneg (Int.emod_nonneg _ (by omega)), Int.toNat_of_nonneg (Int.emod_nonneg _ (by have := Nat.two_pow_pos k; omega))]
    exact Int.emod_emod_of_dvd _ (Int.natCast_dvd_natCast.2 ⟨2 ^ (64 - k), hd⟩)
  have hlt : (2 ^ k : Nat) ≤ 2 ^ 62 := Nat.pow_le_pow_right (by omega) hk
  have hp := Nat.two_pow_pos k
  have h1 : 0 ≤ n % ((2 ^ k : Nat) : Int) := Int.emod_nonneg _ (by omega)
  have h2 : n % ((2 ^ k : Nat) : Int) < ((2 ^ k : Nat) : Int) := Int.emod_lt_of_pos _ (by omega)
  rw [key, e, IntKind.wrap_i64, hM]
  omega

theorem stepT_filter {l : List Tri} (hl : Rise l) (p : Tri → Bool) (c : Chg) : (stepT l c).filter p = if p c.2 = true then stepT (l.filter p) c else l.filter p := by
  have hlf : Rise (l.filter p) := List.Pairwise.filter _ hl
  by_cases h : p c.2 = true
  · rw [if_pos h]
    refine rise_ext (List.Pairwise.filter _ (hl.step c)) (hlf.step c) (fun t => ?_)
    by_cases e : t = c.2
    · subst e
      rw [List.mem_filter, mem_stepT_same, mem_stepT_same]; simp [h]
    · rw [List.mem_filter, mem_stepT_other e, mem_stepT_other e, List.mem_filter]
  · rw [if_neg h]
    refine rise_ext (List.Pairwise.filter _ (hl.step c)) hlf (fun t => ?_)
    rw [List.mem_filter, List.mem_filter]
    by_cases e : t = c.2
    · subst e; simp [h]
    · rw [mem_stepT_other e]
theorem doneT_filter (p : Tri → Bool) : ∀ (bt : List Chg) {l : List Tri}, Rise l → doneT (l.filter p) (bt.filter fun c => p c.2) = (doneT l bt).filter p
  | [], l, _ => rfl
  | c :: bt, l, hl => by
    have ih := doneT_filter p bt (hl.step c)
    rw [stepT_filter hl] at ih
    show doneT (l.filter p) ((c :: bt).filter fun c => p c.2) = (doneT (stepT l c) bt).filter p
    rw [← ih]
    by_cases h : p c.2 = true
    · rw [if_pos h, List.filter_cons_of_pos (by exact h)]; rfl
    · rw [if_neg h, List.filter_cons_of_neg (by exact h)]

def atH (k q : Nat) (t : Tri) : Bool := decide (sumN t.1 % k = q)
def ltH (k q : Nat) (t : Tri) : Bool := decide (sumN t.1 % k < q)
def ofH (k q : Nat) (bt : List Chg) : List Chg := bt.filter fun c => atH k q c.2
theorem ofH_yes {k q : Nat} {bt : List Chg} {i : Nat} {c : Chg} (hc : bt[i]? = some c) (h : sumN c.2.1 % k = q) : ofH k q (bt.take (i + 1)) = ofH k q (bt.take i) ++ [c] := by
  unfold ofH
  rw [List.take_add_one, hc, List.filter_append]
  simp [atH, h]
theorem ofH_no {k q : Nat} {bt : List Chg} {i : Nat} {c : Chg} (hc : bt[i]? = some c) (h : ¬ sumN c.2.1 % k = q) : ofH k q (bt.take (i + 1)) = ofH k q (bt.take i) := by
  unfold ofH
  rw [List.take_add_one, hc, List.filter_append]
  simp [atH, h]
theorem ltH_zero (k : Nat) (F : List Tri) : F.filter (ltH k 0) = [] := by simp [ltH]
theorem ltH_succ (k q : Nat) (F : List Tri) : (F.filter (ltH k (q + 1))).length = (F.filter (ltH k q)).length + (F.filter (atH k q)).length := by
  induction F with
  | nil => rfl
  | cons a F ih =>
    rcases Nat.lt_trichotomy (sumN a.1 % k) q with h | h | h
    · rw [List.filter_cons_of_pos (by simp only [ltH, decide_eq_true_eq]; omega), List.filter_cons_of_pos (by simp only [ltH, decide_eq_true_eq]; omega), List.filter_cons_of_neg (by simp only [atH, decide_eq_true_eq]; omega)]
      simp only [List.length_cons]; omega
    · rw [List.filter_cons_of_pos (by simp only [ltH, decide_eq_true_eq]; omega), List.filter_cons_of_neg (by simp only [ltH, decide_eq_true_eq]; omega), List.filter_cons_of_pos (by simp only [atH, decide_eq_true_eq]; omega)]
      simp only [List.length_cons]; omega
    · rw [List.filter_cons_of_neg (by simp only [ltH, decide_eq_true_eq]; omega), List.filter_cons_of_neg (by simp only [ltH, decide_eq_true_eq]; omega), List.filter_cons_of_neg (by simp only [atH, decide_eq_true_eq]; omega)]
      exact ih
theorem ltH_all {k : Nat} (hk : 0 < k) (F : List Tri) : F.filter (ltH k k) = F := List.filter_eq_self.2 (fun t _ => by
  simp only [ltH, decide_eq_true_eq]; exact Nat.mod_lt _ hk)
theorem split_apply {bt : List Chg} (hm : mayT bt = true) (hf : (doneT [] bt).length ≤ 4096) (k q : Nat) : apE [[]] 1 (ofH k q bt) = 0 ∧ apA [[]] 1 (ofH k q bt) = [[], (doneT [] bt).filter (atH k q)] := by
  have hd : doneT [] (ofH k q bt) = (doneT [] bt).filter (atH k q) := doneT_filter (atH k q) bt rise_nil
  have hmm : mayT (ofH k q bt) = true := by
    have h1 := mayT_len hm
    have h2 := List.length_filter_le (fun c : Chg => atH k q c.2) bt
    simp only [mayT, Bool.and_eq_true, decide_eq_true_eq, List.all_eq_true]
    exact ⟨by unfold ofH; omega, fun c hc => mayT_word hm (List.mem_filter.1 hc).1⟩
  have hl : (doneT [] (ofH k q bt)).length ≤ 4096 := by
    rw [hd]; have := List.length_filter_le (atH k q) (doneT [] bt); omega
  have hE : apE [[]] 1 (ofH k q bt) = 0 := by
    unfold apE
    rw [if_neg (by rw [hmm]; simp), if_neg (by simp), if_neg (by show ¬ 4096 < (doneT [] (ofH k q bt)).length; omega)]
  refine ⟨hE, ?_⟩
  unfold apA
  rw [if_pos hE, ← hd]; rfl
theorem split_homes {k : Nat} (hk : 1 ≤ k) (hk2 : k ≤ 64) (q : Nat) (F : List Tri) : homesB [[], F.filter (atH k q)] (q : Int) (k : Int) = true := by
  simp only [homesB, List.all_eq_true]
  intro G hG t ht
  rcases List.mem_cons.1 hG with rfl | hG
  · simp at ht
  · rw [List.mem_singleton] at hG
    subst hG
    have h := (List.mem_filter.1 ht).2
    simp only [atH, decide_eq_true_eq] at h
    simp only [homeB, decide_eq_true_eq]
    exact ⟨by omega, by omega, by rw [← h]; rfl⟩
theorem split_not {k q : Nat} (hk : 1 < k) (hq : q < k) {F : List Tri} {t : Tri} (ht : t ∈ F.filter (atH k q)) : homesB [[], F.filter (atH k q)] (((q + 1) % k : Nat) : Int) (k : Int) = false := by
  cases he : homesB [[], F.filter (atH k q)] (((q + 1) % k : Nat) : Int) (k : Int) with
  | false => rfl
  | true =>
    simp only [homesB, List.all_eq_true] at he
    have h1 := he _ (by simp) t ht
    have h2 := (List.mem_filter.1 ht).2
    simp only [atH, decide_eq_true_eq] at h2
    simp only [homeB, decide_eq_true_eq] at h1
    have h3 : sumN t.1 % k = (q + 1) % k := by
      have := h1.2.2
      rw [← Int.natCast_emod] at this
      exact Int.ofNat.inj this
    rw [h2] at h3
    by_cases e : q + 1 = k
    · rw [e, Nat.mod_self] at h3; omega
    · rw [Nat.mod_eq_of_lt (by omega)] at h3; omega
theorem likeS_self (t : Tri) : likeT t t = true := by simp [likeT]
theorem likeS_word {a t : Tri} (ha : isTW a = true) (h : likeT a t = true) : a = t := by
  obtain ⟨h1, h2, h3⟩ := isTW_parts ha
  have e : ∀ s : List UInt8, isW s = true → s ≠ [] := fun s hs e => by subst e; have := isW_len hs; simp at this
  simp only [likeT, Bool.and_eq_true, Bool.or_eq_true, decide_eq_true_eq] at h
  obtain ⟨⟨q1, q2⟩, q3⟩ := h
  exact Prod.ext (q1.resolve_left (e _ h1)) (Prod.ext (q2.resolve_left (e _ h2)) (q3.resolve_left (e _ h3)))
theorem matchS_one {F : List Tri} (hF : Rise F) {a : Tri} (ha : isTW a = true) (h : a ∈ F) : (matchT F a).length = 1 := by
  rw [len_same (l2 := [a]) ((hF.like a).nodup) (by simp) (fun t => ?_)]
  · rfl
  · rw [matchT, List.mem_filter, List.mem_singleton]
    constructor
    · rintro ⟨_, h2⟩; exact (likeS_word ha h2).symm
    · rintro rfl; exact ⟨h, likeS_self t⟩

theorem Live.grown {w0 w u : World} {S : Nat → Prop} {b : Nat} {All : List (List Tri)} {row : Option Nat} (h : Live w0 w S b All) (hg : w.grownBy u row) (hr : ∀ g, row = some g → S g ∧ w0.heap.size ≤ g) : Live w0 u (Plus S w.heap.size u.heap.size) b All := by
  refine ⟨h.low.plus hg.size, fun k hk => .inl (h.sub k hk), ?_, h.bel.grown hg h.bel.size (fun k e => (hr k e).2)⟩
  refine (h.q.more (T := Plus S w.heap.size u.heap.size) (fun k hk => by
    rcases hk with hk | hk
    · exact .inl hk
    · exact .inr hk.1)).keepOut (fun k o hk ho => (hg.block k (lt_of_block ho) (fun e => hk (.inl (hr k e.symm).1))).trans ho)
/-- Changes that a statement lays one behind the other, beside a store. -/
structure ChR (w0 w : World) (S : Nat → Prop) (v : Value) (bt : List Chg) : Prop where
  row : w.ownsRow w0.heap.size 33 4 v bt.length (bt.flatMap cs4)
  inS : ∀ g, v.ownBlock = some g → S g
theorem ChR.nil (w0 w : World) (S : Nat → Prop) : ChR w0 w S (.slice none 0 0) [] := ⟨⟨rfl, .inl ⟨rfl, rfl⟩⟩, by intro g hg; simp [Value.ownBlock] at hg⟩
theorem ChR.plus {w0 w w' : World} {S : Nat → Prop} {v : Value} {bt : List Chg} (h : ChR w0 w S v bt) (hb : Below w.heap.size w w') : ChR w0 w' (Plus S w.heap.size w'.heap.size) v bt := ⟨owns_below h.row hb, fun g hg => .inl (h.inS g hg)⟩
theorem ChR.push {w0 w u : World} {S : Nat → Prop} {v : Value} {bt : List Chg} {c : Chg} {g cap : Nat} (h : ChR w0 w S v bt)
    (hown : u.ownsRow w0.heap.size 33 4 (.slice (some ⟨g, 0, none⟩) (bt.length + 1) cap) (bt.length + 1) (bt.flatMap cs4 ++ cs4 c)) (ha : v.ownBlock = some g ∨ g = w.heap.size + 1) (hl : g < u.heap.size) :
    ChR w0 u (Plus S w.heap.size u.heap.size) (.slice (some ⟨g, 0, none⟩) (bt.length + 1) cap) (bt ++ [c]) := by
  refine ⟨by simpa [List.flatMap_append] using hown, fun g' hg' => ?_⟩
  have e1 : g = g' := by simpa [Value.ownBlock] using hg'
  subst e1
  rcases ha with e2 | e2
  · exact .inl (h.inS g e2)
  · exact .inr ⟨by omega, hl⟩
theorem infoC : (Try.prog.info? 33).map (fun i => (i.zero, i.size, i.bytes)) = some (some (.agg #[.bool false, .string ⟨#[]⟩, .string ⟨#[]⟩, .string ⟨#[]⟩]), 4, 56) := by kernel_rfl
end Go.Proofs.Ytiabnjjdeikefab
