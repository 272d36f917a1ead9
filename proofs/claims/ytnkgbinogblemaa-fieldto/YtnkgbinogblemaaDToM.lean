/- Those that go to each node are together all: without memory. -/
import Derived.Test.YtnkgbinogblemaaDMath
namespace Go.Proofs.Ytnkgbinogblemaa

def upK (l : List Pk) (k : Nat) : List Pk := l.filter (fun p => decide ((k : Int) ≤ p.to))
def notK (l : List Pk) (k : Nat) : List Pk := l.filter (fun p => decide (p.to ≠ (k : Int)))
def T (l : List Pk) (k : Nat) : List Pk := l.filter (fun p => decide (p.to = (k : Int)))
theorem upK_0 {l : List Pk} (h : ∀ p ∈ l, 0 ≤ p.to) : upK l 0 = l := List.filter_eq_self.2 (fun p hp => by simpa using h p hp)
theorem upK_3 {l : List Pk} (h : ∀ p ∈ l, p.to < 3) : upK l 3 = [] := List.filter_eq_nil_iff.2 (fun p hp => by have := h p hp; simp; omega)
theorem notK_up (l : List Pk) (k : Nat) : notK (upK l k) k = upK l (k + 1) := by
  unfold notK upK
  rw [List.filter_filter]
  refine List.filter_congr (fun p _ => ?_)
  have : ((k + 1 : Nat) : Int) ≤ p.to ↔ (p.to ≠ (k : Int) ∧ (k : Int) ≤ p.to) := by omega
  simp only [this, Bool.decide_and]
theorem len_up (l : List Pk) (k : Nat) : (T (upK l k) k).length + (upK l (k + 1)).length = (upK l k).length := by
  rw [← notK_up]
  induction upK l k with
  | nil => rfl
  | cons p r ih =>
    unfold T notK at ih ⊢
    by_cases h : p.to = (k : Int)
    · simp [h] at ih ⊢; omega
    · simp [h] at ih ⊢; omega
/-- So far as the first ones of those that go to k are gone. -/
structure Gone (lk R : List Pk) (k i : Nat) : Prop where
  rest : T R k = (T lk k).drop i
  not : notK R k = notK lk k
theorem gone_0 (l : List Pk) (k : Nat) : Gone l l k 0 := ⟨by simp, rfl⟩
theorem Gone.next {lk R : List Pk} {k i : Nat} (h : Gone lk R k i) (hu : UpP R) {p : Pk} (hp : (T lk k)[i]? = some p) : ∃ a c, R = a ++ p :: c ∧ p.to = (k : Int) ∧ Gone lk (a ++ c) k (i + 1) := by
  have hd : (T lk k).drop i = p :: (T lk k).drop (i + 1) := by
    have := (List.getElem?_eq_some_iff.1 hp)
    obtain ⟨h1, h2⟩ := this
    rw [List.drop_eq_getElem_cons h1, h2]
  have hr := h.rest
  rw [hd] at hr
  have hm : p ∈ T R k := by rw [hr]; simp
  have hpt : p.to = (k : Int) := by simpa using (List.mem_filter.1 hm).2
  obtain ⟨a, c, rfl⟩ := List.append_of_mem (List.mem_filter.1 hm).1
  obtain ⟨u1, u2⟩ := up_cut hu
  have e1 : T (a ++ p :: c) k = T a k ++ p :: T c k := by simp [T, hpt]
  rw [e1] at hr
  have ha : T a k = [] := by
    cases h0 : T a k with
    | nil => rfl
    | cons x r =>
      rw [h0] at hr
      simp only [List.cons_append, List.cons.injEq] at hr
      have : x ∈ a := (List.mem_filter.1 (show x ∈ T a k by rw [h0]; simp)).1
      have := u1 x this
      rw [hr.1] at this
      omega
  rw [ha] at hr
  simp only [List.nil_append, List.cons.injEq, true_and] at hr
  refine ⟨a, c, rfl, hpt, ⟨?_, ?_⟩⟩
  · have : T (a ++ c) k = T a k ++ T c k := by simp [T]
    rw [this, ha, List.nil_append, hr]
  · rw [← h.not]
    simp [notK, hpt]
theorem Gone.end_ {lk R : List Pk} {k : Nat} (h : Gone lk R k (T lk k).length) : R = notK lk k := by
  rw [← h.not]
  have h1 := h.rest
  rw [List.drop_length] at h1
  exact (List.filter_eq_self.2 (fun p hp => by
    have := List.filter_eq_nil_iff.1 h1 p hp
    simpa using this)).symm
theorem T_up {l : List Pk} (h : UpP l) (k : Nat) : UpP (T l k) := List.Pairwise.filter _ h
theorem T_rise {l : List Pk} (h : UpP l) {k i : Nat} {p q : Pk} (hp : (T l k)[i]? = some p) (hq : (T l k)[i + 1]? = some q) : p.id < q.id := by
  obtain ⟨h1, rfl⟩ := List.getElem?_eq_some_iff.1 hp
  obtain ⟨h2, rfl⟩ := List.getElem?_eq_some_iff.1 hq
  exact List.pairwise_iff_getElem.1 (T_up h k) i (i + 1) h1 h2 (by omega)
end Go.Proofs.Ytnkgbinogblemaa
