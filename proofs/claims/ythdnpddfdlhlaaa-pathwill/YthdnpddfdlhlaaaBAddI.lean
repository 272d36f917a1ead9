/- add of the program: any path that is shaped. -/
import Derived.Test.YthdnpddfdlhlaaaBAddT
namespace Go.Proofs.Ythdnpddfdlhlaaa
open Go.RowKit

theorem formed_cases {k : Int} {w : List UInt8} {n : Nat} (h : formedP k w n = true) : (k = 1 ∧ n = 0 ∧ isW w = true) ∨ (k = 2 ∧ 2 ≤ n) ∨ (k = 3 ∧ 2 ≤ n) ∨ (k = 4 ∧ n = 1) ∨ (k = 5 ∧ n = 1) ∨ (k = 6 ∧ n = 1) := by
  unfold formedP at h
  split at h
  · simp at h; rename_i hk; exact .inl ⟨hk, h.1, h.2⟩
  · split at h
    · simp at h
      rename_i hk
      rcases hk with hk | hk
      · exact .inr (.inl ⟨hk, h.1⟩)
      · exact .inr (.inr (.inl ⟨hk, h.1⟩))
    · split at h
      · simp at h
        rename_i hk
        rcases hk with hk | hk | hk
        · exact .inr (.inr (.inr (.inl ⟨hk, h.1⟩)))
        · exact .inr (.inr (.inr (.inr (.inl ⟨hk, h.1⟩))))
        · exact .inr (.inr (.inr (.inr (.inr ⟨hk, h.1⟩))))
      · cases h
theorem foldK_eq (c : Prt → Prt → Prt) (e : Bool) (l : List Vt) : foldK c e l = ((l.map Vt.pt).map prtOf).foldl c (prt0 e) := by
  unfold foldK
  rw [List.map_map]
  rfl
theorem sum_eq (l : List Vt) : ((l.map Vt.pt).map leaves).sum = (l.map fun x => leaves x.pt).sum := by
  rw [List.map_map]
  rfl
/-- Any path that is shaped is added. -/
theorem add_any : ∀ (t : Vt) (d : Nat), shapedP d t.pt = true → AddF 31 t := by
  apply Vt.ind
  intro k wd v kids ih d hsh
  cases d with
  | zero => simp [shapedP] at hsh
  | succ d =>
    rw [Vt.pt_mk, shapedP, Bool.and_eq_true, Bool.and_eq_true, List.all_eq_true] at hsh
    obtain ⟨⟨hfo, _⟩, hk⟩ := hsh
    rw [List.length_map] at hfo
    have hkids : ∀ x ∈ kids, AddF 31 x := fun x hx => ih x hx d (hk x.pt (List.mem_map_of_mem hx))
    rcases formed_cases hfo with ⟨rfl, hn, hw⟩ | ⟨rfl, hn⟩ | ⟨rfl, hn⟩ | ⟨rfl, hn⟩ | ⟨rfl, hn⟩ | ⟨rfl, hn⟩
    · obtain rfl : kids = [] := List.length_eq_zero_iff.1 hn
      exact add_of1 rfl (addWord_any rfl (by have := isW_len hw; omega))
    · refine add_of2 rfl ?_
      have h := addSeq_any (k := 2) (wd := wd) (v := v) hkids
      rw [foldK_eq] at h
      unfold AddF
      rw [Vt.pt_mk, prtOf_mk, leaves_mk, kindC, if_neg (by decide), if_pos rfl, if_neg (by decide), sum_eq]
      exact h
    · refine add_of3 rfl ?_
      have h := addAlt_any (k := 3) (wd := wd) (v := v) hkids
      rw [foldK_eq] at h
      unfold AddF
      rw [Vt.pt_mk, prtOf_mk, leaves_mk, kindC, if_neg (by decide), if_neg (by decide), if_neg (by decide), if_neg (by decide), if_neg (by decide), if_neg (by decide), sum_eq]
      exact h
    · obtain ⟨x, rfl⟩ := List.length_eq_one_iff.1 hn
      refine add_of4 rfl ?_
      unfold AddF
      rw [prt_one (.inl rfl), if_pos rfl, leaves_one (by decide)]
      exact addStar_any (hkids x (by simp))
    · obtain ⟨x, rfl⟩ := List.length_eq_one_iff.1 hn
      refine add_of5 rfl ?_
      unfold AddF
      rw [prt_one (.inr (.inl rfl)), if_neg (by decide), if_pos rfl, leaves_one (by decide)]
      exact addPlus_any (hkids x (by simp))
    · obtain ⟨x, rfl⟩ := List.length_eq_one_iff.1 hn
      refine add_of6 rfl ?_
      unfold AddF
      rw [prt_one (.inr (.inr rfl)), if_neg (by decide), if_neg (by decide), leaves_one (by decide)]
      exact addMaybe_any (hkids x (by simp))
end Go.Proofs.Ythdnpddfdlhlaaa
