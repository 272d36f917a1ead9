/- All shares, loads, and the least of them, without memory. -/
import Derived.Test.YtojjepkmnifngaaHMath
namespace Go.Proofs.Ytojjepkmnifngaa

/-- All shares of so many variables whose product is at most a number, the lesser ones first. -/
def allI : Nat → Nat → List (List Int)
  | 0, _ => [[]]
  | k + 1, m => (List.range m).flatMap fun s => (allI k (m / (s + 1))).map fun r => ((s + 1 : Nat) : Int) :: r
theorem allI_len : ∀ (k m : Nat), m ≤ 64 → (allI k m).length ≤ 64 ^ k
  | 0, _, _ => by simp [allI]
  | k + 1, m, hm => by
    have h : ∀ n, n ≤ m → ((List.range n).flatMap fun s => (allI k (m / (s + 1))).map fun r => ((s + 1 : Nat) : Int) :: r).length ≤ n * 64 ^ k := by
      intro n
      induction n with
      | zero => intro _; simp
      | succ n ih =>
        intro hn
        rw [List.range_succ, List.flatMap_append, List.length_append]
        have h1 := ih (by omega)
        have h2 := allI_len k (m / (n + 1)) (Nat.le_trans (Nat.div_le_self _ _) hm)
        simp only [List.flatMap_cons, List.flatMap_nil, List.append_nil, List.length_map]
        rw [Nat.succ_mul]
        omega
    have := h m (Nat.le_refl _)
    rw [allI, Nat.pow_succ, Nat.mul_comm]
    exact Nat.le_trans this (Nat.mul_le_mul_right _ hm)
theorem mem_allI : ∀ (k m : Nat) (l : List Int), l ∈ allI k m ↔ l.length = k ∧ (∀ x ∈ l, 1 ≤ x) ∧ (k = 0 ∨ prodI l ≤ m)
  | 0, m, l => by
    simp only [allI, List.mem_singleton]
    constructor
    · rintro rfl; simp
    · rintro ⟨h, _⟩; exact List.length_eq_zero_iff.1 h
  | k + 1, m, l => by
    simp only [allI, List.mem_flatMap, List.mem_range, List.mem_map]
    constructor
    · rintro ⟨s, hs, r, hr, rfl⟩
      obtain ⟨h1, h2, h3⟩ := (mem_allI k _ r).1 hr
      have hp := prodI_pos h2
      refine ⟨by simp [h1], fun x hx => ?_, .inr ?_⟩
      · rcases List.mem_cons.1 hx with rfl | hx
        · omega
        · exact h2 x hx
      · rw [prodI]
        have hle : prodI r ≤ ((m / (s + 1) : Nat) : Int) := by
          rcases h3 with h3 | h3
          · subst h3
            rw [List.length_eq_zero_iff.1 h1]
            have : 1 ≤ m / (s + 1) := (Nat.le_div_iff_mul_le (by omega)).2 (by omega)
            exact Int.ofNat_le.2 this
          · exact h3
        obtain ⟨q, hq⟩ : ∃ q : Nat, prodI r = (q : Int) := ⟨(prodI r).toNat, by omega⟩
        rw [hq] at hle ⊢
        have h4 : q ≤ m / (s + 1) := by omega
        have h5 : (s + 1) * q ≤ m := by rw [Nat.mul_comm]; exact (Nat.le_div_iff_mul_le (by omega)).1 h4
        rw [← Int.natCast_mul]
        omega
    · rintro ⟨h1, h2, h3⟩
      cases l with
      | nil => simp at h1
      | cons x r =>
        have hx := h2 x (by simp)
        have hr : ∀ y ∈ r, 1 ≤ y := fun y hy => h2 y (by simp [hy])
        have hp := prodI_pos hr
        rw [prodI] at h3
        obtain ⟨s, rfl⟩ : ∃ s : Nat, x = ((s + 1 : Nat) : Int) := ⟨(x - 1).toNat, by omega⟩
        obtain ⟨q, hq⟩ : ∃ q : Nat, prodI r = (q : Int) := ⟨(prodI r).toNat, by omega⟩
        have h4 : (s + 1) * q ≤ m := by
          rcases h3 with h3 | h3
          · omega
          · rw [hq, ← Int.natCast_mul] at h3; omega
        have hq1 : 1 ≤ q := by omega
        refine ⟨s, ?_, r, (mem_allI k _ r).2 ⟨by simpa using h1, hr, .inr ?_⟩, rfl⟩
        · have : (s + 1) * 1 ≤ (s + 1) * q := Nat.mul_le_mul_left _ hq1
          omega
        · rw [hq]
          have : q ≤ m / (s + 1) := (Nat.le_div_iff_mul_le (by omega)).2 (by rw [Nat.mul_comm]; exact h4)
          omega
theorem allI_ne (k m : Nat) (hm : 1 ≤ m) : allI k m ≠ [] := by
  have : List.replicate k (1 : Int) ∈ allI k m := by
    refine (mem_allI k m _).2 ⟨by simp, fun x hx => by rw [(List.mem_replicate.1 hx).2]; omega, .inr ?_⟩
    have : ∀ n, prodI (List.replicate n (1 : Int)) = 1 := by
      intro n
      induction n with
      | zero => rfl
      | succ n ih => rw [List.replicate_succ, prodI, ih]; rfl
    rw [this]; omega
  intro e
  rw [e] at this
  simp at this

/-! Loads. -/
def onceF (acc : List Int) (x : Int) : List Int := if x ∈ acc then acc else acc ++ [x]
def onceL (l : List Int) : List Int := l.foldl onceF []
theorem onceL_snoc (l : List Int) (x : Int) : onceL (l ++ [x]) = onceF (onceL l) x := by simp [onceL]
theorem mem_onceL (l : List Int) (z : Int) : z ∈ onceL l ↔ z ∈ l := by
  induction l using snoc_ind with
  | nil => simp [onceL]
  | snoc l x ih =>
    rw [onceL_snoc, onceF]
    by_cases h : x ∈ onceL l
    · rw [if_pos h, ih]
      constructor
      · intro g; simp [g]
      · intro g
        rcases List.mem_append.1 g with g | g
        · exact g
        · rw [List.mem_singleton.1 g]; exact ih.1 (by rw [List.mem_singleton.1 g]; exact h) |> fun y => by rw [List.mem_singleton.1 g] at y; exact y
    · rw [if_neg h, List.mem_append, ih, List.mem_append]
theorem onceL_nodup (l : List Int) : (onceL l).Nodup := by
  induction l using snoc_ind with
  | nil => simp [onceL]
  | snoc l x ih =>
    rw [onceL_snoc, onceF]
    by_cases h : x ∈ onceL l
    · rw [if_pos h]; exact ih
    · rw [if_neg h, List.nodup_append]
      refine ⟨ih, by simp, fun a ha b hb => ?_⟩
      rw [List.mem_singleton.1 hb]
      intro e
      exact h (e ▸ ha)
def gI (L : List Int) (z : Int) : Int := L.getD z.toNat 1
def kOf (L d : List Int) : Int := d.foldl (fun k v => k * gI L v) 1
theorem kOf_snoc (L d : List Int) (x : Int) : kOf L (d ++ [x]) = kOf L d * gI L x := by simp [kOf]
theorem kOf_prod (L d : List Int) : kOf L d = prodI (d.map (gI L)) := by
  induction d using snoc_ind with
  | nil => rfl
  | snoc d x ih => rw [kOf_snoc, ih, List.map_append, prodI_app]; simp [prodI]
theorem prodI_perm {a b : List Int} (h : a.Perm b) : prodI a = prodI b := by
  induction h with
  | nil => rfl
  | cons x _ ih => rw [prodI, prodI, ih]
  | swap x y l => rw [prodI, prodI, prodI, prodI, ← Int.mul_assoc, ← Int.mul_assoc, Int.mul_comm x y]
  | trans _ _ h1 h2 => rw [h1, h2]
theorem prod_sub (f : Int → Int) : ∀ (d R : List Int), d.Nodup → (∀ x ∈ d, x ∈ R) → (∀ x ∈ R, 1 ≤ f x) → prodI (d.map f) ≤ prodI (R.map f)
  | [], R, _, _, hf => by
    have := prodI_pos (l := R.map f) (fun y hy => by obtain ⟨x, hx, rfl⟩ := List.mem_map.1 hy; exact hf x hx)
    simp [prodI]; omega
  | x :: d, R, hd, hs, hf => by
    rw [List.nodup_cons] at hd
    have hx := hs x (by simp)
    have hp : (R.map f).Perm ((x :: R.erase x).map f) := (List.perm_cons_erase hx).map f
    rw [prodI_perm hp, List.map_cons, List.map_cons, prodI, prodI]
    have := prod_sub f d (R.erase x) hd.2 (fun y hy => (List.mem_erase_of_ne (fun e : y = x => hd.1 (e ▸ hy))).2 (hs y (by simp [hy]))) (fun y hy => hf y (List.mem_of_mem_erase hy))
    exact Int.mul_le_mul_of_nonneg_left this (by have := hf x hx; omega)
theorem map_range_gI (L : List Int) : (rngI L.length).map (gI L) = L := by
  apply List.ext_getElem
  · simp [rngI]
  · intro i h1 h2
    simp [rngI, gI, h2]
/-- What an atom's shares are together: 1 to the number of workers. -/
theorem kOf_range {L d : List Int} (hL : ∀ x ∈ L, 1 ≤ x) (hd : d.Nodup) (hr : ∀ x ∈ d, 0 ≤ x ∧ x < L.length) : 1 ≤ kOf L d ∧ kOf L d ≤ prodI L := by
  have hg : ∀ x, 0 ≤ x → x < (L.length : Int) → 1 ≤ gI L x := fun x h0 h1 => by
    unfold gI
    rw [List.getD_eq_getElem?_getD, List.getElem?_eq_getElem (show x.toNat < L.length by omega)]
    exact hL _ (List.getElem_mem _)
  rw [kOf_prod]
  refine ⟨prodI_pos (fun y hy => by obtain ⟨x, hx, rfl⟩ := List.mem_map.1 hy; exact hg x (hr x hx).1 (hr x hx).2), ?_⟩
  have hm : ∀ x, x ∈ rngI L.length ↔ 0 ≤ x ∧ x < (L.length : Int) := fun x => by
    unfold rngI
    rw [Int.toNat_natCast]
    simp only [List.mem_map, List.mem_range]
    constructor
    · rintro ⟨c, hc, rfl⟩; omega
    · rintro ⟨h0, h1⟩; exact ⟨x.toNat, by omega, by omega⟩
  have := prod_sub (gI L) d (rngI L.length) hd (fun x hx => (hm x).2 (hr x hx)) (fun x hx => hg x ((hm x).1 hx).1 ((hm x).1 hx).2)
  rw [map_range_gI] at this
  exact this
/-- One atom's load, of its size and the product of its shares. -/
def upI (z k : Int) : Int := (z + k - 1) / k
def loadP (L : List Int) (A : List (List Int × Int)) : Int := A.foldl (fun n a => n + upI a.2 (kOf L a.1)) 0
theorem loadP_snoc (L : List Int) (A : List (List Int × Int)) (a : List Int × Int) : loadP L (A ++ [a]) = loadP L A + upI a.2 (kOf L a.1) := by simp [loadP]
def onceA (A : List (List Int × Int)) : List (List Int × Int) := A.map fun a => (onceL a.1, a.2)
/-- Atoms of so many variables, with their sizes, that may be asked for. -/
def FitA (n : Nat) (A : List (List Int × Int)) : Prop := ∀ a ∈ A, (∀ v ∈ a.1, 0 ≤ v ∧ v < (n : Int)) ∧ 0 ≤ a.2 ∧ a.2 ≤ 1048576
theorem upI_range {z k : Int} (h0 : 0 ≤ z) (h1 : z ≤ 1048576) (hk : 1 ≤ k) : 0 ≤ upI z k ∧ upI z k ≤ 1048576 := by
  unfold upI
  refine ⟨Int.ediv_nonneg (by omega) (by omega), ?_⟩
  have : (z + k - 1) / k < 1048576 + 1 := by
    rw [Int.ediv_lt_iff_lt_mul (by omega)]
    have : (1048576 : Int) * k ≥ 1048576 * 1 := Int.mul_le_mul_of_nonneg_left hk (by omega)
    have e2 : (1048576 : Int) * 1 ≤ 1048576 * k := this
    rw [Int.add_mul]
    by_cases hz : z = 0
    · omega
    · have : z * 1 ≤ 1048576 * 1 := by omega
      omega
  omega
theorem fit_k {L : List Int} {A : List (List Int × Int)} (hA : FitA L.length A) (hL : okL L = true) {a : List Int × Int} (ha : a ∈ A) : 1 ≤ kOf L (onceL a.1) ∧ kOf L (onceL a.1) ≤ 64 := by
  obtain ⟨h1, h2, h3⟩ := okL_iff.1 hL
  have := kOf_range h2 (onceL_nodup a.1) (fun x hx => (hA a ha).1 x ((mem_onceL _ _).1 hx))
  omega
theorem load_range {L : List Int} {A : List (List Int × Int)} (hA : FitA L.length A) (hL : okL L = true) : 0 ≤ loadP L (onceA A) ∧ loadP L (onceA A) ≤ 1048576 * (A.length : Int) := by
  induction A using snoc_ind with
  | nil => simp [onceA, loadP]
  | snoc A a ih =>
    obtain ⟨i1, i2⟩ := ih (fun b hb => hA b (by simp [hb]))
    have hk := fit_k hA hL (a := a) (by simp)
    have hz := (hA a (by simp)).2
    have hu := upI_range hz.1 hz.2 hk.1
    have e : onceA (A ++ [a]) = onceA A ++ [(onceL a.1, a.2)] := by simp [onceA]
    rw [e, loadP_snoc, List.length_append, List.length_singleton]
    simp only
    omega
/-! The first of the least. -/
def bstF (f : List Int → Int) (b : List Int × Int) (l : List Int) : List Int × Int := if b.2 < 0 ∨ f l < b.2 then (l, f l) else b
def bst (f : List Int → Int) (ls : List (List Int)) : List Int × Int := ls.foldl (bstF f) ([], -1)
theorem bst_snoc (f : List Int → Int) (ls : List (List Int)) (l : List Int) : bst f (ls ++ [l]) = bstF f (bst f ls) l := by simp [bst]
theorem bst_one (f : List Int → Int) (l : List Int) : bst f [l] = (l, f l) := by simp [bst, bstF]
theorem bst_spec (f : List Int → Int) (ls : List (List Int)) (hf : ∀ l ∈ ls, 0 ≤ f l) : ls = [] ∧ bst f ls = ([], -1) ∨ ((bst f ls).1 ∈ ls ∧ (bst f ls).2 = f (bst f ls).1 ∧ ∀ l ∈ ls, f (bst f ls).1 ≤ f l) := by
  induction ls using snoc_ind with
  | nil => exact .inl ⟨rfl, rfl⟩
  | snoc ls l ih =>
    right
    rw [bst_snoc, bstF]
    rcases ih (fun x hx => hf x (by simp [hx])) with ⟨rfl, h⟩ | ⟨h1, h2, h3⟩
    · rw [h, if_pos (.inl (by decide))]
      simp
    · have h0 := hf _ (List.mem_append_left _ h1)
      by_cases hc : f l < (bst f ls).2
      · rw [if_pos (.inr hc)]
        refine ⟨by simp, rfl, fun x hx => ?_⟩
        rcases List.mem_append.1 hx with hx | hx
        · have := h3 x hx; simp only; omega
        · rw [List.mem_singleton.1 hx]; exact Int.le_refl _
      · rw [if_neg (by rintro (h | h); omega; exact hc h)]
        refine ⟨List.mem_append_left _ h1, h2, fun x hx => ?_⟩
        rcases List.mem_append.1 hx with hx | hx
        · exact h3 x hx
        · rw [List.mem_singleton.1 hx]; omega
theorem bst_next {f : List Int → Int} {ls : List (List Int)} {x l : List Int} (h : bst f ls = (x, f x)) (h0 : 0 ≤ f x) : bst f (ls ++ [l]) = if f l < f x then (l, f l) else (x, f x) := by
  rw [bst_snoc, h, bstF]
  by_cases hc : f l < f x
  · rw [if_pos (.inr hc), if_pos hc]
  · rw [if_neg (by rintro (h | h); simp only at h; omega; exact hc h), if_neg hc]
end Go.Proofs.Ytojjepkmnifngaa
