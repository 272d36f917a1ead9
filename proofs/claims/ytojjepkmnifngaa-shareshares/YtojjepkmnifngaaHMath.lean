/- Shares, cells, routes, without memory. -/
import Derived.Test.YtojjepkmnifngaaRows
namespace Go.Proofs.Ytojjepkmnifngaa

theorem snoc_ind {α : Type} {P : List α → Prop} (nil : P []) (snoc : ∀ q x, P q → P (q ++ [x])) (l : List α) : P l := by
  have h : ∀ (n : Nat) (l : List α), l.length = n → P l := by
    intro n
    induction n with
    | zero => intro l hl; rw [List.length_eq_zero_iff.1 hl]; exact nil
    | succ n ih =>
      intro l hl
      have hne : l ≠ [] := by intro e; rw [e] at hl; simp at hl
      rw [← List.dropLast_concat_getLast hne]
      exact snoc _ _ (ih _ (by simp; omega))
  exact h _ l rfl
/-! Products. -/
def prodI : List Int → Int
  | [] => 1
  | x :: l => x * prodI l
theorem prodI_app (a b : List Int) : prodI (a ++ b) = prodI a * prodI b := by
  induction a with
  | nil => simp [prodI]
  | cons x l ih => rw [List.cons_append, prodI, prodI, ih, Int.mul_assoc]
theorem prodI_pos {l : List Int} (h : ∀ x ∈ l, 1 ≤ x) : 1 ≤ prodI l := by
  induction l with
  | nil => simp [prodI]
  | cons x l ih =>
    have h1 := h x (by simp)
    have h2 := ih (fun y hy => h y (by simp [hy]))
    rw [prodI]
    have := Int.mul_le_mul h1 h2 (by omega) (by omega)
    omega
theorem prodI_mono {a b : List Int} (hb : ∀ x ∈ b, 1 ≤ x) (ha : ∀ x ∈ a, 1 ≤ x) : prodI a ≤ prodI (a ++ b) := by
  rw [prodI_app]
  have h1 := prodI_pos ha
  have h2 := prodI_pos hb
  have := Int.mul_le_mul (Int.le_refl (prodI a)) h2 (by omega) (by omega)
  omega
/-- May shares be? -/
def okL (L : List Int) : Bool := decide (L.length ≤ 16) && L.all (fun x => decide (1 ≤ x)) && decide (prodI L ≤ 64)
theorem okL_iff {L : List Int} : okL L = true ↔ L.length ≤ 16 ∧ (∀ x ∈ L, 1 ≤ x) ∧ prodI L ≤ 64 := by
  simp [okL, and_assoc]
theorem okL_part {a b : List Int} (h : okL (a ++ b) = true) : okL a = true := by
  obtain ⟨h1, h2, h3⟩ := okL_iff.1 h
  refine okL_iff.2 ⟨by simp at h1; omega, fun x hx => h2 x (by simp [hx]), ?_⟩
  have := prodI_mono (a := a) (b := b) (fun x hx => h2 x (by simp [hx])) (fun x hx => h2 x (by simp [hx]))
  omega
theorem take_snoc {α : Type} {L : List α} {i : Nat} {x : α} (h : L[i]? = some x) : L.take (i + 1) = L.take i ++ [x] := by
  rw [List.take_add_one, h]; rfl
theorem prodI_snoc {L : List Int} {i : Nat} {x : Int} (h : L[i]? = some x) : prodI (L.take (i + 1)) = prodI (L.take i) * x := by
  rw [take_snoc h, prodI_app]; simp [prodI]
theorem okL_mem {L : List Int} (h : okL L = true) {x : Int} (hx : x ∈ L) : 1 ≤ x ∧ x ≤ 64 := by
  obtain ⟨h1, h2, h3⟩ := okL_iff.1 h
  obtain ⟨a, b, rfl⟩ := List.append_of_mem hx
  have ha : ∀ y ∈ a, 1 ≤ y := fun y hy => h2 y (by simp [hy])
  have hb : ∀ y ∈ b, 1 ≤ y := fun y hy => h2 y (by simp [hy])
  have hx1 := h2 x hx
  rw [prodI_app, prodI] at h3
  have p1 := prodI_pos ha
  have p2 := prodI_pos hb
  refine ⟨hx1, ?_⟩
  have q1 : x * 1 ≤ x * prodI b := Int.mul_le_mul_of_nonneg_left p2 (by omega)
  have q2 : 1 * (x * prodI b) ≤ prodI a * (x * prodI b) := Int.mul_le_mul_of_nonneg_right p1 (by omega)
  omega

/-! Cells. -/
/-- A variable's part behind a cell's others: what cells come of cells. -/
def putC (s b : Int) (a : Int) : List Int := ((List.range s.toNat).filter (fun (p : Nat) => decide (b = -1) || decide (b = (p : Int)))).map (fun (p : Nat) => a * s + (p : Int))
def stepL (cs : List Int) (q : Int × Int) : List Int := cs.flatMap (putC q.1 q.2)
def cellsL (q : List (Int × Int)) : List Int := q.foldl stepL [0]
theorem cellsL_snoc (q : List (Int × Int)) (x : Int × Int) : cellsL (q ++ [x]) = (cellsL q).flatMap (putC x.1 x.2) := by
  simp [cellsL, stepL]
def coordI (L : List Int) (v : Nat) (c : Int) : Int := (c / prodI (L.drop (v + 1))) % L.getD v 1
def cellB (q : List (Int × Int)) (c : Int) : Bool := (List.range q.length).all fun v => decide ((q.getD v (1, -1)).2 = -1) || decide (coordI (q.map (·.1)) v c = (q.getD v (1, -1)).2)
def rngI (P : Int) : List Int := (List.range P.toNat).map fun (c : Nat) => (c : Int)
theorem range_mul (a b : Nat) : List.range (a * b) = (List.range a).flatMap fun i => (List.range b).map fun j => i * b + j := by
  induction a with
  | zero => simp
  | succ a ih =>
    rw [List.range_succ, List.flatMap_append, ← ih, Nat.succ_mul, List.range_add]
    simp
theorem coord_snoc (L : List Int) (s : Int) (hs : 1 ≤ s) (v : Nat) (hv : v < L.length) (a p : Int) (h0 : 0 ≤ p) (h1 : p < s) : coordI (L ++ [s]) v (a * s + p) = coordI L v a := by
  unfold coordI
  rw [List.drop_append_of_le_length (by omega), prodI_app]
  have e1 : (L ++ [s]).getD v 1 = L.getD v 1 := by
    rw [List.getD_eq_getElem?_getD, List.getD_eq_getElem?_getD, List.getElem?_append_left hv]
  rw [e1]
  have e2 : prodI [s] = s := by simp [prodI]
  rw [e2, Int.mul_comm (prodI _) s, ← Int.ediv_ediv_of_nonneg (by omega)]
  rw [Int.add_comm, Int.add_mul_ediv_right _ _ (by omega), Int.ediv_eq_zero_of_lt h0 h1, Int.zero_add]
theorem coord_last (L : List Int) (s : Int) (a p : Int) (h0 : 0 ≤ p) (h1 : p < s) : coordI (L ++ [s]) L.length (a * s + p) = p := by
  unfold coordI
  have e0 : prodI ((L ++ [s]).drop (L.length + 1)) = 1 := by
    rw [List.drop_of_length_le (by simp)]; rfl
  have e1 : (L ++ [s]).getD L.length 1 = s := by simp
  rw [e0, e1, Int.ediv_one, Int.add_comm, Int.add_mul_emod_self_right, Int.emod_eq_of_lt h0 h1]
theorem flatMap_congrH {α β : Type} {l : List α} {f g : α → List β} (h : ∀ x ∈ l, f x = g x) : l.flatMap f = l.flatMap g := by
  induction l with
  | nil => rfl
  | cons x l ih => rw [List.flatMap_cons, List.flatMap_cons, h x (by simp), ih (fun y hy => h y (by simp [hy]))]
theorem all_congrH {α : Type} {l : List α} {f g : α → Bool} (h : ∀ x ∈ l, f x = g x) : l.all f = l.all g := by
  induction l with
  | nil => rfl
  | cons x l ih => rw [List.all_cons, List.all_cons, h x (by simp), ih (fun y hy => h y (by simp [hy]))]
theorem cellB_snoc (q : List (Int × Int)) (s b a p : Int) (hs : 1 ≤ s) (h0 : 0 ≤ p) (h1 : p < s) : cellB (q ++ [(s, b)]) (a * s + p) = (cellB q a && (decide (b = -1) || decide (b = p))) := by
  unfold cellB
  rw [List.length_append, List.length_singleton, List.range_succ, List.all_append]
  congr 1
  · refine all_congrH (fun v hv => ?_)
    have hv := List.mem_range.1 hv
    have e1 : (q ++ [(s, b)]).getD v (1, -1) = q.getD v (1, -1) := by
      rw [List.getD_eq_getElem?_getD, List.getD_eq_getElem?_getD, List.getElem?_append_left hv]
    rw [e1, List.map_append, List.map_singleton, coord_snoc _ s hs v (by simpa using hv) a p h0 h1]
  · have e1 : (q ++ [(s, b)]).getD q.length (1, -1) = (s, b) := by simp
    have e2 := coord_last (q.map (·.1)) s a p h0 h1
    rw [List.length_map] at e2
    simp only [List.all_cons, List.all_nil, Bool.and_true, e1, List.map_append, List.map_singleton, e2]
    congr 1
    by_cases h : p = b
    · simp [h]
    · rw [decide_eq_false h, decide_eq_false (fun e => h e.symm)]
theorem filter_flatMap_map {α β : Type} (f : β → Bool) (l : List α) (g : α → List β) : (l.flatMap g).filter f = l.flatMap fun a => (g a).filter f := by
  induction l with
  | nil => rfl
  | cons x l ih => simp [ih]
theorem flatMap_filter {α β : Type} (p : α → Bool) (l : List α) (g : α → List β) : (l.filter p).flatMap g = l.flatMap fun a => if p a then g a else [] := by
  induction l with
  | nil => rfl
  | cons x l ih =>
    by_cases h : p x = true
    · simp [h, ih]
    · have h : p x = false := by simpa using h
      simp [h, ih]
/-- The cells that are put together are all cells of those parts, rising. -/
theorem cellsL_eq (q : List (Int × Int)) (h : ∀ x ∈ q, 1 ≤ x.1) : cellsL q = (rngI (prodI (q.map (·.1)))).filter (cellB q) := by
  induction q using snoc_ind with
  | nil => rfl
  | snoc q x ih =>
    obtain ⟨s, b⟩ := x
    have hq : ∀ x ∈ q, 1 ≤ x.1 := fun y hy => h y (by simp [hy])
    have hs : 1 ≤ s := h (s, b) (by simp)
    have hP : 1 ≤ prodI (q.map (·.1)) := prodI_pos (fun x hx => by obtain ⟨y, hy, rfl⟩ := List.mem_map.1 hx; exact hq y hy)
    rw [cellsL_snoc, ih hq, List.map_append, prodI_app]
    obtain ⟨P, hPe⟩ : ∃ P : Nat, prodI (q.map (·.1)) = (P : Int) := ⟨(prodI (q.map (·.1))).toNat, by omega⟩
    obtain ⟨m, hm⟩ : ∃ m : Nat, s = (m : Int) := ⟨s.toNat, by omega⟩
    have e1 : prodI (List.map (·.1) [(s, b)]) = s := by simp [prodI]
    rw [e1, hPe, hm, flatMap_filter]
    have e2 : rngI ((P : Int) * (m : Int)) = (rngI P).flatMap fun a => (List.range m).map fun (p : Nat) => a * (m : Int) + (p : Int) := by
      unfold rngI
      rw [← Int.natCast_mul, Int.toNat_natCast, Int.toNat_natCast, range_mul, List.map_flatMap, List.flatMap_map]
      refine flatMap_congrH (fun a _ => ?_)
      rw [List.map_map]
      refine List.map_congr_left (fun p _ => ?_)
      simp
    rw [e2, filter_flatMap_map]
    refine flatMap_congrH (fun a _ => ?_)
    rw [List.filter_map]
    have e3 : (List.range m).filter (cellB (q ++ [((m : Int), b)]) ∘ fun (p : Nat) => a * (m : Int) + (p : Int)) = (List.range m).filter fun (p : Nat) => cellB q a && (decide (b = -1) || decide (b = (p : Int))) :=
      List.filter_congr (fun p hp => cellB_snoc q m b a p (by omega) (by omega) (by have := List.mem_range.1 hp; omega))
    show _ = List.map _ ((List.range m).filter (cellB (q ++ [((m : Int), b)]) ∘ fun (p : Nat) => a * (m : Int) + (p : Int)))
    rw [e3]
    unfold putC
    cases cellB q a
    · simp
    · simp
/-- Words of some variables, with the parts they are of: what binds a variable. -/
structure Bnd (ps : List (Int × Int)) (Bd : List Int) : Prop where
  at_ : ∀ p ∈ ps, Bd[p.1.toNat]? = some p.2
  of : ∀ (v : Nat) (z : Int), Bd[v]? = some z → z = -1 ∨ ((v : Int), z) ∈ ps
def routeB (L : List Int) (ps : List (Int × Int)) (c : Int) : Bool := ps.all fun p => decide (coordI L p.1.toNat c = p.2)
def routeL (L : List Int) (ps : List (Int × Int)) : List Int := (rngI (prodI L)).filter (routeB L ps)
theorem route_eq {L Bd : List Int} {ps : List (Int × Int)} (hL : ∀ x ∈ L, 1 ≤ x) (hl : Bd.length = L.length) (hb : Bnd ps Bd) (hp : ∀ p ∈ ps, 0 ≤ p.2) : routeL L ps = cellsL (L.zip Bd) := by
  have hm : (L.zip Bd).map (·.1) = L := by rw [List.map_fst_zip]; omega
  rw [cellsL_eq _ (fun x hx => hL _ (List.of_mem_zip hx).1), hm]
  refine List.filter_congr (fun c _ => ?_)
  unfold routeB cellB
  rw [hm]
  rw [Bool.eq_iff_iff, List.all_eq_true, List.all_eq_true]
  have hz : ∀ v, v < L.length → ∃ s z, L[v]? = some s ∧ Bd[v]? = some z ∧ (L.zip Bd).getD v (1, -1) = (s, z) := fun v hv => by
    refine ⟨_, _, List.getElem?_eq_getElem hv, List.getElem?_eq_getElem (by omega), ?_⟩
    rw [List.getD_eq_getElem?_getD, List.getElem?_eq_getElem (by simp; omega)]
    simp
  have hlz : (L.zip Bd).length = L.length := by simp; omega
  constructor
  · intro h v hv
    rw [List.mem_range, hlz] at hv
    obtain ⟨s, z, e1, e2, e3⟩ := hz v hv
    rw [e3]
    rcases hb.of v z e2 with h1 | h1
    · simp [h1]
    · have := h _ h1
      simp only [Int.toNat_natCast] at this
      rw [this, Bool.or_true]
  · intro h p hpm
    have e := hb.at_ p hpm
    have hv : p.1.toNat < L.length := by have := (List.getElem?_eq_some_iff.1 e).1; omega
    have h1 := h p.1.toNat (by rw [List.mem_range, hlz]; exact hv)
    obtain ⟨s, z, e1, e2, e3⟩ := hz _ hv
    rw [e3] at h1
    rw [e] at e2
    have ez : p.2 = z := Option.some.inj e2
    rw [← ez] at h1
    have := hp p hpm
    rw [decide_eq_false (show ¬ p.2 = -1 by omega), Bool.false_or] at h1
    exact h1
theorem route_none {L : List Int} {ps : List (Int × Int)} {v a b : Int} (h1 : (v, a) ∈ ps) (h2 : (v, b) ∈ ps) (hne : a ≠ b) : routeL L ps = [] := by
  rw [routeL, List.filter_eq_nil_iff]
  intro c _ h
  rw [routeB, List.all_eq_true] at h
  have e1 := of_decide_eq_true (h _ h1)
  have e2 := of_decide_eq_true (h _ h2)
  exact hne (e1.symm.trans e2)
/-! One cell, and how many cells. -/
theorem filter_one (m : Nat) (b : Nat) (hb : b < m) : (List.range m).filter (fun (p : Nat) => decide ((b : Int) = -1) || decide ((b : Int) = (p : Int))) = [b] := by
  have e : (List.range m).filter (fun (p : Nat) => decide ((b : Int) = -1) || decide ((b : Int) = (p : Int))) = (List.range m).filter (fun p => p == b) := by
    refine List.filter_congr (fun p _ => ?_)
    rw [decide_eq_false (by omega), Bool.false_or]
    by_cases h : p = b
    · simp [h]
    · rw [decide_eq_false (by omega)]; simp [h]
  rw [e]
  induction m with
  | zero => omega
  | succ m ih =>
    rw [List.range_succ, List.filter_append]
    by_cases h : b = m
    · subst h
      have : (List.range b).filter (fun p => p == b) = [] := by
        rw [List.filter_eq_nil_iff]; intro x hx; have := List.mem_range.1 hx; simp; omega
      simp [this]
    · have h2 : b < m := by omega
      have e3 : (List.range m).filter (fun (p : Nat) => decide ((b : Int) = -1) || decide ((b : Int) = (p : Int))) = (List.range m).filter (fun p => p == b) := by
        refine List.filter_congr (fun p _ => ?_)
        rw [decide_eq_false (by omega), Bool.false_or]
        by_cases h : p = b
        · simp [h]
        · rw [decide_eq_false (by omega)]; simp [h]
      rw [ih h2 e3]
      have : ¬ m = b := fun x => h x.symm
      simp [this]
theorem putC_one (s b a : Int) (h0 : 0 ≤ b) (h1 : b < s) : putC s b a = [a * s + b] := by
  obtain ⟨m, rfl⟩ : ∃ m : Nat, b = (m : Int) := ⟨b.toNat, by omega⟩
  unfold putC
  rw [filter_one s.toNat m (by omega)]
  simp
theorem putC_all_len (s a : Int) : (putC s (-1) a).length = s.toNat := by
  unfold putC
  rw [List.length_map, List.filter_eq_self.2 (fun p _ => by simp), List.length_range]
theorem putC_mem {s b a p : Int} (h0 : 0 ≤ p) (h1 : p < s) (h : b = -1 ∨ b = p) : a * s + p ∈ putC s b a := by
  unfold putC
  refine List.mem_map.2 ⟨p.toNat, List.mem_filter.2 ⟨List.mem_range.2 (by omega), ?_⟩, by rw [show ((p.toNat : Nat) : Int) = p by omega]⟩
  have e : ((p.toNat : Nat) : Int) = p := by omega
  rw [e]
  rcases h with h | h
  · simp [h]
  · simp [h]
def horner (q : List (Int × Int)) : Int := q.foldl (fun n x => n * x.1 + x.2) 0
theorem horner_snoc (q : List (Int × Int)) (x : Int × Int) : horner (q ++ [x]) = horner q * x.1 + x.2 := by simp [horner]
theorem cellsL_one (q : List (Int × Int)) (h : ∀ x ∈ q, 0 ≤ x.2 ∧ x.2 < x.1) : cellsL q = [horner q] := by
  induction q using snoc_ind with
  | nil => rfl
  | snoc q x ih =>
    rw [cellsL_snoc, ih (fun y hy => h y (by simp [hy])), horner_snoc, List.flatMap_singleton]
    exact putC_one _ _ _ (h x (by simp)).1 (h x (by simp)).2
theorem horner_range (q : List (Int × Int)) (h : ∀ x ∈ q, 0 ≤ x.2 ∧ x.2 < x.1) : 0 ≤ horner q ∧ horner q < prodI (q.map (·.1)) := by
  induction q using snoc_ind with
  | nil => simp [horner, prodI]
  | snoc q x ih =>
    obtain ⟨i1, i2⟩ := ih (fun y hy => h y (by simp [hy]))
    obtain ⟨j1, j2⟩ := h x (by simp)
    rw [horner_snoc, List.map_append, prodI_app, List.map_singleton, prodI, prodI, Int.mul_one]
    constructor
    · have := Int.mul_nonneg i1 (show 0 ≤ x.1 by omega); omega
    · have : (horner q + 1) * x.1 ≤ prodI (q.map (·.1)) * x.1 := Int.mul_le_mul_of_nonneg_right (by omega) (by omega)
      rw [Int.add_mul] at this
      omega
theorem cellsL_mem (L : List Int) : ∀ (B P : List Int), B.length = L.length → P.length = L.length → (∀ (v : Nat) s b p, L[v]? = some s → B[v]? = some b → P[v]? = some p → 0 ≤ p ∧ p < s ∧ (b = -1 ∨ b = p)) → horner (L.zip P) ∈ cellsL (L.zip B) := by
  induction L using snoc_ind with
  | nil => intro B P h1 h2 _; simp [horner, cellsL]
  | snoc L s ih =>
    intro B P h1 h2 h
    rw [List.length_append, List.length_singleton] at h1 h2
    obtain ⟨B', b, rfl⟩ : ∃ B' b, B = B' ++ [b] := ⟨B.dropLast, B.getLast (by intro e; rw [e] at h1; simp at h1), (List.dropLast_concat_getLast _).symm⟩
    obtain ⟨P', p, rfl⟩ : ∃ P' p, P = P' ++ [p] := ⟨P.dropLast, P.getLast (by intro e; rw [e] at h2; simp at h2), (List.dropLast_concat_getLast _).symm⟩
    have l1 : B'.length = L.length := by simpa using h1
    have l2 : P'.length = L.length := by simpa using h2
    rw [List.zip_append l1.symm, List.zip_append l2.symm]
    simp only [List.zip_cons_cons, List.zip_nil_right]
    rw [cellsL_snoc, horner_snoc]
    have hlast := h L.length s b p (by simp) (by rw [← l1]; simp) (by rw [← l2]; simp)
    refine List.mem_flatMap.2 ⟨horner (L.zip P'), ih B' P' l1 l2 (fun v s' b' p' e1 e2 e3 => ?_), putC_mem hlast.1 hlast.2.1 hlast.2.2⟩
    have hv := (List.getElem?_eq_some_iff.1 e1).1
    exact h v s' b' p' (by rw [List.getElem?_append_left hv]; exact e1) (by rw [List.getElem?_append_left (by omega)]; exact e2) (by rw [List.getElem?_append_left (by omega)]; exact e3)
theorem flatMap_len {α β : Type} (n : Nat) (l : List α) (g : α → List β) (h : ∀ a ∈ l, (g a).length = n) : (l.flatMap g).length = l.length * n := by
  induction l with
  | nil => simp
  | cons x l ih =>
    rw [List.flatMap_cons, List.length_append, h x (by simp), ih (fun a ha => h a (by simp [ha])), List.length_cons, Nat.succ_mul]
    omega
def wideL (q : List (Int × Int)) : List Int := q.map fun x => if x.2 = -1 then x.1 else 1
theorem cellsL_len (q : List (Int × Int)) (h : ∀ x ∈ q, 1 ≤ x.1 ∧ (x.2 = -1 ∨ (0 ≤ x.2 ∧ x.2 < x.1))) : ((cellsL q).length : Int) = prodI (wideL q) := by
  induction q using snoc_ind with
  | nil => rfl
  | snoc q x ih =>
    obtain ⟨h1, h2⟩ := h x (by simp)
    have ih := ih (fun y hy => h y (by simp [hy]))
    rw [cellsL_snoc]
    unfold wideL at ih ⊢
    rw [List.map_append, prodI_app, ← ih, List.map_singleton, prodI, prodI, Int.mul_one]
    by_cases e : x.2 = -1
    · rw [if_pos e, e, flatMap_len x.1.toNat _ _ (fun a _ => putC_all_len x.1 a), Int.natCast_mul, show ((x.1.toNat : Nat) : Int) = x.1 by omega]
    · rw [if_neg e, flatMap_len 1 _ _ (fun a _ => by rw [putC_one _ _ _ (by omega) (by omega)]; rfl), Nat.mul_one, Int.mul_one]
theorem prodI_set {L : List Int} {a : Nat} {x y : Int} (h : L[a]? = some x) : prodI (L.set a y) * x = prodI L * y := by
  induction L generalizing a with
  | nil => simp at h
  | cons z l ih =>
    cases a with
    | zero =>
      simp at h
      subst h
      simp only [List.set_cons_zero, prodI]
      rw [Int.mul_assoc, Int.mul_comm y, Int.mul_comm (prodI l) z]
    | succ a =>
      simp only [List.set_cons_succ, prodI]
      rw [Int.mul_assoc, ih (by simpa using h), Int.mul_assoc]
end Go.Proofs.Ytojjepkmnifngaa
