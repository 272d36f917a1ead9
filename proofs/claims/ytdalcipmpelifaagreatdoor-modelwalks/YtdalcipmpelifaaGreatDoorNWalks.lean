/- ModelWalks: just where facts lead. -/
import Derived.Test.YtdalcipmpelifaaGreatDoorMG47
import Derived.Test.YtdalcipmpelifaaGreatDoorMG46
import Derived.Test.YtdalcipmpelifaaGreatDoorMG28
import Derived.Test.YtdalcipmpelifaaGreatDoorMG10
import Derived.Test.YtdalcipmpelifaaGreatDoorMG15
import Derived.Test.YtdalcipmpelifaaGreatDoorMG5
import Derived.Test.YtdalcipmpelifaaGreatDoorMG4
import Derived.Test.YtdalcipmpelifaaGreatDoorMG48
import Derived.Test.YtdalcipmpelifaaGreatDoorMG9
namespace Go.Proofs.YtdalcipmpelifaaGreatDoor
open Go.RowKit Go.Shelf

theorem RowsS.at_ {w : World} {ao : Option Addr} {n cap i : Nat} {rs : List (Value × Rw)} {v : Value} {r : Rw} (h : RowsS w (.slice ao n cap) rs) (hi : rs[i]? = some (v, r)) : ∃ g off, ao = some ⟨g, off, none⟩ ∧ g < w.heap.size ∧ w.cell? ⟨g, off + i, none⟩ = some v ∧ TxtS (fun _ => True) w v r ∧ r.length ≤ 1000000 := by
  obtain ⟨g, off, e, _, hl, hc⟩ := h.src.sl.get hi
  have := hc 0 _ rfl
  rw [Nat.mul_one, Nat.add_zero] at this
  exact ⟨g, off, e, hl, this, h.rows _ (List.mem_of_getElem? hi)⟩
theorem box_pathN {w u : World} {k : Int} {wd : List UInt8} {val : Value} (hu : Below (w.alloc (.cells #[.int .i64 k, .string ⟨wd.toArray⟩, val] 25 (0, 0))).heap.size (w.alloc (.cells #[.int .i64 k, .string ⟨wd.toArray⟩, val] 25 (0, 0))) u) :
    Below w.heap.size w u ∧ u.cell? ⟨w.heap.size, 0, none⟩ = some (.int .i64 k) ∧ u.cell? ⟨w.heap.size, 1, none⟩ = some (.string ⟨wd.toArray⟩) ∧ u.cell? ⟨w.heap.size, 2, none⟩ = some val :=
  ⟨below_boxQ hu, (cells3G (box_keptQ hu)).1⟩
theorem may_highN {t : Pt} (h : mayP t = true) : high t ≤ 12 := by
  simp only [mayP, Bool.and_eq_true, decide_eq_true_eq] at h
  have key : ∀ (d : Nat) (t : Pt), shapedP d t = true → high t ≤ d := by
    intro d
    induction d with
    | zero => intro t h; simp [shapedP] at h
    | succ d ih =>
      rintro ⟨k, w, l⟩ h
      simp only [shapedP, Bool.and_eq_true, List.all_eq_true] at h
      rw [high_mk]
      have h2 : ∀ (l : List Nat) (a : Nat), a ≤ d → (∀ x ∈ l, x ≤ d) → l.foldl max a ≤ d := by
        intro l
        induction l with
        | nil => intro a h _; exact h
        | cons y l ih2 =>
          intro a h h3
          exact ih2 _ (Nat.max_le.2 ⟨h, h3 y (by simp)⟩) (fun x hx => h3 x (by simp [hx]))
      have := h2 (l.map high) 0 (Nat.zero_le _) (fun x hx => by
        obtain ⟨y, hy, rfl⟩ := List.mem_map.1 hx
        exact ih y (h.2 y hy))
      omega
  exact key 12 t h.1
theorem may_leavesN {t : Pt} (h : mayP t = true) : leaves t ≤ 24 := by
  simp only [mayP, Bool.and_eq_true, decide_eq_true_eq] at h
  exact h.2
theorem RowsM.len {w : World} {v : Value} {L : List Rw} (h : RowsM w v L) : ∃ a c, v = .slice a L.length c := by
  obtain ⟨rs, h1, rfl⟩ := h
  obtain ⟨a, c, e⟩ := h1.src.sl.slice
  exact ⟨a, c, by rw [e, List.length_map]⟩

theorem infoFN : (Tryz.prog.info? 32).map (fun i => (i.zero, i.size, i.bytes)) = some (some (.agg #[.string ⟨#[]⟩, .string ⟨#[]⟩, .string ⟨#[]⟩]), 3, 48) := by kernel_rfl
theorem callsKnown {f : FuncId} {args : Array Value} {w : World} {P : Prop} (h : Calls Tryz.prog f args w fun e w' => ∃ b : Bool, e = .returned (.bool b) ∧ (b = true ↔ P) ∧ Below w.heap.size w w') {b : Bool} (hb : b = true ↔ P) : Calls Tryz.prog f args w fun e w' => e = .returned (.bool b) ∧ Below w.heap.size w w' := by
  refine h.mono ?_
  rintro e w' ⟨c, rfl, hc, hbel⟩
  have : c = b := by
    cases c <;> cases b
    · rfl
    · exact absurd (hc.2 (hb.1 rfl)) (by decide)
    · exact absurd (hb.2 (hc.1 rfl)) (by decide)
    · rfl
  rw [this]
  exact ⟨rfl, hbel⟩
/-! Where a piece of the chain will do, and the pairs in their order. -/
noncomputable def wC (l : List Wd) (p : Pt) (i k : Nat) : Bool := @decide (0 < l.length ∧ i ≤ k ∧ willL p (cutC l i k)) (Classical.propDecidable _)
theorem wC_iff (l : List Wd) (p : Pt) (i k : Nat) : wC l p i k = true ↔ 0 < l.length ∧ i ≤ k ∧ willL p (cutC l i k) := by
  unfold wC
  exact @decide_eq_true_iff _ (Classical.propDecidable _)
abbrev vC (l : List Wd) : List Wd := (List.range (l.length + 1)).map vxC
theorem vC_len (l : List Wd) : (vC l).length = l.length + 1 := by simp
theorem vC_at (l : List Wd) {i : Nat} (h : i ≤ l.length) : (vC l).getD i [] = vxC i := by
  rw [List.getD, List.getElem?_map, List.getElem?_range (by omega)]
  rfl
theorem row_none {V : List Wd} {m : Mt} {i k : Nat} (h : ∀ j, j < k → m i j = false) : pairRow V m i k = [] := by
  unfold pairRow
  rw [List.filter_eq_nil_iff.2 (fun j hj => by rw [h j (List.mem_range.1 hj)]; decide)]
  rfl
theorem pairs_walk {l : List Wd} (h5 : l.length ≤ 5) {p : Pt} (hp : mayP p = true) : pairsL (chF l) p = pairsTo (vC l) (wC l p) (l.length + 1) := by
  by_cases h0 : l = []
  · subst h0
    rw [pairs_nochain hp]
    have : ∀ i, pairsTo (vC []) (wC [] p) i = [] := by
      intro i
      induction i with
      | zero => rfl
      | succ i ih =>
        rw [pairsTo_succ, ih, row_none (fun j _ => ?_)]
        · rfl
        · cases h : wC [] p i j with
          | false => rfl
          | true => have := ((wC_iff [] p i j).1 h).1; simp at this
    rw [this]
  · refine pairs_chain h5 h0 hp (fun i k => ?_)
    rw [wC_iff]
    have := List.length_pos_iff.2 h0
    exact ⟨fun h => h.2, fun h => ⟨this, h⟩⟩
theorem row_pre (V : List Wd) (m : Mt) (i : Nat) {k k' : Nat} (h : k ≤ k') : ∃ s, pairRow V m i k' = pairRow V m i k ++ s := by
  induction k' with
  | zero => obtain rfl : k = 0 := by omega
            exact ⟨[], by simp⟩
  | succ k' ih =>
    by_cases e : k = k' + 1
    · subst e; exact ⟨[], by simp⟩
    · obtain ⟨s, hs⟩ := ih (by omega)
      rw [pairRow_succ, hs]
      exact ⟨s ++ _, by rw [List.append_assoc]⟩
theorem to_pre (V : List Wd) (m : Mt) {i i' : Nat} (h : i ≤ i') : ∃ s, pairsTo V m i' = pairsTo V m i ++ s := by
  induction i' with
  | zero => obtain rfl : i = 0 := by omega
            exact ⟨[], by simp⟩
  | succ i' ih =>
    by_cases e : i = i' + 1
    · subst e; exact ⟨[], by simp⟩
    · obtain ⟨s, hs⟩ := ih (by omega)
      rw [pairsTo_succ, hs]
      exact ⟨s ++ _, by rw [List.append_assoc]⟩
/-- The next pair. -/
theorem pair_next {V : List Wd} {m : Mt} {i k N : Nat} (hi : i < N) (hk : k < V.length) (hm : m i k = true) : (pairsTo V m N)[(pairsTo V m i).length + (pairRow V m i k).length]? = some [V.getD i [], V.getD k []] := by
  obtain ⟨s, hs⟩ := to_pre V m (i := i + 1) (i' := N) hi
  obtain ⟨r, hr⟩ := row_pre V m i (k := k + 1) (k' := V.length) hk
  rw [hs, pairsTo_succ, hr, pairRow_succ, if_pos hm]
  simp only [List.append_assoc]
  rw [List.getElem?_append_right (by omega), Nat.add_sub_cancel_left, List.getElem?_append_right (Nat.le_refl _), Nat.sub_self]
  rfl
theorem chF_at {l : List Wd} {i : Nat} {w : Wd} (h : l[i]? = some w) : (chF l)[i]? = some (vxC i, w, vxC (i + 1)) := by
  have hi := (List.getElem?_eq_some_iff.1 h).1
  unfold chF
  rw [List.getElem?_map, List.getElem?_range hi]
  simp only [Option.map_some, List.getD, h]
  rfl
theorem chF_len (l : List Wd) : (chF l).length = l.length := by simp [chF]
theorem cut_len {l : List Wd} {i k : Nat} (hk : k ≤ l.length) : (cutC l i k).length = k - i := by
  unfold cutC; rw [List.length_take, List.length_drop]; omega
/-- 'l[i:k]'. -/
theorem txt_cutC {w : World} {ao : Option Addr} {n cap i k : Nat} {l : List Wd} (h : TxtS (fun _ => True) w (.slice ao n cap) l) (hn : n = l.length) (hcap : n ≤ cap) (hik : i ≤ k) (hk : k ≤ n) (hl0 : 0 < n) :
    ∃ aa cc, (∀ w', (Instr.slice 22 (.slice ao n cap) (some (.int .i64 (i : Int))) (some (.int .i64 (k : Int))) none).run Tryz.prog w' = .ok (.slice aa (k - i) cc) w') ∧ TxtS (fun _ => True) w (.slice aa (k - i) cc) (cutC l i k) ∧ CapS (.slice aa (k - i) cc) (cutC l i k).length := by
  have helem : Tryz.prog.elem 22 = 9 := by kernel_rfl
  have ht : Tryz.prog.underlying 22 = some (.slice (Tryz.prog.elem 22)) := by rw [helem]; exact Tryz.underlying22
  have hsz : ∀ w', (Go.sizeOf (Tryz.prog.elem 22)).run Tryz.prog w' = .ok 1 w' := fun w' => by rw [helem]; kernel_rfl
  obtain ⟨a0, c0, e0, hs⟩ := h
  injection e0 with e1 _ e3
  subst e1
  rcases hs with h0 | ⟨g, off, e1, _, hgl, hc⟩
  · rw [h0] at hn; simp at hn; omega
  subst e1
  have hcl : (cutC l i k).length = k - i := cut_len (by omega)
  refine ⟨some (if cap = i then ⟨g, off, none⟩ else ⟨g, off + i, none⟩), cap - i, fun w' => ?_, ⟨_, _, by rw [hcl], ?_⟩, _, _, by rw [hcl], by omega⟩
  · rw [run_slice_lh w' _ _ n cap ht .i64 .i64 (i : Int) (k : Int) (by omega) (by omega) (by omega), hsz]
    by_cases hc : cap = i
    · simp [sliced, Result.andThen, hc]
    · simp [sliced, Result.andThen, hc, addA]
  · by_cases hik2 : i = k
    · left
      exact List.length_eq_zero_iff.1 (by rw [hcl]; omega)
    · right
      refine ⟨g, off + i, by rw [if_neg (by omega)], trivial, hgl, fun j x hx c u hu => ?_⟩
      unfold cutC at hx
      rw [List.getElem?_take] at hx
      split at hx
      · rw [List.getElem?_drop] at hx
        have := hc (i + j) x hx c u hu
        simp only [Nat.mul_one] at this ⊢
        rw [show off + i + j + c = off + (i + j) + c by omega]
        exact this
      · cases hx
end Go.Proofs.YtdalcipmpelifaaGreatDoor
