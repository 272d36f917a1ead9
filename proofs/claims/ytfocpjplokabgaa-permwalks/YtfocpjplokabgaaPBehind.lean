/- The first row of a level whose number is as asked for; what stands behind a number. -/
import Derived.Test.YtfocpjplokabgaaPFirst
namespace Go.Proofs.Ytfocpjplokabgaa
open Go.RowKit Go.Shelf

theorem three_boxes (w : World) (o1 o2 o3 : Obj) : (((w.alloc o1).alloc o2).alloc o3).heap[w.heap.size]? = some o1 ∧ (((w.alloc o1).alloc o2).alloc o3).heap[w.heap.size + 1]? = some o2 ∧ (((w.alloc o1).alloc o2).alloc o3).heap[w.heap.size + 2]? = some o3 := by
  have s1 : (w.alloc o1).heap.size = w.heap.size + 1 := by simp
  have s2 : ((w.alloc o1).alloc o2).heap.size = w.heap.size + 2 := by simp
  have b2 := (Below.refl (w.alloc o1).heap.size (w.alloc o1)).alloc (Nat.le_refl _) o2
  have b3 := (Below.refl ((w.alloc o1).alloc o2).heap.size ((w.alloc o1).alloc o2)).alloc (Nat.le_refl _) o3
  have e1 := box_at w o1
  have e2 := box_at (w.alloc o1) o2
  have e3 := box_at ((w.alloc o1).alloc o2) o3
  rw [s1] at e2 b2
  rw [s2] at e3 b3
  exact ⟨(b3.block _ (by omega)).trans ((b2.block _ (by omega)).trans e1), (b3.block _ (by omega)).trans e2, e3⟩
theorem cell_of_blk {w : World} {b : Nat} {c : Value} {cs : List Value} {t : TypeId} (h : w.heap[b]? = some (.cells (c :: cs).toArray t (0, 0))) : w.cell? ⟨b, 0, none⟩ = some c := by
  simp [World.cell?, h]

/-- The first number below n at which T is true. -/
def fstT (T : Nat → Bool) (n : Nat) : Nat := (List.range n).findIdx T
theorem fstT_eq {T : Nat → Bool} {n m : Nat} (h1 : m ≤ n) (h2 : ∀ k, k < m → T k = false) (h3 : m < n → T m = true) : m = fstT T n := by
  have hle : fstT T n ≤ n := by
    have : (List.range n).findIdx T ≤ (List.range n).length := List.findIdx_le_length
    rw [List.length_range] at this; exact this
  rcases Nat.lt_trichotomy m (fstT T n) with h | h | h
  · have := List.not_of_lt_findIdx (p := T) (xs := List.range n) h
    rw [List.getElem_range, h3 (by omega)] at this
    cases this
  · exact h
  · have hl : (List.range n).findIdx T < (List.range n).length := by rw [List.length_range]; unfold fstT at h; omega
    have := List.findIdx_getElem (w := hl)
    rw [List.getElem_range] at this
    have h4 := h2 _ h
    unfold fstT at h4
    rw [h4] at this; cases this

theorem fstT_spec (T : Nat → Bool) (n : Nat) : fstT T n ≤ n ∧ (∀ k, k < fstT T n → T k = false) ∧ (fstT T n < n → T (fstT T n) = true) := by
  have hle : fstT T n ≤ n := by
    have : (List.range n).findIdx T ≤ (List.range n).length := List.findIdx_le_length
    rw [List.length_range] at this; exact this
  refine ⟨hle, fun k hk => ?_, fun h => ?_⟩
  · have := List.not_of_lt_findIdx (p := T) (xs := List.range n) hk
    rw [List.getElem_range] at this
    simpa using this
  · have hl : (List.range n).findIdx T < (List.range n).length := by rw [List.length_range]; exact h
    have := List.findIdx_getElem (w := hl)
    rw [List.getElem_range] at this
    exact this

/-- What the search among a level's rows finds. -/
def Found (o : Od) (L : List R3) (d A E : Nat) (P : Int → Bool) (j : Nat) : Prop :=
  A ≤ j ∧ j ≤ E ∧ (∀ i r, A ≤ i → i < j → L[i]? = some r → P (num o r d) = false) ∧ (∀ r, j < E → L[j]? = some r → P (num o r d) = true)

set_option maxRecDepth 100000 in
set_option maxHeartbeats 2000000 in
theorem first_any {S : Nat → Prop} {w : World} {b xb d bc F A E : Nat} {m : Int} {P : Int → Bool} {lv : Nat → Int × Int} {v : Value} {o : Od} {L : List R3} (h : KAt S w b xb (d + 1) lv) (hx : XAt S w xb v o L) (hd : d < 3) (hF : IsFn F bc m P) (hc : w.cell? ⟨bc, 0, none⟩ = some (.int .i64 m))
    (hlv : lv (d + 1) = ((A : Int), (E : Int))) (hAE : A ≤ E) (hE : E ≤ L.length) (hmono : ∀ i j r s, A ≤ i → i ≤ j → j < E → L[i]? = some r → L[j]? = some s → P (num o r d) = true → P (num o s d) = true) :
    Calls Try.prog 41 #[.pointer (some ⟨b, 0, none⟩), .func (.func F) #[] #[.pointer (some ⟨bc, 0, none⟩)]] w fun e w' => ∃ j : Nat, e = .returned (.int .i64 (j : Int)) ∧ Found o L d A E P j ∧ Below w.heap.size w w' := by
  obtain ⟨W2, hW2⟩ : ∃ W2, W2 = (w.alloc (.cells #[.pointer (some ⟨b, 0, none⟩)] 39)).alloc (.cells #[.func (.func F) #[] #[.pointer (some ⟨bc, 0, none⟩)]] 66) := ⟨_, rfl⟩
  obtain ⟨W, hW⟩ : ∃ W, W = W2.alloc (.cells #[.int .i64 (A : Int), .int .i64 (E : Int)] 61) := ⟨_, rfl⟩
  have hB2 : Below w.heap.size w W2 := by
    rw [hW2]; exact ((Below.refl _ _).alloc (Nat.le_refl _) _).alloc (by simp) _
  have hz2 : W2.heap.size = w.heap.size + 2 := by rw [hW2]; simp
  have hcw : W2.cell? ⟨w.heap.size, 0, none⟩ = some (.pointer (some ⟨b, 0, none⟩)) := by
    rw [hW2]
    have e := ((Below.refl (w.alloc (.cells #[.pointer (some ⟨b, 0, none⟩)] 39)).heap.size (w.alloc (.cells #[.pointer (some ⟨b, 0, none⟩)] 39))).alloc (Nat.le_refl _) (.cells #[.func (.func F) #[] #[.pointer (some ⟨bc, 0, none⟩)]] 66)).block w.heap.size (by simp)
    exact cell_of_blk (e.trans (box_at w _))
  obtain ⟨g0, g1, g2⟩ := h.cells
  obtain ⟨⟨l1, l2⟩, _⟩ := h.lev (k := d + 1) (by omega)
  rw [hlv] at l1 l2
  simp only at l1 l2
  have hb := lt_of_block h.blk
  have hbc : bc < w.heap.size := World.block_lt_of_cell? _ _ hc
  have hBW : Below w.heap.size w W := by
    rw [hW]; exact hB2.alloc (by omega) _
  have hfa : FirstAt W b bc (w.heap.size + 1) w.heap.size (w.heap.size + 2) F m A := by
    refine ⟨?_, ?_, ?_, (hBW.cell (p := ⟨bc, 0, none⟩) hbc).trans hc⟩
    · rw [hW, hW2]; exact cell_of_blk (three_boxes w _ _ _).2.1
    · rw [hW, hW2]; exact cell_of_blk (three_boxes w _ _ _).1
    · rw [hW, hW2]; exact cell_of_blk (three_boxes w _ _ _).2.2
  have hxl := hx.rows.1
  obtain ⟨J, hJ⟩ : ∃ J, J = fstT (fun i => P (num o (L.getD (A + i) default) d)) (E - A) := ⟨_, rfl⟩
  have hJs := fstT_spec (fun i => P (num o (L.getD (A + i) default) d)) (E - A)
  rw [← hJ] at hJs
  obtain ⟨hJle, hlo, hhi⟩ := hJs
  have HFJ : Hid (Found o L d A E P (A + J)) := Hid.mk (by
    refine ⟨by omega, by omega, fun i r h1 h2 hr => ?_, fun r h1 hr => ?_⟩
    · have := hlo (i - A) (by omega)
      rw [show A + (i - A) = i by omega, List.getD, hr] at this
      exact this
    · have := hhi (by omega)
      rw [List.getD, hr] at this
      exact this)
  have C2 : Hid (∀ q, Calls Try.prog 48 #[.int .i64 ((E : Int) - (A : Int)), firstV (w.heap.size + 1) w.heap.size (w.heap.size + 2)] (W.drewN (1 + q)) fun e w' => e = .returned (.int .i64 (J : Int)) ∧ ∃ n, w' = W.drewN (1 + n)) := Hid.mk (fun q => by
    have key := search_any (W.drewN (1 + q)) (E - A) (w.heap.size + 1) w.heap.size (w.heap.size + 2) (fun i => P (num o (L.getD (A + i) default) d)) (by omega) (fun i j hij hj hp => by
        have e1 : L[A + i]? = some (L.getD (A + i) default) := by rw [List.getD, List.getElem?_eq_getElem (by omega)]; rfl
        have e2 : L[A + j]? = some (L.getD (A + j) default) := by rw [List.getD, List.getElem?_eq_getElem (by omega)]; rfl
        exact hmono _ _ _ _ (by omega) (by omega) (by omega) e1 e2 hp) (fun i q' hi => by
        have e1 : L[A + i]? = some (L.getD (A + i) default) := by rw [List.getD, List.getElem?_eq_getElem (by omega)]; rfl
        exact first1_any (((h.below hBW).drewN (1 + q)).drewN q') (((hx.below hBW).drewN (1 + q)).drewN q') hd hF ((hfa.drewN (1 + q)).drewN q') e1)
    have e3 : ((E - A : Nat) : Int) = (E : Int) - (A : Int) := by omega
    rw [e3] at key
    refine key.mono ?_
    rintro e w' ⟨⟨j, rfl, hj, hlo, hhi⟩, q2, hw⟩
    obtain rfl : j = J := by rw [hJ]; exact fstT_eq hj hlo hhi
    exact ⟨rfl, q + q2, by rw [hw]; simp [Nat.add_assoc]⟩)
  have HBW := Hid.mk hBW
  have hJI : (J : Int) ≤ (E : Int) - (A : Int) := by omega
  have a1 : W.cell? ⟨w.heap.size + 2, 0, none⟩ = some (.int .i64 (A : Int)) := hfa.cl
  have a2 : W.cell? ⟨w.heap.size + 2, 1, none⟩ = some (.int .i64 (E : Int)) := by
    rw [hW, hW2]
    have e := (three_boxes w (.cells #[.pointer (some ⟨b, 0, none⟩)] 39) (.cells #[.func (.func F) #[] #[.pointer (some ⟨bc, 0, none⟩)]] 66) (.cells #[.int .i64 (A : Int), .int .i64 (E : Int)] 61)).2.2
    simp only [World.cell?, e]; rfl
  have hwE : IntKind.i64.wrap ((E : Int) - (A : Int)) = (E : Int) - (A : Int) := by rw [IntKind.wrap_i64]; omega
  have hwJ : IntKind.i64.wrap ((A : Int) + (J : Int)) = (A : Int) + (J : Int) := by rw [IntKind.wrap_i64]; omega
  obtain ⟨D, hD⟩ : ∃ D, D = d + 1 := ⟨_, rfl⟩
  rw [← hD] at g2 l1 l2
  have hdI : (D : Int) < 4 := by omega
  have hd4 : D < 4 := by omega
  clear hD
  have hAI : (A : Int) ≤ (E : Int) := by omega
  have hEI : (E : Int) ≤ 5864062014805 := by omega
  have HW := Hid.mk hW
  have HW2 := Hid.mk hW2
  have HZ := Hid.mk hz2
  have k2 := (hB2.cell (p := ⟨b, 2, none⟩) hb).trans g2
  have k3 := (hB2.cell (p := ⟨b, 3 + D * 2, none⟩) hb).trans l1
  have k4 := (hB2.cell (p := ⟨b, 3 + D * 2 + 1, none⟩) hb).trans l2
  have hb2 : b < W2.heap.size := by omega
  have hcw2 : w.heap.size < W2.heap.size := by omega
  clear g0 g1 g2 l1 l2 hW2 hB2 hz2
  clear hlo hhi hJ h hx hlv hmono hfa hBW hF hW
  go_enter Try.func41, Try.ntmps41
  go_wp2_with fail
  rw [← HW2.out]
  go_region
  go_wp2_with fail
  rw [← HW.out, HZ.out]
  go_quiet ((go_at_call 48; exact C2.out _))
  have hbq := below_drewN HBW.out.drew nq
  go_wp2
  go_ret
  exact ⟨A + J, by simp, HFJ.out, hbq⟩
end Go.Proofs.Ytfocpjplokabgaa
