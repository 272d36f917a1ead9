/- Next and Seek of a walk; Walk of an index. -/
import Derived.Test.YtfocpjplokabgaaPSteps
namespace Go.Proofs.Ytfocpjplokabgaa
open Go.RowKit Go.Shelf

theorem keepNext {w : World} {b D : Nat} {x u : Value} (h1 : w.cell? ⟨b, 2, none⟩ = some x) : (w.setCell ⟨b, 3 + D * 2, none⟩ u).cell? ⟨b, 2, none⟩ = some x := by
  rw [World.cell?_setCell_other _ _ _ _ (by intro e; simp only [Addr.mk.injEq] at e; omega)]
  exact h1
section
variable {S : Nat → Prop} {w : World} {b xb : Nat} {v : Value} {o : Od} {L : List R3} {s : Wk}

/-- The ranges behind a move. -/
theorem WAt.moved {w' : World} {q : List Int} {x y : Int} {bh : Bool} {j : Nat} {lv : Nat → Int × Int} (hl : ∀ k, k ≤ q.length + 1 → lv k = ((atOf o L ⟨q ++ [x], false⟩ k : Int), (endOf o L (q ++ [x]) k : Int)))
    (hj : atOf o L ⟨q ++ [y], bh⟩ (q.length + 1) = j) (hok : WkOk o L ⟨q ++ [y], bh⟩) (hx : XAt S w' xb v o L) (hk : KAt S w' b xb (q.length + 1) (setLv lv (q.length + 1) ((j : Int), (lv (q.length + 1)).2))) : WAt S w' b xb v o L ⟨q ++ [y], bh⟩ := by
  refine ⟨hx, ⟨_, by simpa using hk, fun k hk2 => ?_⟩, hok⟩
  simp only [List.length_append, List.length_singleton] at hk2
  unfold setLv
  by_cases hk3 : k = q.length + 1
  · subst hk3
    rw [if_pos rfl, hl _ (Nat.le_refl _), hj]
    have e1 := endOf_snoc (o := o) (L := L) (q := q) (x := x)
    have e2 := endOf_snoc (o := o) (L := L) (q := q) (x := y)
    simp only [List.length_append, List.length_singleton] at e1 e2
    rw [e1, e2]
  · rw [if_neg hk3, hl k hk2]
    have e5 : atOf o L ⟨q ++ [y], bh⟩ k = atOf o L ⟨q ++ [x], false⟩ k := by
      unfold atOf
      rw [if_neg (by simp; omega), if_neg (by simp)]
      simp only
      rw [List.take_append_of_le_length (by omega), List.take_append_of_le_length (by omega)]
    have e6 : endOf o L (q ++ [y]) k = endOf o L (q ++ [x]) k := by
      unfold endOf
      rw [List.take_append_of_le_length (by omega), List.take_append_of_le_length (by omega)]
    rw [e5, e6]

/-- What land says, of the ranges. -/
theorem land_wk (hs : Strict o L) {q : List Int} {x : Int} (hq : q.length < 3) (h : Has o L (q ++ [x])) {m : Int} (hm : x < m) {j : Nat} (h1 : lo o L (q ++ [x]) ≤ j) (h2 : j ≤ hi o L q)
    (h3 : ∀ i r, lo o L (q ++ [x]) ≤ i → i < j → L[i]? = some r → num o r q.length < m) (h4 : ∀ r, j < hi o L q → L[j]? = some r → m ≤ num o r q.length) :
    ∃ y bh, onTo o L (q ++ [x]) m = ⟨q ++ [y], bh⟩ ∧ atOf o L ⟨q ++ [y], bh⟩ (q.length + 1) = j ∧ WkOk o L ⟨q ++ [y], bh⟩ := by
  rcases land hs hq h hm h1 h2 h3 h4 with ⟨e1, e2⟩ | ⟨e1, y, _, e2, e3, e4⟩
  · refine ⟨x, true, e2, ?_, ⟨by simp; omega, fun h => (by cases h), fun _ => ⟨by simp, by simpa using h.up hs hq⟩⟩⟩
    have a1 := atOf_past (o := o) (L := L) (p := q ++ [x])
    rw [endOf_snoc] at a1
    simp only [List.length_append, List.length_singleton] at a1
    rw [a1, e1]
  · refine ⟨y, false, e2, ?_, ⟨by simp; omega, fun _ _ => e4, fun h => by cases h⟩⟩
    have a1 := atOf_here (o := o) (L := L) (p := q ++ [y])
    simp only [List.length_append, List.length_singleton] at a1
    rw [a1, e3]
theorem next_wk (hs : Strict o L) {q : List Int} {x : Int} (hq : q.length < 3) (h : Has o L (q ++ [x])) :
    ∃ y bh, onTo o L (q ++ [x]) (x + 1) = ⟨q ++ [y], bh⟩ ∧ atOf o L ⟨q ++ [y], bh⟩ (q.length + 1) = hi o L (q ++ [x]) ∧ WkOk o L ⟨q ++ [y], bh⟩ := by
  have hin := inner hs hq h
  have hh := h
  unfold Has at hh
  refine land_wk hs hq h (by omega) (by omega) hin.2 (fun i r h1 h2 hr => ?_) (fun r h1 hr => ?_)
  · have := ((mt_snoc hq).1 ((span hs (q ++ [x]) hr).2 ⟨h1, h2⟩)).2
    omega
  · have h2 := (span hs q hr).2 ⟨by omega, h1⟩
    obtain ⟨r0, hr0, hm0⟩ := h.row hs
    have h3 := num_up hs hq hin.1 (Nat.le_of_lt hh) h1 hr0 hr
    have h4 := ((mt_snoc hq).1 hm0).2
    by_cases h5 : num o r q.length = x
    · have := (span hs (q ++ [x]) hr).1 ((mt_snoc hq).2 ⟨h2, h5⟩)
      omega
    · omega

set_option maxRecDepth 100000 in
set_option maxHeartbeats 2000000 in
theorem next_any (h : WAt S w b xb v o L s) (hS : Low S w) :
    Calls Try.prog 21 #[.pointer (some ⟨b, 0, none⟩)] w (WEnd S w b xb v o L (wNext o L s)) := by
  obtain ⟨lv, hk, hl⟩ := h.k
  obtain ⟨g0, g1, g2⟩ := hk.cells
  have C := Hid.mk (givenW_any b w g0)
  have hlen := h.ok.len
  by_cases h0 : s.p = []
  · have e : wNext o L s = (s, 3) := by unfold wNext; rw [if_pos (.inl h0)]
    rw [e]
    rw [h0] at g2
    have H := Hid.mk h
    clear h hk hl e h0
    simp only [List.length_nil] at g2
    go_enter Try.func21, Try.ntmps21
    go_wp2_with fail
    refine C.out.mono ?_
    rintro e w1 ⟨rfl, hw⟩
    subst hw
    go_wp2
    go_ret
    exact ⟨rfl, H.out, Fr.refl _ _⟩
  · have CE := Hid.mk h.ended
    obtain ⟨p, bh⟩ := s
    cases bh with
    | true =>
      have e : wNext o L ⟨p, true⟩ = (⟨p, true⟩, 3) := by unfold wNext; rw [if_pos (.inr rfl)]
      rw [e]
      rw [decide_eq_true (.inl rfl)] at CE
      obtain ⟨D, hD⟩ : ∃ D, D = p.length := ⟨_, rfl⟩
      simp only at g2 h0
      rw [← hD] at g2
      have hD0 : ¬ (D : Int) = 0 := by
        intro h1
        exact h0 (List.length_eq_zero_iff.1 (by omega))
      have hDb : ((D : Int) == 0) = false := beq_eq_false_iff_ne.2 hD0
      have H := Hid.mk h
      have HS := Hid.mk hS
      clear h hk hl e h0 hD hS
      go_enter Try.func21, Try.ntmps21
      go_wp2_with fail
      refine C.out.mono ?_
      rintro e w1 ⟨rfl, hw⟩
      subst hw
      go_wp2_with fail
      refine CE.out.mono ?_
      rintro e w2 ⟨rfl, hb2⟩
      have HB2 := Hid.mk hb2
      clear hb2
      go_wp2
      go_ret
      exact ⟨rfl, H.out.below HB2.out, fr_below HS.out HB2.out⟩
    | false =>
      obtain ⟨q, x, rfl⟩ := snoc_of h0
      have e : wNext o L ⟨q ++ [x], false⟩ = (onTo o L (q ++ [x]) (x + 1), 0) := by unfold wNext; rw [if_neg (by simp), lastN_snoc]
      rw [e]
      rw [decide_eq_false (by simp)] at CE
      simp only [List.length_append, List.length_singleton] at *
      have hq : q.length < 3 := by omega
      have hs := h.x.strict
      have hh : Has o L (q ++ [x]) := h.ok.at_ rfl h0
      obtain ⟨y, bh, e1, e2, e3⟩ := next_wk hs hq hh
      rw [e1]
      have hb := lt_of_block hk.blk
      obtain ⟨E, hE⟩ : ∃ E, E = hi o L (q ++ [x]) := ⟨_, rfl⟩
      have CB : Hid (∀ w2, Below w.heap.size w w2 → Calls Try.prog 38 #[.pointer (some ⟨b, 0, none⟩)] w2 fun e w' => e = .returned (.int .i64 (E : Int)) ∧ Below w2.heap.size w2 w') := Hid.mk (fun w2 hb2 => by
        have := behind_any (h.below hb2)
        rw [← hE] at this
        exact this)
      rw [← hE] at e2
      have H := Hid.mk h
      have HS := Hid.mk hS
      have HK := Hid.mk hk
      have HL := Hid.mk hl
      have E2 := Hid.mk e2
      have E3 := Hid.mk e3
      obtain ⟨D, hD⟩ : ∃ D, D = q.length + 1 := ⟨_, rfl⟩
      have HD := Hid.mk hD
      rw [← hD] at g2
      have hd4 : (D : Int) < 4 := by omega
      have hd4n : D < 4 := by omega
      have hD0 : ¬ (D : Int) = 0 := by omega
      have hDb : ((D : Int) == 0) = false := beq_eq_false_iff_ne.2 hD0
      have HC : Hid (∀ w2, Below w.heap.size w w2 → w2.cell? ⟨b, 2, none⟩ = some (.int .i64 (D : Int)) ∧ w2.frozen? ⟨b, 3 + D * 2, none⟩ = false ∧ ∃ x, w2.cell? ⟨b, 3 + D * 2, none⟩ = some x) := Hid.mk (fun w2 hb2 => by
        obtain ⟨⟨l3, _⟩, f3, _⟩ := (hk.below hb2).lev (k := D) (by omega)
        exact ⟨(hb2.cell (p := ⟨b, 2, none⟩) hb).trans g2, f3, _, l3⟩)
      clear h hk hl h0 e hD e1 hlen hs hh hE e2 e3 hS hq
      go_enter Try.func21, Try.ntmps21
      go_wp2_with fail
      refine C.out.mono ?_
      rintro e w1 ⟨rfl, hw⟩
      subst hw
      go_wp2_with fail
      refine CE.out.mono ?_
      rintro e w2 ⟨rfl, hb2⟩
      obtain ⟨k2, k3, ⟨x5, k4⟩⟩ := HC.out w2 hb2
      have CB2 := Hid.mk (CB.out w2.drew hb2.drew)
      have HC2 : Hid (∀ w3, Below w2.drew.heap.size w2.drew w3 → (w3.cell? ⟨b, 2, none⟩ = some (.int .i64 (D : Int)) ∧ w3.frozen? ⟨b, 3 + D * 2, none⟩ = false ∧ ∃ x, w3.cell? ⟨b, 3 + D * 2, none⟩ = some x)) := Hid.mk (fun w3 hb3 => HC.out w3 (hb2.drew.trans (hb3.mono hb2.size)))
      have HB2 := Hid.mk hb2
      clear hb2
      go_wp2_with fail
      go_region_held3 (fun w' => w'.cell? ⟨b, 2, none⟩ = some (.int .i64 (D : Int)))
        (first | exact k2 | assumption | (exact keepNext (by assumption)))
        (first | (go_at_call 38; refine CB2.out.mono ?_; rintro e w3 ⟨rfl, hb3⟩; obtain ⟨m2, m3, ⟨x7, m4⟩⟩ := HC2.out w3 hb3))
      have HB3 : Hid (Below w1.heap.size w1 w3) := Hid.mk (HB2.out.drew.trans (hb3.mono HB2.out.size))
      clear hb3 m2 m3 m4 k2 k3 k4
      go_wp2
      go_ret
      have hk3 := HK.out.below HB3.out
      rw [← HD.out] at hk3
      have hk4 := hk3.setAt (k := D) hd4n (E : Int)
      rw [HD.out] at hk4 ⊢
      exact ⟨rfl, WAt.moved HL.out E2.out E3.out ((H.out.x.below HB3.out).setCell HK.out.out _) hk4, (fr_below HS.out HB3.out).setCell HK.out.out _⟩

/-- Seek, of the ranges. -/
theorem seek_wk (hs : Strict o L) {q : List Int} {x : Int} (hq : q.length < 3) (h : Has o L (q ++ [x])) {m : Int} {j : Nat} (hf : Found o L q.length (lo o L (q ++ [x])) (hi o L q) (fun n => decide (m ≤ n)) j) :
    ∃ y bh, (if m ≤ x then (⟨q ++ [x], false⟩ : Wk) else onTo o L (q ++ [x]) m) = ⟨q ++ [y], bh⟩ ∧ atOf o L ⟨q ++ [y], bh⟩ (q.length + 1) = j ∧ WkOk o L ⟨q ++ [y], bh⟩ := by
  obtain ⟨f1, f2, f3, f4⟩ := hf
  by_cases hm : m ≤ x
  · rw [if_pos hm]
    refine ⟨x, false, rfl, ?_, ⟨by simp; omega, fun _ _ => h, fun h => (by cases h)⟩⟩
    have a1 := atOf_here (o := o) (L := L) (p := q ++ [x])
    simp only [List.length_append, List.length_singleton] at a1
    rw [a1]
    obtain ⟨r, hr, hmt⟩ := h.row hs
    rcases Nat.lt_or_ge (lo o L (q ++ [x])) j with h1 | h1
    · have := f3 _ r (Nat.le_refl _) h1 hr
      have h2 := ((mt_snoc hq).1 hmt).2
      rw [h2] at this
      simp at this
      omega
    · omega
  · rw [if_neg hm]
    exact land_wk hs hq h (by omega) f1 f2 (fun i r a1 a2 a3 => by have := f3 i r a1 a2 a3; simp only [decide_eq_false_iff_not] at this; omega) (fun r a1 a2 => by have := f4 r a1 a2; simpa using this)

set_option maxRecDepth 100000 in
set_option maxHeartbeats 2000000 in
theorem seek_any (h : WAt S w b xb v o L s) (hS : Low S w) (n : Int) :
    Calls Try.prog 23 #[.pointer (some ⟨b, 0, none⟩), .int .i64 n] w (WEnd S w b xb v o L (wSeek o L s n)) := by
  obtain ⟨W0, hW0⟩ : ∃ W0, W0 = w.alloc (.cells #[.int .i64 n] 3) := ⟨_, rfl⟩
  have B0 : Below w.heap.size w W0 := by rw [hW0]; exact (Below.refl _ _).alloc (Nat.le_refl _) _
  have cn : W0.cell? ⟨w.heap.size, 0, none⟩ = some (.int .i64 n) := by rw [hW0]; exact cell_of_blk (box_at w _)
  have hz0 : w.heap.size < W0.heap.size := by rw [hW0]; simp
  have h1 := h.below B0
  obtain ⟨lv, hk, hl⟩ := h1.k
  obtain ⟨g0, g1, g2⟩ := hk.cells
  have C := Hid.mk (givenW_any b W0 g0)
  have hlen := h1.ok.len
  have HW0 := Hid.mk hW0
  have HS := Hid.mk hS
  have HB0 := Hid.mk B0
  have H1 := Hid.mk h1
  by_cases h0 : s.p = []
  · have e : wSeek o L s n = (s, 3) := by unfold wSeek; rw [if_pos (.inl h0)]
    rw [e]
    rw [h0] at g2
    clear h hk hl e h0 h1 hW0 B0 hS
    simp only [List.length_nil] at g2
    go_enter Try.func23, Try.ntmps23
    go_wp2_with fail
    rw [← HW0.out]
    refine C.out.mono ?_
    rintro e w1 ⟨rfl, hw⟩
    subst hw
    go_wp2
    go_ret
    exact ⟨rfl, H1.out, fr_below HS.out HB0.out⟩
  · have CE := Hid.mk h1.ended
    obtain ⟨p, bh⟩ := s
    cases bh with
    | true =>
      have e : wSeek o L ⟨p, true⟩ n = (⟨p, true⟩, 3) := by unfold wSeek; rw [if_pos (.inr rfl)]
      rw [e]
      rw [decide_eq_true (.inl rfl)] at CE
      obtain ⟨D, hD⟩ : ∃ D, D = p.length := ⟨_, rfl⟩
      simp only at g2 h0
      rw [← hD] at g2
      have hD0 : ¬ (D : Int) = 0 := by
        intro h1
        exact h0 (List.length_eq_zero_iff.1 (by omega))
      have hDb : ((D : Int) == 0) = false := beq_eq_false_iff_ne.2 hD0
      clear h hk hl e h0 h1 hD hS hW0 B0
      go_enter Try.func23, Try.ntmps23
      go_wp2_with fail
      rw [← HW0.out]
      refine C.out.mono ?_
      rintro e w1 ⟨rfl, hw⟩
      subst hw
      go_wp2_with fail
      refine CE.out.mono ?_
      rintro e w2 ⟨rfl, hb2⟩
      have HB2 := Hid.mk hb2
      clear hb2
      go_wp2
      go_ret
      exact ⟨rfl, H1.out.below HB2.out, fr_below HS.out (HB0.out.trans (HB2.out.mono HB0.out.size))⟩
    | false =>
      obtain ⟨q, x, rfl⟩ := snoc_of h0
      have e : wSeek o L ⟨q ++ [x], false⟩ n = (if n ≤ x then (⟨q ++ [x], false⟩ : Wk) else onTo o L (q ++ [x]) n, 0) := by
        unfold wSeek; rw [if_neg (by simp), lastN_snoc]; split <;> rfl
      rw [e]
      rw [decide_eq_false (by simp)] at CE
      simp only [List.length_append, List.length_singleton] at *
      have hq : q.length < 3 := by omega
      have hs := h.x.strict
      have hh : Has o L (q ++ [x]) := h.ok.at_ rfl h0
      have hin := inner hs hq hh
      have hhi := hi_le o L q
      have hh2 := hh
      unfold Has at hh2
      have hlv : lv (q.length + 1) = ((lo o L (q ++ [x]) : Int), (hi o L q : Int)) := by
        rw [hl _ (Nat.le_refl _)]
        have e1 := atOf_here (o := o) (L := L) (p := q ++ [x])
        have e2 := endOf_snoc (o := o) (L := L) (q := q) (x := x)
        simp only [List.length_append, List.length_singleton] at e1 e2
        rw [e1, e2]
      have hb := lt_of_block hk.blk
      have CF : Hid (∀ w', Below W0.heap.size W0 w' → Calls Try.prog 41 #[.pointer (some ⟨b, 0, none⟩), .func (.func 42) #[] #[.pointer (some ⟨w.heap.size, 0, none⟩)]] w' fun e w'' => ∃ j : Nat, e = .returned (.int .i64 (j : Int)) ∧ Found o L q.length (lo o L (q ++ [x])) (hi o L q) (fun k => decide (n ≤ k)) j ∧ Below w'.heap.size w' w'') := Hid.mk (fun w' hb' => by
        refine first_any (hk.below hb') (h1.x.below hb') hq (isGe_fn w.heap.size n) ((hb'.cell (p := ⟨w.heap.size, 0, none⟩) hz0).trans cn) hlv (by omega) hhi (fun i j r s h1 h2 h3 h4 h5 h6 => ?_)
        have := num_up hs hq (by omega) h2 h3 h4 h5
        simp only [decide_eq_true_eq] at h6 ⊢
        omega)
      have HSW : Hid (∀ j, Found o L q.length (lo o L (q ++ [x])) (hi o L q) (fun k => decide (n ≤ k)) j → ∃ y bh, (if n ≤ x then (⟨q ++ [x], false⟩ : Wk) else onTo o L (q ++ [x]) n) = ⟨q ++ [y], bh⟩ ∧ atOf o L ⟨q ++ [y], bh⟩ (q.length + 1) = j ∧ WkOk o L ⟨q ++ [y], bh⟩) := Hid.mk (fun j hf => seek_wk hs hq hh hf)
      obtain ⟨T, hT⟩ : ∃ T, T = (if n ≤ x then (⟨q ++ [x], false⟩ : Wk) else onTo o L (q ++ [x]) n) := ⟨_, rfl⟩
      rw [← hT] at HSW ⊢
      have HK := Hid.mk hk
      have HL := Hid.mk hl
      obtain ⟨D, hD⟩ : ∃ D, D = q.length + 1 := ⟨_, rfl⟩
      have HD := Hid.mk hD
      rw [← hD] at g2
      have hd4 : (D : Int) < 4 := by omega
      have hd4n : D < 4 := by omega
      have hD0 : ¬ (D : Int) = 0 := by omega
      have hDb : ((D : Int) == 0) = false := beq_eq_false_iff_ne.2 hD0
      have HC : Hid (∀ w2, Below W0.heap.size W0 w2 → w2.cell? ⟨b, 2, none⟩ = some (.int .i64 (D : Int)) ∧ w2.frozen? ⟨b, 3 + D * 2, none⟩ = false ∧ ∃ x, w2.cell? ⟨b, 3 + D * 2, none⟩ = some x) := Hid.mk (fun w2 hb2 => by
        obtain ⟨⟨l3, _⟩, f3, _⟩ := (hk.below hb2).lev (k := D) (by omega)
        exact ⟨(hb2.cell (p := ⟨b, 2, none⟩) hb).trans g2, f3, _, l3⟩)
      clear h hk hl h0 e hD h1 hlen hs hh hS hq hin hhi hh2 hlv hT hW0 B0
      go_enter Try.func23, Try.ntmps23
      go_wp2_with fail
      rw [← HW0.out]
      refine C.out.mono ?_
      rintro e w1 ⟨rfl, hw⟩
      subst hw
      go_wp2_with fail
      refine CE.out.mono ?_
      rintro e w2 ⟨rfl, hb2⟩
      obtain ⟨k2, k3, ⟨x5, k4⟩⟩ := HC.out w2 hb2
      have CB2 := Hid.mk (CF.out w2.drew hb2.drew)
      have HC2 : Hid (∀ w3, Below w2.drew.heap.size w2.drew w3 → (w3.cell? ⟨b, 2, none⟩ = some (.int .i64 (D : Int)) ∧ w3.frozen? ⟨b, 3 + D * 2, none⟩ = false ∧ ∃ x, w3.cell? ⟨b, 3 + D * 2, none⟩ = some x)) := Hid.mk (fun w3 hb3 => HC.out w3 (hb2.drew.trans (hb3.mono hb2.size)))
      have HB2 := Hid.mk hb2
      clear hb2
      go_wp2_with fail
      go_region_held3 (fun w' => w'.cell? ⟨b, 2, none⟩ = some (.int .i64 (D : Int)))
        (first | exact k2 | assumption | (exact keepNext (by assumption)))
        (first | (go_at_call 41; refine CB2.out.mono ?_; rintro e w3 ⟨j, rfl, hfj, hb3⟩; obtain ⟨m2, m3, ⟨x7, m4⟩⟩ := HC2.out w3 hb3; have HFJ := Hid.mk hfj; clear hfj))
      have HB3 : Hid (Below w1.heap.size w1 w3) := Hid.mk (HB2.out.drew.trans (hb3.mono HB2.out.size))
      clear hb3 m2 m3 m4 k2 k3 k4
      go_wp2
      go_ret
      obtain ⟨y, bh, e1, e2, e3⟩ := HSW.out j HFJ.out
      rw [e1]
      have hk3 := HK.out.below HB3.out
      rw [← HD.out] at hk3
      have hk4 := hk3.setAt (k := D) hd4n (j : Int)
      rw [HD.out] at hk4 ⊢
      exact ⟨rfl, WAt.moved HL.out e2 e3 ((H1.out.x.below HB3.out).setCell HK.out.out _) hk4, (fr_below HS.out (HB0.out.trans (HB3.out.mono HB0.out.size))).setCell HK.out.out _⟩

theorem depthS_any (h : WAt S w b xb v o L s) : Calls Try.prog 27 #[.pointer (some ⟨b, 0, none⟩)] w fun e w' => e = .returned (.int .i64 (s.p.length : Int)) ∧ w' = w := by
  obtain ⟨lv, hk, hl⟩ := h.k
  exact depth_any hk

set_option maxRecDepth 100000 in
set_option maxHeartbeats 1000000 in
theorem walk_any (h : XAt S w xb v o L) (hS : Low S w) :
    Calls Try.prog 16 #[.pointer (some ⟨xb, 0, none⟩)] w fun e w' => e = .returned (.pointer (some ⟨w.heap.size, 0, none⟩)) ∧ WAt S w' w.heap.size xb v o L ⟨[], false⟩ ∧ Below w.heap.size w w' ∧ w'.heap.size = w.heap.size + 1 := by
  obtain ⟨_, _, ao, cap, rfl, _⟩ := h.rows
  obtain ⟨g0, g1, g2, g3, g4⟩ := five_cells h.blk
  have C := Hid.mk (given_any xb w g0)
  have hxb := lt_of_block h.blk
  have H := Hid.mk h
  have HS := Hid.mk hS
  clear h hS
  go_enter Try.func16, Try.ntmps16
  go_wp2_with fail
  refine C.out.mono ?_
  rintro e w1 ⟨rfl, hw⟩
  subst hw
  go_wp2_with fail
  go_region
  go_wp2
  go_ret
  have hb : Below w1.heap.size w1 (w1.alloc (.cells #[.pointer (some ⟨w1.heap.size, 0, none⟩), .pointer (some ⟨xb, 0, none⟩), .int .i64 0, .int .i64 0, .int .i64 (L.length : Int), .int .i64 0, .int .i64 0, .int .i64 0, .int .i64 0, .int .i64 0, .int .i64 0] 64)).drew := ((Below.refl _ _).alloc (Nat.le_refl _) _).drew
  refine ⟨rfl, ⟨H.out.below hb, ⟨fun k => if k = 0 then (0, (L.length : Int)) else (0, 0), ⟨?_, fun hk => absurd (HS.out _ hk) (by omega)⟩, fun k hk => ?_⟩, wkOk_root o L⟩, hb, by simp⟩
  · exact box_at w1 _
  · obtain rfl : k = 0 := by simpa using hk
    simp [atOf, endOf, lo_nil]
end
end Go.Proofs.Ytfocpjplokabgaa
