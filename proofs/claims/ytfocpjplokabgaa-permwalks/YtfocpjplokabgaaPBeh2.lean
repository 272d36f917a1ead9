/- What stands behind a number. -/
import Derived.Test.YtfocpjplokabgaaPBehind
namespace Go.Proofs.Ytfocpjplokabgaa
open Go.RowKit Go.Shelf

@[simp, go_sem] theorem alloc_drewN (w : World) (n : Nat) (o : Obj) : (w.drewN n).alloc o = (w.alloc o).drewN n := rfl
@[simp, go_sem] theorem setCell_drewN (w : World) (n : Nat) (a : Addr) (v : Value) : (w.drewN n).setCell a v = (w.setCell a v).drewN n := rfl
theorem num_up {o : Od} {L : List R3} (hs : Strict o L) {q : List Int} (hq : q.length < 3) {i j : Nat} {r s : R3} (hi1 : lo o L q ≤ i) (hij : i ≤ j) (hj : j < hi o L q) (hr : L[i]? = some r) (hsj : L[j]? = some s) : num o r q.length ≤ num o s q.length := by
  rcases Nat.lt_or_ge i j with h | h
  · exact num_mono hq ((span hs q hr).2 ⟨hi1, by omega⟩) ((span hs q hsj).2 ⟨by omega, hj⟩) (hs.at h hr hsj)
  · have : i = j := by omega
    subst this
    rw [hr] at hsj
    rw [Option.some.inj hsj]
    omega

set_option maxRecDepth 100000 in
set_option maxHeartbeats 2000000 in
theorem behind_any {S : Nat → Prop} {w : World} {b xb : Nat} {v : Value} {o : Od} {L : List R3} {p : List Int} (h : WAt S w b xb v o L ⟨p, false⟩) :
    Calls Try.prog 38 #[.pointer (some ⟨b, 0, none⟩)] w fun e w' => e = .returned (.int .i64 (hi o L p : Int)) ∧ Below w.heap.size w w' := by
  obtain ⟨lv, hk, hl⟩ := h.k
  obtain ⟨g0, g1, g2⟩ := hk.cells
  have hs := h.x.strict
  by_cases e : p = []
  · subst e
    obtain ⟨⟨l1, l2⟩, _⟩ := hk.lev (k := 0) (by omega)
    rw [hl 0 (Nat.zero_le _)] at l2
    simp only [endOf, if_true] at l2
    rw [hi_nil hs]
    simp only [List.length_nil] at g2
    clear h hk hl
    go_enter Try.func38, Try.ntmps38
    go_wp2
    go_ret
    exact ⟨rfl, Below.refl _ _⟩
  · obtain ⟨q, x, rfl⟩ := snoc_of e
    have hq : q.length < 3 := by have := h.ok.len; simp at this; omega
    have hh : Has o L (q ++ [x]) := h.ok.at_ rfl e
    obtain ⟨r, hr, hm⟩ := hh.row hs
    have hrx : num o r q.length = x := ((mt_snoc hq).1 hm).2
    have hin := inner hs hq hh
    have hhi := hi_le o L q
    simp only [List.length_append, List.length_singleton] at hk g2 hl
    obtain ⟨⟨l1, l2⟩, _⟩ := hk.lev (k := q.length + 1) (by omega)
    have hlv : lv (q.length + 1) = ((lo o L (q ++ [x]) : Int), (hi o L q : Int)) := by
      rw [hl _ (Nat.le_refl _)]
      have e1 := atOf_here (o := o) (L := L) (p := q ++ [x])
      have e2 := endOf_snoc (o := o) (L := L) (q := q) (x := x)
      simp only [List.length_append, List.length_singleton] at e1 e2
      rw [e1, e2]
    rw [hlv] at l1
    simp only at l1
    have hh2 := hh
    unfold Has at hh2
    obtain ⟨A, hA⟩ : ∃ A, A = lo o L (q ++ [x]) := ⟨_, rfl⟩
    have CN : Hid (∀ w', Below w.heap.size w w' → Calls Try.prog 43 #[.pointer (some ⟨b, 0, none⟩), .int .i64 (A : Int)] w' fun e w'' => e = .returned (.int .i64 x) ∧ ∃ q, w'' = w'.drewN q) := Hid.mk (fun w' hb => by
      have := number_any (hk.below hb) (h.x.below hb) hq hr
      rw [hrx, ← hA] at this
      exact this)
    have CF : Hid (∀ w' bc, Below w.heap.size w w' → w'.cell? ⟨bc, 0, none⟩ = some (.int .i64 x) → Calls Try.prog 41 #[.pointer (some ⟨b, 0, none⟩), .func (.func 47) #[] #[.pointer (some ⟨bc, 0, none⟩)]] w' fun e w'' => e = .returned (.int .i64 (hi o L (q ++ [x]) : Int)) ∧ Below w'.heap.size w' w'') := Hid.mk (fun w' bc hb hbc => by
      refine (first_any (hk.below hb) (h.x.below hb) hq (isGt_fn bc x) hbc hlv (by omega) hhi (fun i j r s h1 h2 h3 h4 h5 h6 => ?_)).mono ?_
      · have := num_up hs hq (by omega) h2 h3 h4 h5
        simp only [decide_eq_true_eq] at h6 ⊢
        omega
      · rintro e w'' ⟨j, rfl, ⟨f1, f2, f3, f4⟩, hb2⟩
        have := behind_hi hs hq hh f1 f2 (fun i r a1 a2 a3 => by have := f3 i r a1 a2 a3; simp only [decide_eq_false_iff_not] at this; omega) (fun r a1 a2 => by have := f4 r a1 a2; simpa using this)
        rw [this]
        exact ⟨rfl, hb2⟩)
    have hb := lt_of_block hk.blk
    rw [← hA] at l1
    obtain ⟨D, hD⟩ : ∃ D, D = q.length + 1 := ⟨_, rfl⟩
    rw [← hD] at g2 l1
    have hdI : (D : Int) < 4 := by omega
    have hd0 : ¬ (D : Int) = 0 := by omega
    have HK : Hid (∀ w', Below w.heap.size w w' → Below w.heap.size w w' ∧ w'.cell? ⟨b, 2, none⟩ = some (.int .i64 (D : Int)) ∧ w'.cell? ⟨b, 3 + D * 2, none⟩ = some (.int .i64 (A : Int))) := Hid.mk (fun w' hb' => ⟨hb', (hb'.cell (p := ⟨b, 2, none⟩) hb).trans g2, (hb'.cell (p := ⟨b, 3 + D * 2, none⟩) hb).trans l1⟩)
    clear h hk hl l2 hD hA hin hhi hr hm hrx hlv hh hs e hq hh2
    go_enter Try.func38, Try.ntmps38
    go_wp2_with fail
    go_region_held3 (fun w' => Below w.heap.size w w' ∧ w'.cell? ⟨b, 2, none⟩ = some (.int .i64 (D : Int)) ∧ w'.cell? ⟨b, 3 + D * 2, none⟩ = some (.int .i64 (A : Int)))
      (first | (refine HK.out _ ?_; ((repeat (first | exact Below.refl _ _ | assumption | refine Below.drew ?_ | refine below_drewN ?_ _ | refine Below.alloc ?_ (by simp) _ | refine Below.setCell ?_ (by simp) _)); done)))
      (first | (go_at_call 43; refine (CN.out _ (by assumption : _ ∧ _ ∧ _).1).mono ?_; rintro e w1 ⟨rfl, q, rfl⟩))
    all_goals (
      have hbw : Below w.heap.size w ((w.alloc (.cells #[.int .i64 x] 3)).drewN (1 + q)) := by repeat (first | exact Below.refl _ _ | assumption | refine Below.drew ?_ | refine below_drewN ?_ _ | refine Below.alloc ?_ (by simp) _ | refine Below.setCell ?_ (by simp) _)
      have CF2 := Hid.mk (CF.out ((w.alloc (.cells #[.int .i64 x] 3)).drewN (1 + q)) w.heap.size hbw (cell_of_blk (box_at w _)))
      have HBW := Hid.mk hbw
      clear hbw
      go_wp2_with fail
      refine CF2.out.mono ?_
      rintro e w2 ⟨rfl, hb2⟩
      have HB2 : Hid (Below w.heap.size w w2) := Hid.mk (HBW.out.trans (hb2.mono HBW.out.size))
      clear hb2
      go_wp2
      go_ret
      exact ⟨rfl, HB2.out⟩)
end Go.Proofs.Ytfocpjplokabgaa
