/- What a walk looks up: whether it is at its end, the library's search among the rows of a level, what stands behind a number. -/
import Derived.Test.YtfocpjplokabgaaPState
import Derived.Shelf.Abstract
namespace Go.Proofs.Ytfocpjplokabgaa
open Go.RowKit Go.Shelf

set_option maxRecDepth 100000 in
set_option maxHeartbeats 1000000 in
theorem ended_any {S : Nat → Prop} {w : World} {b xb d : Nat} {lv : Nat → Int × Int} (h : KAt S w b xb d lv) (hd : d < 4) :
    Calls Try.prog 37 #[.pointer (some ⟨b, 0, none⟩)] w fun e w' => e = .returned (.bool ((lv d).1 == (lv d).2)) ∧ Below w.heap.size w w' := by
  obtain ⟨g0, g1, g2⟩ := h.cells
  obtain ⟨⟨l1, l2⟩, _⟩ := h.lev hd
  have hb := lt_of_block h.blk
  obtain ⟨A, hA⟩ : ∃ A, A = (lv d).1 := ⟨_, rfl⟩
  obtain ⟨E, hE⟩ : ∃ E, E = (lv d).2 := ⟨_, rfl⟩
  rw [← hA, ← hE]
  rw [← hA] at l1
  rw [← hE] at l2
  have hdI : (d : Int) < 4 := by omega
  clear h hA hE
  go_enter Try.func37, Try.ntmps37
  go_wp2_with fail
  go_region
  all_goals (
    go_wp2
    go_ret
    exact ⟨rfl, ((Below.refl _ _).alloc (Nat.le_refl _) _).drew⟩)

set_option maxRecDepth 100000 in
theorem isGt_any (n m : Int) (bc : Nat) (w : World) (h : w.cell? ⟨bc, 0, none⟩ = some (.int .i64 m)) :
    Calls Try.prog 47 #[.int .i64 n, .pointer (some ⟨bc, 0, none⟩)] w fun e w' => e = .returned (.bool (decide (m < n))) ∧ w' = w := by
  go_enter Try.func47, Try.ntmps47
  go_wp2
  go_ret
  exact ⟨rfl, rfl⟩
set_option maxRecDepth 100000 in
theorem isGe_any (n m : Int) (bc : Nat) (w : World) (h : w.cell? ⟨bc, 0, none⟩ = some (.int .i64 m)) :
    Calls Try.prog 42 #[.int .i64 n, .pointer (some ⟨bc, 0, none⟩)] w fun e w' => e = .returned (.bool (decide (m ≤ n))) ∧ w' = w := by
  go_enter Try.func42, Try.ntmps42
  go_wp2
  go_ret
  exact ⟨rfl, rfl⟩

/-- A function of a number that reads one cell. -/
structure IsFn (F bc : Nat) (m : Int) (P : Int → Bool) : Prop where
  enter : ∀ args w, (callFunc F args).run Try.prog w = .ok (.enter F args) w
  is : ∀ (n : Int) (w : World), w.cell? ⟨bc, 0, none⟩ = some (.int .i64 m) → Calls Try.prog F #[.int .i64 n, .pointer (some ⟨bc, 0, none⟩)] w fun e w' => e = .returned (.bool (P n)) ∧ w' = w
theorem isGt_fn (bc : Nat) (m : Int) : IsFn 47 bc m (fun n => decide (m < n)) :=
  ⟨enters_of Try.func47 (by kernel_rfl) rfl, fun n w h => isGt_any n m bc w h⟩
theorem isGe_fn (bc : Nat) (m : Int) : IsFn 42 bc m (fun n => decide (m ≤ n)) :=
  ⟨enters_of Try.func42 (by kernel_rfl) rfl, fun n w h => isGe_any n m bc w h⟩

/-- What the function that is handed to the search reads. -/
structure FirstAt (w : World) (b bc bi bw bl F : Nat) (m : Int) (A : Nat) : Prop where
  ci : w.cell? ⟨bi, 0, none⟩ = some (.func (.func F) #[] #[.pointer (some ⟨bc, 0, none⟩)])
  cw : w.cell? ⟨bw, 0, none⟩ = some (.pointer (some ⟨b, 0, none⟩))
  cl : w.cell? ⟨bl, 0, none⟩ = some (.int .i64 (A : Int))
  cc : w.cell? ⟨bc, 0, none⟩ = some (.int .i64 m)
theorem FirstAt.drewN {w : World} {b bc bi bw bl F : Nat} {m : Int} {A : Nat} (h : FirstAt w b bc bi bw bl F m A) (q : Nat) : FirstAt (w.drewN q) b bc bi bw bl F m A := ⟨h.ci, h.cw, h.cl, h.cc⟩
theorem KAt.drewN {S : Nat → Prop} {w : World} {b xb d : Nat} {lv : Nat → Int × Int} (h : KAt S w b xb d lv) (q : Nat) : KAt S (w.drewN q) b xb d lv := ⟨h.blk, h.out⟩
theorem XAt.drewN {S : Nat → Prop} {w : World} {xb : Nat} {v : Value} {o : Od} {L : List R3} (h : XAt S w xb v o L) (q : Nat) : XAt S (w.drewN q) xb v o L := h.below (below_drewN (Below.refl _ _) q)

set_option maxRecDepth 100000 in
set_option maxHeartbeats 1000000 in
theorem first1_any {S : Nat → Prop} {w : World} {b xb d bc bi bw bl F A : Nat} {m : Int} {P : Int → Bool} {lv : Nat → Int × Int} {v : Value} {o : Od} {L : List R3} (h : KAt S w b xb (d + 1) lv) (hx : XAt S w xb v o L) (hd : d < 3) (hF : IsFn F bc m P) (hfa : FirstAt w b bc bi bw bl F m A) {i : Nat} {r : R3} (hi : L[A + i]? = some r) :
    Calls Try.prog 49 #[.int .i64 (i : Int), .pointer (some ⟨bi, 0, none⟩), .pointer (some ⟨bw, 0, none⟩), .pointer (some ⟨bl, 0, none⟩)] w fun e w' => e = .returned (.bool (P (num o r d))) ∧ ∃ q, w' = w.drewN q := by
  obtain ⟨c1, c2, c3, c4⟩ := hfa
  have C : Hid (∀ q, Calls Try.prog 43 #[.pointer (some ⟨b, 0, none⟩), .int .i64 ((A : Int) + (i : Int))] (w.drewN q) fun e w' => e = .returned (.int .i64 (num o r d)) ∧ ∃ q', w' = (w.drewN q).drewN q') := Hid.mk (fun q => by
    have := number_any (h.drewN q) (hx.drewN q) hd hi
    simpa using this)
  obtain ⟨X, hX⟩ : ∃ X, X = num o r d := ⟨_, rfl⟩
  have C2 : Hid (∀ q, Calls Try.prog F #[.int .i64 X, .pointer (some ⟨bc, 0, none⟩)] (w.drewN q) fun e w' => e = .returned (.bool (P X)) ∧ w' = w.drewN q) := Hid.mk (fun q => hF.is X _ c4)
  rw [← hX] at C ⊢
  have hen := hF.enter
  have hlt : (A : Int) + (i : Int) < 9223372036854775807 := by
    have := (List.getElem?_eq_some_iff.1 hi).1
    have := hx.rows.1
    omega
  clear hX h hx hi hF
  go_enter Try.func49, Try.ntmps49
  go_wp2_with fail
  go_quiet (first | (go_at_call 43; refine Calls.quiet_of (C.out _)) | (refine Calls.quiet_of_same (C2.out _)))
  go_wp2
  go_ret
  exact ⟨rfl, nq, rfl⟩

/-- The value of the function that is handed to the search. -/
abbrev firstV (bi bw bl : Nat) : Value := .func (.func 49) #[] #[.pointer (some ⟨bi, 0, none⟩), .pointer (some ⟨bw, 0, none⟩), .pointer (some ⟨bl, 0, none⟩)]

set_option maxHeartbeats 1000000 in
set_option maxRecDepth 100000 in
theorem search_any (w : World) (n bi bw bl : Nat) (T : Nat → Bool) (hn : n ≤ 4611686018427387903) (hmono : ∀ i j, i ≤ j → j < n → T i = true → T j = true)
    (H : ∀ i q, i < n → Calls Try.prog 49 #[.int .i64 (i : Int), .pointer (some ⟨bi, 0, none⟩), .pointer (some ⟨bw, 0, none⟩), .pointer (some ⟨bl, 0, none⟩)] (w.drewN q) fun e w' => e = .returned (.bool (T i)) ∧ ∃ q', w' = (w.drewN q).drewN q') :
    Calls Try.prog 48 #[.int .i64 (n : Int), firstV bi bw bl] w fun e w' => (∃ m : Nat, e = .returned (.int .i64 (m : Int)) ∧ m ≤ n ∧ (∀ k, k < m → T k = false) ∧ (m < n → T m = true)) ∧ ∃ q, w' = w.drewN q := by
  have HH := Hid.mk H
  have HM := Hid.mk hmono
  clear H hmono
  go_enter Try.func48, Try.ntmps48
  go_wp2
  go_loopw [5, 6] (fun s5 s6 wr => ∃ i j : Nat, i ≤ j ∧ j ≤ n ∧ s5 = .int .i64 i ∧ s6 = .int .i64 j ∧ (∀ k, k < i → T k = false) ∧ (j < n → T j = true) ∧ ∃ q, wr = w.drewN q) (fun s5 s6 _ => (intOf s6).toNat - (intOf s5).toNat)
  case atStart => exact ⟨0, n, Nat.zero_le _, Nat.le_refl _, rfl, rfl, by intro k hk; omega, by intro hk; omega, 0, rfl⟩
  case round =>
    obtain ⟨i, j, hij, hjn, rfl, rfl, hlo, hhi, q, rfl⟩ := hrel
    have HLO := Hid.mk hlo
    have HHI := Hid.mk hhi
    clear hlo hhi
    by_cases hlt : i < j
    · have hltI : (i : Int) < (j : Int) := by omega
      obtain ⟨m, hm⟩ : ∃ m : Nat, ((i : Int) + (j : Int)) / 2 = (m : Int) := ⟨(i + j) / 2, by omega⟩
      have him : i ≤ m := by omega
      have hmj : m < j := by omega
      have C := Hid.mk (HH.out m q (by omega))
      cases hp : T m with
      | true =>
        rw [hp] at C
        have HHI2 : Hid (m < n → T m = true) := Hid.mk (fun _ => hp)
        clear hp
        go_wp2_with fail
        refine C.out.mono ?_
        rintro e w1 ⟨rfl, q2, rfl⟩
        go_wp2
        go_roundw
        case rel => exact ⟨i, m, by omega, by omega, rfl, rfl, HLO.out, HHI2.out, q + q2, by simp⟩
        case measure => simp [intOf]; omega
      | false =>
        rw [hp] at C
        have HLO2 : Hid (∀ k, k < m + 1 → T k = false) := Hid.mk (fun k hk => by
          cases hk2 : T k with
          | false => rfl
          | true => rw [HM.out k m (by omega) (by omega) hk2] at hp; cases hp)
        clear hp
        go_wp2_with fail
        refine C.out.mono ?_
        rintro e w1 ⟨rfl, q2, rfl⟩
        go_wp2
        go_roundw
        case rel => exact ⟨m + 1, j, by omega, by omega, by go_num, rfl, HLO2.out, HHI.out, q + q2, by simp⟩
        case measure => simp [intOf]; omega
    · have hltI : ¬ (i : Int) < (j : Int) := by omega
      have he : i = j := by omega
      subst he
      go_wp2
      go_ret
      exact ⟨⟨i, rfl, hjn, HLO.out, HHI.out⟩, q, rfl⟩
end Go.Proofs.Ytfocpjplokabgaa
