/- Like, Less of the document. -/
import Derived.Test.YtiabnjjdeikefaaSLive
namespace Go.Proofs.Ytiabnjjdeikefaa
open Go.RowKit


theorem nonempty_isEmpty {l : List UInt8} (h : l ≠ []) : l.isEmpty = false := by cases l with
  | nil => exact absurd rfl h
  | cons => rfl
set_option maxHeartbeats 4000000 in
set_option maxRecDepth 100000 in
theorem like_any (t like : Tri) (w : World) : Calls Try.prog 26 #[encT t, encT like] w fun e w' => e = .returned (.bool (likeT like t)) ∧ Below w.heap.size w w' := by
  have HB : Hid (∀ a b : Obj, Below w.heap.size w ((w.alloc a).alloc b)) := Hid.mk (fun a b => ((Below.refl _ _).alloc (Nat.le_refl _) _).alloc (by simp) _)
  obtain ⟨t1, t2, t3⟩ := t
  obtain ⟨l1, l2, l3⟩ := like
  obtain ⟨ans, hans⟩ : ∃ a, a = likeT (l1, l2, l3) (t1, t2, t3) := ⟨_, rfl⟩
  rw [← hans]
  by_cases e1 : l1 = []
  · subst e1
    by_cases e2 : l2 = []
    · subst e2
      by_cases e3 : l3 = []
      · subst e3
        have HA : Hid (ans = true) := Hid.mk (by rw [hans]; simp [likeT])
        clear hans
        go_enter Try.func26, Try.ntmps26
        go_wp2
        go_ret
        exact ⟨by rw [HA.out]; rfl, HB.out _ _⟩
      · have n3 := nonempty_isEmpty e3
        by_cases q3 : l3 = t3
        · subst q3
          have HA : Hid (ans = true) := Hid.mk (by rw [hans]; simp [likeT])
          clear hans
          go_enter Try.func26, Try.ntmps26
          go_wp2
          go_ret
          exact ⟨by rw [HA.out]; rfl, HB.out _ _⟩
        · have m3 : (l3 == t3) = false := by simpa using q3
          have HA : Hid (ans = false) := Hid.mk (by rw [hans]; simp [likeT, e3, q3])
          clear hans
          go_enter Try.func26, Try.ntmps26
          go_wp2
          go_ret
          exact ⟨by rw [HA.out]; rfl, HB.out _ _⟩
    · have n2 := nonempty_isEmpty e2
      by_cases q2 : l2 = t2
      · subst q2
        by_cases e3 : l3 = []
        · subst e3
          have HA : Hid (ans = true) := Hid.mk (by rw [hans]; simp [likeT])
          clear hans
          go_enter Try.func26, Try.ntmps26
          go_wp2
          go_ret
          exact ⟨by rw [HA.out]; rfl, HB.out _ _⟩
        · have n3 := nonempty_isEmpty e3
          by_cases q3 : l3 = t3
          · subst q3
            have HA : Hid (ans = true) := Hid.mk (by rw [hans]; simp [likeT])
            clear hans
            go_enter Try.func26, Try.ntmps26
            go_wp2
            go_ret
            exact ⟨by rw [HA.out]; rfl, HB.out _ _⟩
          · have m3 : (l3 == t3) = false := by simpa using q3
            have HA : Hid (ans = false) := Hid.mk (by rw [hans]; simp [likeT, e3, q3])
            clear hans
            go_enter Try.func26, Try.ntmps26
            go_wp2
            go_ret
            exact ⟨by rw [HA.out]; rfl, HB.out _ _⟩
      · have m2 : (l2 == t2) = false := by simpa using q2
        have HA : Hid (ans = false) := Hid.mk (by rw [hans]; simp [likeT, e2, q2])
        clear hans
        go_enter Try.func26, Try.ntmps26
        go_wp2
        go_ret
        exact ⟨by rw [HA.out]; rfl, HB.out _ _⟩
  · have n1 := nonempty_isEmpty e1
    by_cases q1 : l1 = t1
    · subst q1
      by_cases e2 : l2 = []
      · subst e2
        by_cases e3 : l3 = []
        · subst e3
          have HA : Hid (ans = true) := Hid.mk (by rw [hans]; simp [likeT])
          clear hans
          go_enter Try.func26, Try.ntmps26
          go_wp2
          go_ret
          exact ⟨by rw [HA.out]; rfl, HB.out _ _⟩
        · have n3 := nonempty_isEmpty e3
          by_cases q3 : l3 = t3
          · subst q3
            have HA : Hid (ans = true) := Hid.mk (by rw [hans]; simp [likeT])
            clear hans
            go_enter Try.func26, Try.ntmps26
            go_wp2
            go_ret
            exact ⟨by rw [HA.out]; rfl, HB.out _ _⟩
          · have m3 : (l3 == t3) = false := by simpa using q3
            have HA : Hid (ans = false) := Hid.mk (by rw [hans]; simp [likeT, e3, q3])
            clear hans
            go_enter Try.func26, Try.ntmps26
            go_wp2
            go_ret
            exact ⟨by rw [HA.out]; rfl, HB.out _ _⟩
      · have n2 := nonempty_isEmpty e2
        by_cases q2 : l2 = t2
        · subst q2
          by_cases e3 : l3 = []
          · subst e3
            have HA : Hid (ans = true) := Hid.mk (by rw [hans]; simp [likeT])
            clear hans
            go_enter Try.func26, Try.ntmps26
            go_wp2
            go_ret
            exact ⟨by rw [HA.out]; rfl, HB.out _ _⟩
          · have n3 := nonempty_isEmpty e3
            by_cases q3 : l3 = t3
            · subst q3
              have HA : Hid (ans = true) := Hid.mk (by rw [hans]; simp [likeT])
              clear hans
              go_enter Try.func26, Try.ntmps26
              go_wp2
              go_ret
              exact ⟨by rw [HA.out]; rfl, HB.out _ _⟩
            · have m3 : (l3 == t3) = false := by simpa using q3
              have HA : Hid (ans = false) := Hid.mk (by rw [hans]; simp [likeT, e3, q3])
              clear hans
              go_enter Try.func26, Try.ntmps26
              go_wp2
              go_ret
              exact ⟨by rw [HA.out]; rfl, HB.out _ _⟩
        · have m2 : (l2 == t2) = false := by simpa using q2
          have HA : Hid (ans = false) := Hid.mk (by rw [hans]; simp [likeT, e2, q2])
          clear hans
          go_enter Try.func26, Try.ntmps26
          go_wp2
          go_ret
          exact ⟨by rw [HA.out]; rfl, HB.out _ _⟩
    · have m1 : (l1 == t1) = false := by simpa using q1
      have HA : Hid (ans = false) := Hid.mk (by rw [hans]; simp [likeT, e1, q1])
      clear hans
      go_enter Try.func26, Try.ntmps26
      go_wp2
      go_ret
      exact ⟨by rw [HA.out]; rfl, HB.out _ _⟩
set_option maxHeartbeats 2000000 in
set_option maxRecDepth 100000 in
theorem less_any (x y : Tri) (w : World) : Calls Try.prog 25 #[encT x, encT y] w fun e w' => e = .returned (.bool (lessT x y)) ∧ Below w.heap.size w w' := by
  have HB : Hid (∀ a b : Obj, Below w.heap.size w ((w.alloc a).alloc b)) := Hid.mk (fun a b => ((Below.refl _ _).alloc (Nat.le_refl _) _).alloc (by simp) _)
  obtain ⟨a1, a2, a3⟩ := x
  obtain ⟨b1, b2, b3⟩ := y
  unfold lessT
  simp only
  by_cases e1 : a1 = b1
  · subst e1
    rw [if_pos rfl]
    by_cases e2 : a2 = b2
    · subst e2
      rw [if_pos rfl]
      go_enter Try.func25, Try.ntmps25
      go_wp2
      go_ret
      exact ⟨by simp, HB.out _ _⟩
    · rw [if_neg e2]
      have m2 : (a2 == b2) = false := by simpa using e2
      go_enter Try.func25, Try.ntmps25
      go_wp2
      go_ret
      exact ⟨by simp, HB.out _ _⟩
  · rw [if_neg e1]
    have m1 : (a1 == b1) = false := by simpa using e1
    go_enter Try.func25, Try.ntmps25
    go_wp2
    go_ret
    exact ⟨by simp, HB.out _ _⟩
end Go.Proofs.Ytiabnjjdeikefaa
