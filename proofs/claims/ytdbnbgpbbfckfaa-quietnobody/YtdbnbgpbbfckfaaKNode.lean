/- A node in memory, and what its methods do to it. -/
import Derived.Test.YtdbnbgpbbfckfaaKMath
import Derived.Test.YtdbnbgpbbfckfaaProg
import Derived.WalkKit
import Derived.LaidEqlPtr
import Derived.BigQuiet
import Derived.Deep.QuietTactic
namespace Go.Proofs.Ytdbnbgpbbfckfaa
open Go.RowKit

theorem Hid.mk {p : Prop} (h : p) : Hid p := h
/-- One block alone is written. -/
structure Only (b : Nat) (w w' : World) : Prop where
  os : w'.os = w.os
  tape : w'.tape = w.tape
  output : w'.output = w.output
  size : w'.heap.size = w.heap.size
  block : ∀ k, k ≠ b → w'.heap[k]? = w.heap[k]?
theorem Only.refl (b : Nat) (w : World) : Only b w w := ⟨rfl, rfl, rfl, rfl, fun _ _ => rfl⟩
theorem Only.trans {b : Nat} {w1 w2 w3 : World} (h : Only b w1 w2) (k : Only b w2 w3) : Only b w1 w3 :=
  ⟨k.os.trans h.os, k.tape.trans h.tape, k.output.trans h.output, k.size.trans h.size, fun i hi => (k.block i hi).trans (h.block i hi)⟩
theorem Only.set (b i : Nat) (v : Value) (w : World) : Only b w (w.setCell ⟨b, i, none⟩ v) :=
  ⟨rfl, rfl, rfl, by simp, fun k hk => Below.heap_setCell w ⟨b, i, none⟩ v k hk⟩
theorem Only.drewN (b n : Nat) (w : World) : Only b w (w.drewN n) := ⟨rfl, rfl, rfl, rfl, fun _ _ => rfl⟩
theorem Only.below {b B : Nat} {w w' : World} (h : Only b w w') (hb : B ≤ b) : Below B w w' := ⟨h.os, h.tape, h.output, by rw [h.size]; exact Nat.le_refl _, fun k hk => h.block k (by omega)⟩

/-- The block b is a node that New gave. -/
abbrev NAt (w : World) (b : Nat) (nodes : Nat) (n : Nd) (root : Bool) : Prop :=
  w.heap[b]? = some (.cells #[.pointer (some ⟨b, 0, none⟩), .int .i64 (n.owes : Int), .int .i64 (nodes : Int), .int .i64 n.par, .bool root, .bool n.works] 39 (0, 0))
theorem six_cells {w : World} {b : Nat} {c0 c1 c2 c3 c4 c5 : Value} {t : TypeId} (h : w.heap[b]? = some (.cells #[c0, c1, c2, c3, c4, c5] t (0, 0))) :
    (w.cell? ⟨b, 0, none⟩ = some c0 ∧ w.cell? ⟨b, 1, none⟩ = some c1 ∧ w.cell? ⟨b, 2, none⟩ = some c2 ∧ w.cell? ⟨b, 3, none⟩ = some c3 ∧ w.cell? ⟨b, 4, none⟩ = some c4 ∧ w.cell? ⟨b, 5, none⟩ = some c5) ∧
    (w.frozen? ⟨b, 1, none⟩ = false ∧ w.frozen? ⟨b, 3, none⟩ = false ∧ w.frozen? ⟨b, 5, none⟩ = false) := by
  simp [World.cell?, World.frozen?, h]
theorem six_set1 {w : World} {b : Nat} {c0 c1 c2 c3 c4 c5 v : Value} {t : TypeId} (h : w.heap[b]? = some (.cells #[c0, c1, c2, c3, c4, c5] t (0, 0))) : (w.setCell ⟨b, 1, none⟩ v).heap[b]? = some (.cells #[c0, v, c2, c3, c4, c5] t (0, 0)) := by
  simp [World.setCell, Array.getElem?_modify, h]
theorem six_set3 {w : World} {b : Nat} {c0 c1 c2 c3 c4 c5 v : Value} {t : TypeId} (h : w.heap[b]? = some (.cells #[c0, c1, c2, c3, c4, c5] t (0, 0))) : (w.setCell ⟨b, 3, none⟩ v).heap[b]? = some (.cells #[c0, c1, c2, v, c4, c5] t (0, 0)) := by
  simp [World.setCell, Array.getElem?_modify, h]
theorem six_set5 {w : World} {b : Nat} {c0 c1 c2 c3 c4 c5 v : Value} {t : TypeId} (h : w.heap[b]? = some (.cells #[c0, c1, c2, c3, c4, c5] t (0, 0))) : (w.setCell ⟨b, 5, none⟩ v).heap[b]? = some (.cells #[c0, c1, c2, c3, c4, v] t (0, 0)) := by
  simp [World.setCell, Array.getElem?_modify, h]

theorem infoN : (Try.prog.info? 39).map (fun i => i.size) = some 6 := by kernel_rfl
theorem eql_self (a : Addr) (w : World) : (binOp .eql 32 (.pointer (some a)) (.pointer (some a))).run Try.prog w = .ok (.bool true) w := by
  obtain ⟨j, hj, _⟩ := Option.map_eq_some_iff.1 infoN
  exact run_eql_ptr_same w a Try.underlying32 hj
theorem eql_nil_left (a : Addr) (w : World) : (binOp .eql 32 (.pointer none) (.pointer (some a))).run Try.prog w = .ok (.bool false) w := by
  have h : ∀ d : Nat, (Op.equalIn (d + 1) 32 (.pointer none) (.pointer (some a))).run Try.prog w = .ok false w := fun d => by
    simp [Op.equalIn, run_underlying Try.underlying32]
  simp only [binOp]
  simp [Op.equal, Op.maxDepth, h 9999]

set_option maxRecDepth 100000 in
theorem given_any (b : Nat) (w : World) (h : w.cell? ⟨b, 0, none⟩ = some (.pointer (some ⟨b, 0, none⟩))) :
    Calls Try.prog 22 #[.pointer (some ⟨b, 0, none⟩)] w fun e w' => e = .returned (.bool true) ∧ w' = w := by
  have he := eql_self ⟨b, 0, none⟩ w
  go_enter Try.func22, Try.ntmps22
  go_wp2
  go_ret
  exact ⟨rfl, rfl⟩
set_option maxRecDepth 100000 in
theorem given_nil (w : World) :
    Calls Try.prog 22 #[.pointer none] w fun e w' => e = .returned (.bool false) ∧ w' = w := by
  go_enter Try.func22, Try.ntmps22
  go_wp2
  go_ret
  exact ⟨rfl, rfl⟩
set_option maxRecDepth 100000 in
theorem given_not (b : Nat) (w : World) (h : w.cell? ⟨b, 0, none⟩ = some (.pointer none)) :
    Calls Try.prog 22 #[.pointer (some ⟨b, 0, none⟩)] w fun e w' => e = .returned (.bool false) ∧ w' = w := by
  have he := eql_nil_left ⟨b, 0, none⟩ w
  go_enter Try.func22, Try.ntmps22
  go_wp2
  go_ret
  exact ⟨rfl, rfl⟩

set_option maxRecDepth 100000 in
theorem isNode_any (i n : Nat) (w : World) (h : i < n) :
    Calls Try.prog 23 #[.int .i64 (i : Int), .int .i64 (n : Int)] w fun e w' => e = .returned (.bool true) ∧ w' = w := by
  have h1 : (0 : Int) ≤ (i : Int) := by omega
  have h2 : (i : Int) < (n : Int) := by omega
  go_enter Try.func23, Try.ntmps23
  go_wp2
  go_ret
  exact ⟨rfl, rfl⟩
set_option maxRecDepth 100000 in
theorem owed_any (b : Nat) (z : Int) (w : World) (h : w.cell? ⟨b, 1, none⟩ = some (.int .i64 z)) :
    Calls Try.prog 24 #[.pointer (some ⟨b, 1, none⟩)] w fun e w' => e = .returned (.int .i64 z) ∧ w' = w := by
  go_enter Try.func24, Try.ntmps24
  go_wp2
  go_ret
  exact ⟨rfl, rfl⟩
set_option maxRecDepth 100000 in
theorem more_any (b z : Nat) (w : World) (h : w.cell? ⟨b, 1, none⟩ = some (.int .i64 (z : Int))) (hf : w.frozen? ⟨b, 1, none⟩ = false) (hz : z < 1073741824) :
    Calls Try.prog 25 #[.pointer (some ⟨b, 1, none⟩), .int .i64 1] w fun e w' => e = .returned (.bool true) ∧ w' = w.setCell ⟨b, 1, none⟩ (.int .i64 ((z + 1 : Nat) : Int)) := by
  have h1 : ¬ (1073741824 : Int) - (z : Int) < 1 := by omega
  go_enter Try.func25, Try.ntmps25
  go_wp2
  go_ret
  exact ⟨rfl, by simp⟩
set_option maxRecDepth 100000 in
theorem less_any (b z : Nat) (w : World) (h : w.cell? ⟨b, 1, none⟩ = some (.int .i64 ((z + 1 : Nat) : Int))) (hf : w.frozen? ⟨b, 1, none⟩ = false) (hz : z < 1073741824) :
    Calls Try.prog 26 #[.pointer (some ⟨b, 1, none⟩)] w fun e w' => e = .returned (.bool true) ∧ w' = w.setCell ⟨b, 1, none⟩ (.int .i64 (z : Int)) := by
  obtain ⟨y, hy⟩ : ∃ y : Int, y = ((z + 1 : Nat) : Int) := ⟨_, rfl⟩
  rw [← hy] at h
  have h1 : ¬ y = 0 := by omega
  have h2 : (y == 0) = false := beq_eq_false_iff_ne.2 h1
  have h3 : 1 ≤ y := by omega
  have h4 : y ≤ 1073741824 := by omega
  have HE : Hid (y - 1 = (z : Int)) := Hid.mk (by omega)
  clear hy
  go_enter Try.func26, Try.ntmps26
  go_wp2
  go_ret
  exact ⟨rfl, by rw [← HE.out]⟩

section
variable {w : World} {b nodes : Nat} {n : Nd} {root : Bool}
set_option maxRecDepth 100000 in
theorem works_any (h : NAt w b nodes n root) :
    Calls Try.prog 20 #[.pointer (some ⟨b, 0, none⟩)] w fun e w' => e = .returned (.bool n.works) ∧ w' = w := by
  obtain ⟨⟨g0, g1, g2, g3, g4, g5⟩, _⟩ := six_cells h
  have C := Hid.mk (given_any b w g0)
  obtain ⟨x, hx⟩ : ∃ x, x = n.works := ⟨_, rfl⟩
  rw [← hx] at g5 ⊢
  clear h hx
  go_enter Try.func20, Try.ntmps20
  go_wp2_with fail
  refine C.out.mono ?_
  rintro e w1 ⟨rfl, hw⟩
  rw [hw]
  clear hw
  go_wp2
  go_ret
  exact ⟨rfl, rfl⟩
set_option maxRecDepth 100000 in
theorem done_any (h : NAt w b nodes n root) :
    Calls Try.prog 12 #[.pointer (some ⟨b, 0, none⟩)] w fun e w' => e = .returned (.bool (root && !n.works)) ∧ w' = w := by
  obtain ⟨⟨g0, g1, g2, g3, g4, g5⟩, _⟩ := six_cells h
  have C := Hid.mk (given_any b w g0)
  obtain ⟨x, hx⟩ : ∃ x, x = n.works := ⟨_, rfl⟩
  rw [← hx] at g5 ⊢
  clear h hx
  cases root <;> cases x
  all_goals (
    go_enter Try.func12, Try.ntmps12
    go_wp2_with fail
    refine C.out.mono ?_
    rintro e w1 ⟨rfl, hw⟩
    rw [hw]
    clear hw
    go_wp2
    go_ret
    exact ⟨rfl, rfl⟩)
set_option maxRecDepth 100000 in
theorem owes_any (h : NAt w b nodes n root) :
    Calls Try.prog 19 #[.pointer (some ⟨b, 0, none⟩)] w fun e w' => e = .returned (.int .i64 (n.owes : Int)) ∧ w' = w := by
  obtain ⟨⟨g0, g1, g2, g3, g4, g5⟩, _⟩ := six_cells h
  have C := Hid.mk (given_any b w g0)
  have C2 := Hid.mk (owed_any b _ w g1)
  clear h
  go_enter Try.func19, Try.ntmps19
  go_wp2_with fail
  refine C.out.mono ?_
  rintro e w1 ⟨rfl, hw⟩
  rw [hw]
  clear hw
  go_wp2_with fail
  refine C2.out.mono ?_
  rintro e w1 ⟨rfl, hw⟩
  rw [hw]
  clear hw
  go_wp2
  go_ret
  exact ⟨rfl, rfl⟩
set_option maxRecDepth 100000 in
theorem send_any (h : NAt w b nodes n root) (hw : n.works = true) (ho : n.owes < 1073741824) :
    Calls Try.prog 17 #[.pointer (some ⟨b, 0, none⟩), .int .i64 1] w fun e w' => e = .returned (.int .i64 0) ∧ NAt w' b nodes ⟨n.owes + 1, n.works, n.par⟩ root ∧ Only b w w' := by
  have HS := Hid.mk (six_set1 (v := .int .i64 ((n.owes + 1 : Nat) : Int)) h)
  obtain ⟨⟨g0, g1, g2, g3, g4, g5⟩, f1, f3, f5⟩ := six_cells h
  have C := Hid.mk (given_any b w g0)
  have C2 := Hid.mk (more_any b _ w g1 f1 ho)
  rw [hw] at g5
  clear h hw
  go_enter Try.func17, Try.ntmps17
  go_wp2_with fail
  refine C.out.mono ?_
  rintro e w1 ⟨rfl, hw⟩
  rw [hw]
  clear hw
  go_wp2_with fail
  refine C2.out.mono ?_
  rintro e w1 ⟨rfl, hw⟩
  rw [hw]
  clear hw
  go_wp2
  go_ret
  exact ⟨rfl, HS.out, Only.set _ _ _ _⟩
set_option maxRecDepth 100000 in
theorem told_any (h : NAt w b nodes n root) {z : Nat} (ho : n.owes = z + 1) (hz : z < 1073741824) :
    Calls Try.prog 18 #[.pointer (some ⟨b, 0, none⟩)] w fun e w' => e = .returned (.int .i64 0) ∧ NAt w' b nodes ⟨z, n.works, n.par⟩ root ∧ Only b w w' := by
  have HS := Hid.mk (six_set1 (v := .int .i64 (z : Int)) h)
  obtain ⟨⟨g0, g1, g2, g3, g4, g5⟩, f1, f3, f5⟩ := six_cells h
  have C := Hid.mk (given_any b w g0)
  rw [ho] at g1
  have C2 := Hid.mk (less_any b z w g1 f1 hz)
  clear h ho
  go_enter Try.func18, Try.ntmps18
  go_wp2_with fail
  refine C.out.mono ?_
  rintro e w1 ⟨rfl, hw⟩
  rw [hw]
  clear hw
  go_wp2_with fail
  refine C2.out.mono ?_
  rintro e w1 ⟨rfl, hw⟩
  rw [hw]
  clear hw
  go_wp2
  go_ret
  exact ⟨rfl, HS.out, Only.set _ _ _ _⟩
set_option maxRecDepth 100000 in
/-- Rest of a node that works. -/
theorem rest_any (h : NAt w b nodes n root) (hw : n.works = true) (ho : n.owes < 1073741824) :
    Calls Try.prog 16 #[.pointer (some ⟨b, 0, none⟩)] w fun e w' =>
      e = .returned (.tuple #[.int .i64 (if 0 < n.owes then -1 else n.par), .int .i64 0]) ∧ NAt w' b nodes (if 0 < n.owes then n else restN n) root ∧ Only b w w' := by
  have HN := Hid.mk h
  have HS := Hid.mk (six_set5 (v := .bool false) h)
  obtain ⟨⟨g0, g1, g2, g3, g4, g5⟩, f1, f3, f5⟩ := six_cells h
  have C := Hid.mk (given_any b w g0)
  have C2 := Hid.mk (owed_any b _ w g1)
  rw [hw] at g5
  clear h hw
  by_cases hp : 0 < n.owes
  · rw [if_pos hp, if_pos hp]
    have hpI : (0 : Int) < (n.owes : Int) := by omega
    go_enter Try.func16, Try.ntmps16
    go_wp2_with fail
    refine C.out.mono ?_
    rintro e w1 ⟨rfl, hw⟩
    rw [hw]
    clear hw
    go_wp2_with fail
    refine C2.out.mono ?_
    rintro e w1 ⟨rfl, hw⟩
    rw [hw]
    clear hw
    go_wp2
    go_ret2
    exact ⟨rfl, HN.out, Only.refl _ _⟩
  · rw [if_neg hp, if_neg hp]
    have hpI : ¬ (0 : Int) < (n.owes : Int) := by omega
    go_enter Try.func16, Try.ntmps16
    go_wp2_with fail
    refine C.out.mono ?_
    rintro e w1 ⟨rfl, hw⟩
    rw [hw]
    clear hw
    go_wp2_with fail
    refine C2.out.mono ?_
    rintro e w1 ⟨rfl, hw⟩
    rw [hw]
    clear hw
    go_wp2
    go_ret2
    exact ⟨rfl, HS.out, Only.set _ _ _ _⟩
set_option maxRecDepth 100000 in
/-- Take at a node that works. -/
theorem takeB_any (h : NAt w b nodes n root) {m : Nat} (hm : m < nodes) (hw : n.works = true) :
    Calls Try.prog 15 #[.pointer (some ⟨b, 0, none⟩), .int .i64 (m : Int)] w fun e w' =>
      e = .returned (.tuple #[.int .i64 (m : Int), .int .i64 0]) ∧ w' = w := by
  have CD := Hid.mk (done_any h)
  obtain ⟨⟨g0, g1, g2, g3, g4, g5⟩, f1, f3, f5⟩ := six_cells h
  have C := Hid.mk (given_any b w g0)
  have C2 := Hid.mk (isNode_any m nodes w hm)
  rw [hw] at g5 CD
  clear h hw
  go_enter Try.func15, Try.ntmps15
  go_wp2_with fail
  refine C.out.mono ?_
  rintro e w1 ⟨rfl, hw⟩
  rw [hw]
  clear hw
  go_wp2_with fail
  refine C2.out.mono ?_
  rintro e w1 ⟨rfl, hw⟩
  rw [hw]
  clear hw
  go_wp2_with fail
  refine CD.out.mono ?_
  rintro e w1 ⟨he, hw⟩
  rw [hw]
  clear hw
  simp only [Bool.not_true, Bool.and_false] at he
  subst he
  go_wp2
  go_ret2
  exact ⟨rfl, rfl⟩
set_option maxRecDepth 100000 in
/-- Take at a node that does not work, and is no root. -/
theorem takeW_any (h : NAt w b nodes n false) {m : Nat} (hm : m < nodes) (hw : n.works = false) :
    Calls Try.prog 15 #[.pointer (some ⟨b, 0, none⟩), .int .i64 (m : Int)] w fun e w' =>
      e = .returned (.tuple #[.int .i64 (-1), .int .i64 0]) ∧ NAt w' b nodes ⟨n.owes, true, m⟩ false ∧ Only b w w' := by
  have CD := Hid.mk (done_any h)
  have HS := Hid.mk (six_set3 (v := .int .i64 (m : Int)) (six_set5 (v := .bool true) h))
  obtain ⟨⟨g0, g1, g2, g3, g4, g5⟩, f1, f3, f5⟩ := six_cells h
  have C := Hid.mk (given_any b w g0)
  have C2 := Hid.mk (isNode_any m nodes w hm)
  rw [hw] at g5 CD
  clear h hw
  go_enter Try.func15, Try.ntmps15
  go_wp2_with fail
  refine C.out.mono ?_
  rintro e w1 ⟨rfl, hw⟩
  rw [hw]
  clear hw
  go_wp2_with fail
  refine C2.out.mono ?_
  rintro e w1 ⟨rfl, hw⟩
  rw [hw]
  clear hw
  go_wp2_with fail
  refine CD.out.mono ?_
  rintro e w1 ⟨he, hw⟩
  rw [hw]
  clear hw
  simp only [Bool.false_and] at he
  subst he
  go_wp2
  go_ret2
  exact ⟨rfl, HS.out, (Only.set _ _ _ _).trans (Only.set _ _ _ _)⟩
end
/-- A node as New makes it. -/
abbrev nZero (b nodes : Nat) (root : Bool) : Obj := .cells #[.pointer (some ⟨b, 0, none⟩), .int .i64 0, .int .i64 (nodes : Int), .int .i64 (-1), .bool root, .bool root] 39
set_option maxRecDepth 100000 in
theorem new_any (i nodes : Nat) (root : Bool) (w : World) (hi : i < nodes) (hn : nodes ≤ 65) :
    Calls Try.prog 21 #[.int .i64 (i : Int), .int .i64 (nodes : Int), .bool root] w fun e w' =>
      e = .returned (.tuple #[.pointer (some ⟨w.heap.size, 0, none⟩), .int .i64 0]) ∧ w'.heap[w.heap.size]? = some (nZero w.heap.size nodes root) ∧ w'.heap.size = w.heap.size + 1 ∧ Below w.heap.size w w' := by
  have C2 := Hid.mk (isNode_any i nodes w hi)
  have h1 : ¬ (nodes : Int) < 1 := by omega
  have h2 : ¬ (65 : Int) < (nodes : Int) := by omega
  go_enter Try.func21, Try.ntmps21
  go_wp2_with fail
  refine C2.out.mono ?_
  rintro e w1 ⟨rfl, hw⟩
  rw [hw]
  clear hw
  go_wp2
  go_ret2
  exact ⟨rfl, heap_alloc_new _ _, by simp, (Below.refl _ _).alloc (Nat.le_refl _) _⟩
end Go.Proofs.Ytdbnbgpbbfckfaa
