/- Parts of the proofs of stage 15. -/
import Derived.Test.YtifmpcldiimdbaaZD
import Derived.Deep.AppendLies
import Derived.Deep.RegionHeld3
import Derived.Deep.RegionLaw
namespace Go.Proofs.Ytifmpcldiimdbaa
open Go.RowKit

/-- What is left to read, and whether all was well so far. -/
structure St where
  b : List UInt8
  ok : Bool
def St.take (s : St) (k e : Nat) : St := if e = 0 then ⟨s.b.drop k, s.ok⟩ else ⟨[], false⟩
def St.num (s : St) : St := s.take (numP s.b).2.1 (numP s.b).2.2
def St.list (s : St) : St := s.take (listP s.b).2.1 (listP s.b).2.2
def St.count (s : St) (most : Nat) : Nat × St := if most < (numP s.b).1 then (0, ⟨[], false⟩) else ((numP s.b).1, s.num)

/-- Two blocks alone are written; new ones may come. -/
structure Side (b c : Nat) (w w' : World) : Prop where
  os : w'.os = w.os
  tape : w'.tape = w.tape
  output : w'.output = w.output
  size : w.heap.size ≤ w'.heap.size
  block : ∀ k, k < w.heap.size → k ≠ b → k ≠ c → w'.heap[k]? = w.heap[k]?
theorem Side.refl (b c : Nat) (w : World) : Side b c w w := ⟨rfl, rfl, rfl, Nat.le_refl _, fun _ _ _ _ => rfl⟩
theorem Side.trans {b c : Nat} {w w1 w2 : World} (h : Side b c w w1) (k : Side b c w1 w2) : Side b c w w2 :=
  ⟨k.os.trans h.os, k.tape.trans h.tape, k.output.trans h.output, Nat.le_trans h.size k.size, fun i hi h1 h2 => (k.block i (Nat.lt_of_lt_of_le hi h.size) h1 h2).trans (h.block i hi h1 h2)⟩
theorem Side.of_below {b c : Nat} {w w' : World} (h : Below w.heap.size w w') : Side b c w w' := ⟨h.os, h.tape, h.output, h.size, fun k hk _ _ => h.block k hk⟩
theorem Side.set1 {b c : Nat} {w w' : World} (h : Side b c w w') (v : Value) : Side b c w (w'.setCell ⟨b, 0, none⟩ v) :=
  ⟨h.os, h.tape, h.output, by simpa using h.size, fun k hk h1 h2 => (Below.heap_setCell w' ⟨b, 0, none⟩ v k h1).trans (h.block k hk h1 h2)⟩
theorem Side.set2 {b c : Nat} {w w' : World} (h : Side b c w w') (v : Value) : Side b c w (w'.setCell ⟨c, 0, none⟩ v) :=
  ⟨h.os, h.tape, h.output, by simpa using h.size, fun k hk h1 h2 => (Below.heap_setCell w' ⟨c, 0, none⟩ v k h2).trans (h.block k hk h1 h2)⟩
theorem Side.one {b c k : Nat} {w w' : World} {t : TypeId} {v : Value} (h : Side b c w w') (ho : One w k t v) (h1 : k ≠ b) (h2 : k ≠ c) : One w' k t v := (h.block k (lt_of_block ho) h1 h2).trans ho
theorem Side.owns {b c B : Nat} {w w' : World} {e : TypeId} {size : Nat} {v : Value} {n : Nat} {xs : List Value} (h : Side b c w w') (ho : w.ownsRow B e size v n xs) (h1 : b < B) (h2 : c < B) : w'.ownsRow B e size v n xs := by
  refine ⟨ho.1, ?_⟩
  rcases ho.2 with h0 | ⟨g, cap, cur, e1, e2, e3, e4⟩
  · exact .inl h0
  · exact .inr ⟨g, cap, cur, e1, e2, (h.block g (lt_of_block e3) (by omega) (by omega)).trans e3, e4⟩
theorem Side.below {b c B : Nat} {w0 w w' : World} (h : Side b c w w') (hb : Below B w0 w) (h1 : B ≤ b) (h2 : B ≤ c) (hB : B ≤ w.heap.size) : Below B w0 w' :=
  ⟨h.os.trans hb.os, h.tape.trans hb.tape, h.output.trans hb.output, Nat.le_trans hb.size h.size, fun k hk => (h.block k (by omega) (by omega) (by omega)).trans (hb.block k hk)⟩

abbrev takeF (b : Nat) : Value := .func (.func 88) #[] #[.pointer (some ⟨b, 0, none⟩), .pointer (some ⟨b + 3, 0, none⟩)]
abbrev numF (b : Nat) : Value := .func (.func 89) #[] #[.pointer (some ⟨b, 0, none⟩), .pointer (some ⟨b + 4, 0, none⟩)]
/-- What holds while a body is read. -/
structure RInv (b : Nat) (w : World) (s : St) : Prop where
  body : One w b 9 (.string ⟨s.b.toArray⟩)
  whole : One w (b + 3) 4 (.bool s.ok)
  take : One w (b + 4) 132 (takeF b)
  num : One w (b + 5) 55 (numF b)
  len : s.b.length ≤ 1048576

theorem RInv.below {b : Nat} {w w' : World} {s : St} (h : RInv b w s) (hb : Below w.heap.size w w') : RInv b w' s :=
  ⟨(hb.block _ (lt_of_block h.body)).trans h.body, (hb.block _ (lt_of_block h.whole)).trans h.whole, (hb.block _ (lt_of_block h.take)).trans h.take, (hb.block _ (lt_of_block h.num)).trans h.num, h.len⟩
theorem St.take_len {s : St} (k e : Nat) (h : s.b.length ≤ 1048576) : (s.take k e).b.length ≤ 1048576 := by
  unfold St.take
  split
  · simp only [List.length_drop]; omega
  · simp

theorem extract_from (l : List UInt8) (k : Nat) : (⟨l.toArray⟩ : ByteArray).extract k (⟨l.toArray⟩ : ByteArray).size = ⟨(l.drop k).toArray⟩ := by
  apply bytes_ext
  rw [extract_end]

set_option maxRecDepth 100000 in
set_option maxHeartbeats 1000000 in
theorem take_any (b : Nat) (w : World) (s : St) (k e : Nat) (h : RInv b w s) (hk : k ≤ s.b.length) :
    Calls Try.prog 88 #[.int .i64 k, .int .i64 e, .pointer (some ⟨b, 0, none⟩), .pointer (some ⟨b + 3, 0, none⟩)] w fun r w' => r = .returned (.tuple #[]) ∧ RInv b w' (s.take k e) ∧ Side b (b + 3) w w' := by
  obtain ⟨h1, h2, h3, h4, h5⟩ := h
  have c1 := cell_of_one h1
  have f1 := free_of_one h1
  have c2 := cell_of_one h2
  have f2 := free_of_one h2
  have H1 := Hid.mk h1
  have H2 := Hid.mk h2
  have H3 := Hid.mk h3
  have H4 := Hid.mk h4
  have hsz := size_list s.b
  have hkI : (k : Int) ≤ (s.b.length : Int) := by omega
  have hx := extract_from s.b k
  rw [hsz] at hx
  clear h1 h2 h3 h4
  by_cases he : e = 0
  · subst he
    have HT : Hid (s.take k 0 = ⟨s.b.drop k, s.ok⟩) := Hid.mk (if_pos rfl)
    go_enter Try.func88, Try.ntmps88
    go_wp2
    go_end0
    rw [HT.out]
    exact ⟨rfl, ⟨one_setCell H1.out, one_other H2.out (by omega), one_other H3.out (by omega), one_other H4.out (by omega), by simp only [List.length_drop]; omega⟩, (Side.refl _ _ _).set1 _⟩
  · have HT : Hid (s.take k e = ⟨[], false⟩) := Hid.mk (if_neg he)
    have heI : ((e : Int) != 0) = true := by simp; omega
    clear he
    go_enter Try.func88, Try.ntmps88
    go_wp2
    go_end0
    rw [HT.out]
    refine ⟨rfl, ⟨?_, ?_, ?_, ?_, by simp⟩, (((Side.refl _ _ _).set1 _).set1 _).set2 _⟩
    · exact one_other (one_setCell (one_setCell H1.out)) (by omega)
    · exact one_setCell (one_other (one_other H2.out (by omega)) (by omega))
    · exact one_other (one_other (one_other H3.out (by omega)) (by omega)) (by omega)
    · exact one_other (one_other (one_other H4.out (by omega)) (by omega)) (by omega)

set_option maxRecDepth 100000 in
set_option maxHeartbeats 1000000 in
theorem numRead_any (b : Nat) (w : World) (s : St) (h : RInv b w s) :
    Calls Try.prog 89 #[.pointer (some ⟨b, 0, none⟩), .pointer (some ⟨b + 4, 0, none⟩)] w fun r w' => r = .returned (.int .i64 (numP s.b).1) ∧ RInv b w' s.num ∧ Side b (b + 3) w w' := by
  have c1 := cell_of_one h.body
  have c3 := cell_of_one h.take
  have HN : Hid (∀ w, Calls Try.prog 90 #[.string ⟨s.b.toArray⟩] w fun e w' => e = .returned (numV s.b) ∧ w' = w) := Hid.mk (fun w => by
    have := num_any ⟨s.b.toArray⟩ w (by rw [size_list]; have := h.len; unfold maxLen; omega)
    rw [data_list] at this; exact this)
  obtain ⟨u1, _, _, _⟩ := numP_used s.b
  obtain ⟨v, k, e, hv⟩ : ∃ v k e, numP s.b = (v, k, e) := ⟨_, _, _, rfl⟩
  have HV := Hid.mk (numV_of hv)
  have HS : Hid (s.num = s.take k e) := Hid.mk (by rw [St.num, hv])
  rw [hv] at u1 ⊢
  simp only at u1 ⊢
  have H := Hid.mk h
  clear h hv
  go_enter Try.func89, Try.ntmps89
  go_wp2_with fail
  refine (HN.out _).mono ?_
  rintro e1 w1 ⟨rfl, rfl⟩
  rw [HV.out]
  go_wp2_with fail
  refine (take_any b _ s k e H.out u1).mono ?_
  rintro e2 w2 ⟨rfl, hr, hsd⟩
  have HR := Hid.mk hr
  clear hr
  go_wp2
  go_ret
  exact ⟨rfl, by rw [HS.out]; exact HR.out, hsd⟩

set_option maxRecDepth 100000 in
set_option maxHeartbeats 1000000 in
theorem countRead_any (b : Nat) (w : World) (s : St) (most : Nat) (h : RInv b w s) :
    Calls Try.prog 91 #[.int .i64 most, .pointer (some ⟨b + 5, 0, none⟩), .pointer (some ⟨b + 4, 0, none⟩)] w fun r w' => r = .returned (.int .i64 (s.count most).1) ∧ RInv b w' (s.count most).2 ∧ Side b (b + 3) w w' := by
  have c1 := cell_of_one h.num
  have H := Hid.mk h
  clear h
  by_cases hm : most < (numP s.b).1
  · have HC : Hid (s.count most = (0, ⟨[], false⟩)) := Hid.mk (if_pos hm)
    have HT : Hid (s.num.take 0 31 = ⟨[], false⟩) := Hid.mk (if_neg (by decide))
    obtain ⟨v, hv⟩ : ∃ v, v = (numP s.b).1 := ⟨_, rfl⟩
    have HN := Hid.mk (numRead_any b w s H.out)
    rw [← hv] at hm HN
    clear hv
    go_enter Try.func91, Try.ntmps91
    go_wp2_with fail
    refine HN.out.mono ?_
    rintro e1 w1 ⟨rfl, hr1, hs1⟩
    have c2 := cell_of_one hr1.take
    have H1 := Hid.mk hr1
    clear hr1 c1 HN
    go_wp2_with fail
    refine (take_any b _ s.num 0 31 H1.out (Nat.zero_le _)).mono ?_
    rintro e2 w2 ⟨rfl, hr2, hs2⟩
    have H2 := Hid.mk hr2
    clear hr2 c2
    go_wp2
    go_ret
    refine ⟨by rw [HC.out]; rfl, ?_, hs1.trans hs2⟩
    rw [HC.out, ← HT.out]; exact H2.out
  · have HC : Hid (s.count most = ((numP s.b).1, s.num)) := Hid.mk (if_neg hm)
    obtain ⟨v, hv⟩ : ∃ v, v = (numP s.b).1 := ⟨_, rfl⟩
    have HN := Hid.mk (numRead_any b w s H.out)
    rw [← hv] at hm HN HC
    clear hv
    go_enter Try.func91, Try.ntmps91
    go_wp2_with fail
    refine HN.out.mono ?_
    rintro e1 w1 ⟨rfl, hr1, hs1⟩
    have H1 := Hid.mk hr1
    clear hr1 c1 HN
    go_wp2
    go_ret
    exact ⟨by rw [HC.out]; rfl, by rw [HC.out]; exact H1.out, hs1⟩

theorem owns_base {w : World} {B B' n : Nat} {e : TypeId} {size : Nat} {v : Value} {xs : List Value} (h : w.ownsRow B e size v n xs) (hb : B' ≤ B) : w.ownsRow B' e size v n xs := by
  refine ⟨h.1, ?_⟩
  rcases h.2 with h0 | ⟨g, cap, cur, e1, e2, e3⟩
  · exact .inl h0
  · exact .inr ⟨g, cap, cur, e1, Nat.le_trans hb e2, e3⟩

theorem listP_used (l : List UInt8) : (listP l).2.1 ≤ l.length := by
  by_cases h : (listP l).2.2 = 0
  · obtain ⟨n, k, e, hn⟩ : ∃ n k e, listP l = (n, k, e) := ⟨_, _, _, rfl⟩
    rw [hn] at h ⊢
    simp only at h ⊢
    subst h
    obtain ⟨e1, _, _, e4⟩ := listP_sound hn
    have := congrArg List.length e1
    rw [List.length_append, List.length_drop] at this; omega
  · rw [listP_shape l h]; exact Nat.zero_le _

set_option maxRecDepth 100000 in
set_option maxHeartbeats 1000000 in
theorem listRead_any (b : Nat) (w : World) (s : St) (h : RInv b w s) :
    Calls Try.prog 92 #[.pointer (some ⟨b, 0, none⟩), .pointer (some ⟨b + 4, 0, none⟩)] w fun r w' => ∃ v, r = .returned v ∧
      w'.ownsRow (b + 6) 9 1 v (listP s.b).1.length (strCs (listP s.b).1) ∧ RInv b w' s.list ∧ Side b (b + 3) w w' := by
  have c1 := cell_of_one h.body
  have hb6 : b + 6 ≤ w.heap.size := lt_of_block h.num
  have HN : Hid (∀ w, Calls Try.prog 93 #[.string ⟨s.b.toArray⟩] w (ListEnd s.b w)) := Hid.mk (fun w => by
    have := list_any ⟨s.b.toArray⟩ w (by rw [size_list]; have := h.len; omega)
    rw [data_list] at this; exact this)
  have u1 := listP_used s.b
  obtain ⟨ls, k, e, hv⟩ : ∃ v k e, listP s.b = (v, k, e) := ⟨_, _, _, rfl⟩
  have HS : Hid (s.list = s.take k e) := Hid.mk (by rw [St.list, hv])
  unfold ListEnd at HN
  rw [hv] at u1 HN ⊢
  simp only at u1 HN ⊢
  have H := Hid.mk h
  clear h hv
  go_enter Try.func92, Try.ntmps92
  go_wp2_with fail
  refine (HN.out _).mono ?_
  rintro e1 w1 ⟨v, rfl, ho, hb1⟩
  have hr1 := H.out.below hb1
  have c3 := cell_of_one hr1.take
  have H1 := Hid.mk hr1
  have HO := Hid.mk (owns_base ho hb6)
  have S1 : Hid (Side b (b + 3) w w1) := Hid.mk (Side.of_below hb1)
  clear hr1 ho hb1 c1 HN
  go_wp2_with fail
  refine (take_any b _ s k e H1.out u1).mono ?_
  rintro e2 w2 ⟨rfl, hr, hsd⟩
  have HR := Hid.mk hr
  have S2 := Hid.mk (S1.out.trans hsd)
  have HO2 := Hid.mk (hsd.owns HO.out (by omega) (by omega))
  clear hr hsd c3
  go_wp2
  go_ret
  exact ⟨_, rfl, HO2.out, by rw [HS.out]; exact HR.out, S2.out⟩
end Go.Proofs.Ytifmpcldiimdbaa

namespace Go.Proofs.Ytifmpcldiimdbaa
open Go.RowKit

def numsS : Nat → St → List Nat × St
  | 0, s => ([], s)
  | i + 1, s => ((numsS i s).1 ++ [(numP (numsS i s).2.b).1], (numsS i s).2.num)
def rowsS : Nat → St → List (List (List UInt8)) × St
  | 0, s => ([], s)
  | i + 1, s => ((rowsS i s).1 ++ [(listP (rowsS i s).2.b).1], (rowsS i s).2.list)

theorem numsS_len (i : Nat) (s : St) : (numsS i s).1.length = i := by
  induction i with
  | zero => rfl
  | succ i ih => simp [numsS, ih]
theorem rowsS_len (i : Nat) (s : St) : (rowsS i s).1.length = i := by
  induction i with
  | zero => rfl
  | succ i ih => simp [rowsS, ih]
theorem rowsS_sane (i : Nat) (s : St) : ∀ r ∈ (rowsS i s).1, r.length ≤ 4096 := by
  induction i with
  | zero => simp [rowsS]
  | succ i ih =>
    intro r hr
    simp only [rowsS, List.mem_append, List.mem_singleton] at hr
    rcases hr with hr | rfl
    · exact ih r hr
    · exact listP_len _

theorem take_dead (s : St) (k e : Nat) (h : s.ok = false) : (s.take k e).ok = false := by
  unfold St.take; split
  · exact h
  · rfl
theorem num_none {s : St} (h : numQ s.b = none) : s.num = ⟨[], false⟩ := by
  unfold numQ at h
  split at h
  · simp at h
  · rename_i h0; exact if_neg h0
theorem num_some {s : St} {v : Nat} {r : List UInt8} (h : numQ s.b = some (v, r)) : (numP s.b).1 = v ∧ s.num = ⟨r, s.ok⟩ := by
  unfold numQ at h
  split at h
  · rename_i h0
    simp only [Option.some.injEq, Prod.mk.injEq] at h
    refine ⟨h.1, ?_⟩
    unfold St.num St.take
    rw [if_pos h0, h.2]
  · simp at h
theorem list_none {s : St} (h : listQ s.b = none) : s.list = ⟨[], false⟩ := by
  unfold listQ at h
  split at h
  · simp at h
  · rename_i h0; exact if_neg h0
theorem list_some {s : St} {v : List (List UInt8)} {r : List UInt8} (h : listQ s.b = some (v, r)) : (listP s.b).1 = v ∧ s.list = ⟨r, s.ok⟩ := by
  unfold listQ at h
  split at h
  · rename_i h0
    simp only [Option.some.injEq, Prod.mk.injEq] at h
    refine ⟨h.1, ?_⟩
    unfold St.list St.take
    rw [if_pos h0, h.2]
  · simp at h
theorem count_dead (s : St) (m : Nat) (h : s.ok = false) : (s.count m).2.ok = false := by
  unfold St.count; split
  · rfl
  · exact take_dead s _ _ h
theorem numsS_dead (i : Nat) (s : St) (h : s.ok = false) : (numsS i s).2.ok = false := by
  induction i with
  | zero => exact h
  | succ i ih => exact take_dead _ _ _ ih
theorem rowsS_dead (i : Nat) (s : St) (h : s.ok = false) : (rowsS i s).2.ok = false := by
  induction i with
  | zero => exact h
  | succ i ih => exact take_dead _ _ _ ih
theorem numsS_none (i : Nat) (s : St) (h : many numQ i s.b = none) : (numsS i s).2.ok = false ∧ (∀ xs r, many numQ i s.b = some (xs, r) → False) := by
  refine ⟨?_, fun xs r h2 => by rw [h] at h2; simp at h2⟩
  induction i with
  | zero => simp [many] at h
  | succ i ih =>
    have key : ∀ i, (∀ xs r, many numQ i s.b = some (xs, r) → numsS i s = (xs, ⟨r, s.ok⟩)) := by
      intro i
      induction i with
      | zero => intro xs r h; simp only [many, Option.some.injEq, Prod.mk.injEq] at h; obtain ⟨rfl, rfl⟩ := h; rfl
      | succ i ih =>
        intro xs r h
        simp only [many, Option.bind_eq_some_iff] at h
        obtain ⟨⟨ys, q⟩, h1, ⟨x, r2⟩, h2, h3⟩ := h
        simp only [Option.some.injEq, Prod.mk.injEq] at h2 h3
        obtain ⟨rfl, rfl⟩ := h3
        have e := ih ys q h1
        obtain ⟨a1, a2⟩ := num_some (s := ⟨q, s.ok⟩) h2
        simp only [numsS, e, a1, a2]
    cases hm : many numQ i s.b with
    | none => exact take_dead _ _ _ (ih hm)
    | some q =>
      obtain ⟨ys, q⟩ := q
      have e := key i ys q hm
      simp only [many, hm, Option.bind_some] at h
      have h2 : numQ q = none := by
        cases hq : numQ q with
        | none => rfl
        | some z => rw [hq] at h; simp at h
      simp only [numsS, e]
      rw [num_none (s := ⟨q, s.ok⟩) h2]
theorem numsS_some (i : Nat) (s : St) : ∀ xs r, many numQ i s.b = some (xs, r) → numsS i s = (xs, ⟨r, s.ok⟩) := by
  induction i with
  | zero => intro xs r h; simp only [many, Option.some.injEq, Prod.mk.injEq] at h; obtain ⟨rfl, rfl⟩ := h; rfl
  | succ i ih =>
    intro xs r h
    simp only [many, Option.bind_eq_some_iff] at h
    obtain ⟨⟨ys, q⟩, h1, ⟨x, r2⟩, h2, h3⟩ := h
    simp only [Option.some.injEq, Prod.mk.injEq] at h2 h3
    obtain ⟨rfl, rfl⟩ := h3
    have e := ih ys q h1
    obtain ⟨a1, a2⟩ := num_some (s := ⟨q, s.ok⟩) h2
    simp only [numsS, e, a1, a2]
theorem rowsS_some (i : Nat) (s : St) : ∀ xs r, many listQ i s.b = some (xs, r) → rowsS i s = (xs, ⟨r, s.ok⟩) := by
  induction i with
  | zero => intro xs r h; simp only [many, Option.some.injEq, Prod.mk.injEq] at h; obtain ⟨rfl, rfl⟩ := h; rfl
  | succ i ih =>
    intro xs r h
    simp only [many, Option.bind_eq_some_iff] at h
    obtain ⟨⟨ys, q⟩, h1, ⟨x, r2⟩, h2, h3⟩ := h
    simp only [Option.some.injEq, Prod.mk.injEq] at h2 h3
    obtain ⟨rfl, rfl⟩ := h3
    have e := ih ys q h1
    obtain ⟨a1, a2⟩ := list_some (s := ⟨q, s.ok⟩) h2
    simp only [rowsS, e, a1, a2]
theorem rowsS_none (i : Nat) (s : St) (h : many listQ i s.b = none) : (rowsS i s).2.ok = false := by
  induction i with
  | zero => simp [many] at h
  | succ i ih =>
    cases hm : many listQ i s.b with
    | none => exact take_dead _ _ _ (ih hm)
    | some q =>
      obtain ⟨ys, q⟩ := q
      have e := rowsS_some i s ys q hm
      simp only [many, hm, Option.bind_some] at h
      have h2 : listQ q = none := by
        cases hq : listQ q with
        | none => rfl
        | some z => rw [hq] at h; simp at h
      simp only [rowsS, e]
      rw [list_none (s := ⟨q, s.ok⟩) h2]

/-- The states of the reading. -/
def rd1 (l : List UInt8) : St := (St.mk l true).num
def rd2 (l : List UInt8) : Nat × St := (rd1 l).count 64
def rd3 (l : List UInt8) : List Nat × St := numsS (rd2 l).1 (rd2 l).2
def rd4 (l : List UInt8) : St := (rd3 l).2.list
def rd5 (l : List UInt8) : Nat × St := (rd4 l).count 4096
def rd6 (l : List UInt8) : List (List (List UInt8)) × St := rowsS (rd5 l).1 (rd5 l).2
def rdNote (l : List UInt8) : NoteD := ⟨(numP l).1, (rd3 l).1.map Int.ofNat, (listP (rd3 l).2.b).1, (rd6 l).1⟩
def rdOk (l : List UInt8) : Prop := (rd6 l).2.ok = true ∧ (rd6 l).2.b = [] ∧ (rdNote l).numsOk ∧ (rdNote l).textsFit

theorem rd_sane (l : List UInt8) : (rdNote l).sane := by
  refine ⟨Nat.le_trans (listP_len _) (by decide), fun r hr => Nat.le_trans (rowsS_sane _ _ r hr) (by decide)⟩

theorem count_over {s : St} {m v : Nat} {r : List UInt8} (h : numQ s.b = some (v, r)) (hv : m < v) : (s.count m).2.ok = false := by
  obtain ⟨a1, _⟩ := num_some h
  unfold St.count
  rw [a1, if_pos hv]
theorem count_fits {s : St} {m v : Nat} {r : List UInt8} (h : numQ s.b = some (v, r)) (hv : ¬ m < v) : s.count m = (v, ⟨r, s.ok⟩) := by
  obtain ⟨a1, a2⟩ := num_some h
  unfold St.count
  rw [a1, a2, if_neg hv]
theorem count_none {s : St} {m : Nat} (h : numQ s.b = none) : (s.count m).2.ok = false := by
  unfold St.count
  split
  · rfl
  · rw [num_none h]

theorem rd_read (l : List UInt8) (hl : l.length ≤ 1048576) : (rdOk l ∧ readP l = some (rdNote l)) ∨ (¬ rdOk l ∧ readP l = none) := by
  have dead6 : ∀ s : St, s = rd4 l → s.ok = false → ¬ rdOk l := by
    intro s h1 h2 h
    subst h1
    have := rowsS_dead (rd5 l).1 (rd5 l).2 (count_dead (rd4 l) 4096 h2)
    have h3 := h.1
    rw [rd6, this] at h3
    cases h3
  have dead5 : (rd5 l).2.ok = false → ¬ rdOk l := by
    intro h2 h
    have := rowsS_dead (rd5 l).1 (rd5 l).2 h2
    have h3 := h.1
    rw [rd6, this] at h3
    cases h3
  have dead3 : (rd3 l).2.ok = false → ¬ rdOk l := fun h => dead6 _ rfl (take_dead _ _ _ h)
  have dead2 : (rd2 l).2.ok = false → ¬ rdOk l := fun h => dead3 (numsS_dead _ _ h)
  have dead1 : (rd1 l).ok = false → ¬ rdOk l := fun h => dead2 (count_dead _ _ h)
  unfold readP
  cases h1 : numQ l with
  | none => exact .inr ⟨dead1 (by rw [rd1, num_none (s := ⟨l, true⟩) h1]), rfl⟩
  | some q1 =>
    obtain ⟨k, l1⟩ := q1
    obtain ⟨a1, e1⟩ := num_some (s := ⟨l, true⟩) h1
    rw [← rd1] at e1
    simp only [Option.bind_some]
    cases h2 : numQ l1 with
    | none => exact .inr ⟨dead2 (by rw [rd2, e1]; exact count_none (s := ⟨l1, true⟩) h2), rfl⟩
    | some q2 =>
      obtain ⟨c, l2⟩ := q2
      simp only [Option.bind_some]
      by_cases hc : 64 < c
      · rw [if_pos hc]
        exact .inr ⟨dead2 (by rw [rd2, e1]; exact count_over (s := ⟨l1, true⟩) h2 hc), rfl⟩
      · rw [if_neg hc]
        have e2 : rd2 l = (c, ⟨l2, true⟩) := by rw [rd2, e1]; exact count_fits (s := ⟨l1, true⟩) h2 hc
        cases h3 : many numQ c l2 with
        | none => exact .inr ⟨dead3 (by rw [rd3, e2]; exact (numsS_none c ⟨l2, true⟩ h3).1), rfl⟩
        | some q3 =>
          obtain ⟨ns, l3⟩ := q3
          have e3 : rd3 l = (ns, ⟨l3, true⟩) := by rw [rd3, e2]; exact numsS_some c ⟨l2, true⟩ ns l3 h3
          simp only [Option.bind_some]
          cases h4 : listQ l3 with
          | none => exact .inr ⟨dead6 _ rfl (by rw [rd4, e3, list_none (s := ⟨l3, true⟩) h4]), rfl⟩
          | some q4 =>
            obtain ⟨ts, l4⟩ := q4
            obtain ⟨a4, b4⟩ := list_some (s := ⟨l3, true⟩) h4
            have e4 : rd4 l = ⟨l4, true⟩ := by rw [rd4, e3]; exact b4
            simp only [Option.bind_some]
            cases h5 : numQ l4 with
            | none => exact .inr ⟨dead5 (by rw [rd5, e4]; exact count_none (s := ⟨l4, true⟩) h5), rfl⟩
            | some q5 =>
              obtain ⟨m, l5⟩ := q5
              simp only [Option.bind_some]
              by_cases hm : 4096 < m
              · rw [if_pos hm]
                exact .inr ⟨dead5 (by rw [rd5, e4]; exact count_over (s := ⟨l4, true⟩) h5 hm), rfl⟩
              · rw [if_neg hm]
                have e5 : rd5 l = (m, ⟨l5, true⟩) := by rw [rd5, e4]; exact count_fits (s := ⟨l4, true⟩) h5 hm
                cases h6 : many listQ m l5 with
                | none =>
                  refine .inr ⟨fun h => ?_, rfl⟩
                  have h7 := h.1
                  rw [rd6, e5, rowsS_none m ⟨l5, true⟩ h6] at h7
                  cases h7
                | some q6 =>
                  obtain ⟨rs, l6⟩ := q6
                  have e6 : rd6 l = (rs, ⟨l6, true⟩) := by rw [rd6, e5]; exact rowsS_some m ⟨l5, true⟩ rs l6 h6
                  have eN : rdNote l = ⟨(k : Int), ns.map Int.ofNat, ts, rs⟩ := by
                    rw [rdNote, e3, e6]; simp only; rw [a4, a1]
                  simp only [Option.bind_some]
                  by_cases hg : l6 = [] ∧ (NoteD.mk k (ns.map Int.ofNat) ts rs).numsOk ∧ (NoteD.mk k (ns.map Int.ofNat) ts rs).textsOk
                  · rw [if_pos hg]
                    have hread : readP l = some ⟨(k : Int), ns.map Int.ofNat, ts, rs⟩ := by
                      unfold readP
                      rw [h1]; simp only [Option.bind_some]; rw [h2]; simp only [Option.bind_some]; rw [if_neg hc, h3]; simp only [Option.bind_some]
                      rw [h4]; simp only [Option.bind_some]; rw [h5]; simp only [Option.bind_some]; rw [if_neg hm, h6]; simp only [Option.bind_some]
                      rw [if_pos hg]
                    have hb := (readP_sound hread).1
                    have hsz := size_le_body ⟨(k : Int), ns.map Int.ofNat, ts, rs⟩
                    rw [← hb] at hsz
                    refine .inl ⟨⟨by rw [e6], by rw [e6]; exact hg.1, by rw [eN]; exact hg.2.1, by rw [eN]; exact ⟨hg.2.2, Nat.le_trans hsz hl⟩⟩, by rw [eN]⟩
                  · rw [if_neg hg]
                    refine .inr ⟨fun h => hg ?_, rfl⟩
                    obtain ⟨_, g2, g3, g4⟩ := h
                    rw [e6] at g2
                    rw [eN] at g3 g4
                    exact ⟨g2, g3, g4.1⟩
end Go.Proofs.Ytifmpcldiimdbaa

namespace Go.Proofs.Ytifmpcldiimdbaa
open Go.RowKit

abbrev zeroN : Value := .agg #[.int .i64 0, .slice none 0 0, .slice none 0 0, .slice none 0 0]
theorem zeroN_at (w : World) : NoteAt w zeroN .none :=
  ⟨_, _, _, rfl, ⟨by simp [NoteD.none, intCs], none, 0, rfl, .inl rfl⟩, ⟨by simp [NoteD.none], none, 0, rfl, .inl rfl⟩, ⟨[], ⟨by simp, none, 0, rfl, .inl rfl⟩, rfl, by simp⟩⟩

/-- Rows of texts that the call owns. -/
def RowsOwn (w : World) (B : Nat) (v : Value) (rs : List (List (List UInt8))) : Prop :=
  ∃ vs, w.ownsRow B 27 1 v rs.length vs ∧ vs.length = rs.length ∧ ∀ (j : Nat) x r, vs[j]? = some x → rs[j]? = some r → w.ownsRow B 9 1 x r.length (strCs r)

structure NInv (b : Nat) (w0 w : World) (s : St) (kind : Int) (vn vt vr : Value) (nums : List Int) (texts : List (List UInt8)) (rows : List (List (List UInt8))) : Prop where
  r : RInv b w s
  res : w.heap[b + 1]? = some (.cells #[.int .i64 0, .slice none 0 0, .slice none 0 0, .slice none 0 0] 36 (0, 0))
  nb : w.heap[b + 2]? = some (.cells #[.int .i64 kind, vn, vt, vr] 36 (0, 0))
  on : w.ownsRow (b + 6) 3 1 vn nums.length (intCs nums)
  ot : w.ownsRow (b + 6) 9 1 vt texts.length (strCs texts)
  orr : RowsOwn w (b + 6) vr rows
  bel : Below b w0 w

section
variable {b : Nat} {w0 w w' : World} {s s' : St} {kind : Int} {vn vt vr : Value} {nums : List Int} {texts : List (List UInt8)} {rows : List (List (List UInt8))}

theorem four_cells {w : World} {b : Nat} {c0 c1 c2 c3 : Value} {t : TypeId} (h : w.heap[b]? = some (.cells #[c0, c1, c2, c3] t (0, 0))) :
    (w.cell? ⟨b, 0, none⟩ = some c0 ∧ w.cell? ⟨b, 1, none⟩ = some c1 ∧ w.cell? ⟨b, 2, none⟩ = some c2 ∧ w.cell? ⟨b, 3, none⟩ = some c3) ∧
    (w.frozen? ⟨b, 0, none⟩ = false ∧ w.frozen? ⟨b, 1, none⟩ = false ∧ w.frozen? ⟨b, 2, none⟩ = false ∧ w.frozen? ⟨b, 3, none⟩ = false) := by
  simp [World.cell?, World.frozen?, h]
theorem four_set0 {w : World} {b : Nat} {c0 c1 c2 c3 v : Value} {t : TypeId} (h : w.heap[b]? = some (.cells #[c0, c1, c2, c3] t (0, 0))) : (w.setCell ⟨b, 0, none⟩ v).heap[b]? = some (.cells #[v, c1, c2, c3] t (0, 0)) := by
  simp [World.setCell, Array.getElem?_modify, h]
theorem four_set1 {w : World} {b : Nat} {c0 c1 c2 c3 v : Value} {t : TypeId} (h : w.heap[b]? = some (.cells #[c0, c1, c2, c3] t (0, 0))) : (w.setCell ⟨b, 1, none⟩ v).heap[b]? = some (.cells #[c0, v, c2, c3] t (0, 0)) := by
  simp [World.setCell, Array.getElem?_modify, h]
theorem four_set2 {w : World} {b : Nat} {c0 c1 c2 c3 v : Value} {t : TypeId} (h : w.heap[b]? = some (.cells #[c0, c1, c2, c3] t (0, 0))) : (w.setCell ⟨b, 2, none⟩ v).heap[b]? = some (.cells #[c0, c1, v, c3] t (0, 0)) := by
  simp [World.setCell, Array.getElem?_modify, h]
theorem four_set3 {w : World} {b : Nat} {c0 c1 c2 c3 v : Value} {t : TypeId} (h : w.heap[b]? = some (.cells #[c0, c1, c2, c3] t (0, 0))) : (w.setCell ⟨b, 3, none⟩ v).heap[b]? = some (.cells #[c0, c1, c2, v] t (0, 0)) := by
  simp [World.setCell, Array.getElem?_modify, h]

theorem owns_set {w : World} {B k i n : Nat} {e : TypeId} {size : Nat} {v u : Value} {xs : List Value} (h : w.ownsRow B e size v n xs) (hk : k < B) : (w.setCell ⟨k, i, none⟩ u).ownsRow B e size v n xs := by
  refine ⟨h.1, ?_⟩
  rcases h.2 with h0 | ⟨g, cap, cur, e1, e2, e3, e4⟩
  · exact .inl h0
  · exact .inr ⟨g, cap, cur, e1, e2, (Below.heap_setCell w ⟨k, i, none⟩ u g (by simp only; omega)).trans e3, e4⟩
theorem rowsOwn_set {w : World} {B k i : Nat} {v u : Value} {rs : List (List (List UInt8))} (h : RowsOwn w B v rs) (hk : k < B) : RowsOwn (w.setCell ⟨k, i, none⟩ u) B v rs := by
  obtain ⟨vs, h1, h2, h3⟩ := h
  exact ⟨vs, owns_set h1 hk, h2, fun j x r hx hr => owns_set (h3 j x r hx hr) hk⟩
theorem rInv_set (h : RInv b w s) (i : Nat) (v : Value) : RInv b (w.setCell ⟨b + 2, i, none⟩ v) s := by
  have key : ∀ k o, w.heap[k]? = some o → k ≠ b + 2 → (w.setCell ⟨b + 2, i, none⟩ v).heap[k]? = some o := fun k o h1 h2 => (Below.heap_setCell w ⟨b + 2, i, none⟩ v k h2).trans h1
  exact ⟨key _ _ h.body (by omega), key _ _ h.whole (by omega), key _ _ h.take (by omega), key _ _ h.num (by omega), h.len⟩

theorem NInv.side (h : NInv b w0 w s kind vn vt vr nums texts rows) (hr : RInv b w' s') (hs : Side b (b + 3) w w') : NInv b w0 w' s' kind vn vt vr nums texts rows := by
  obtain ⟨h1, h2, h3, h4, h5, ⟨vs, h6, h7, h8⟩, h9⟩ := h
  exact ⟨hr, (hs.block _ (lt_of_block h2) (by omega) (by omega)).trans h2, (hs.block _ (lt_of_block h3) (by omega) (by omega)).trans h3, hs.owns h4 (by omega) (by omega), hs.owns h5 (by omega) (by omega),
    ⟨vs, hs.owns h6 (by omega) (by omega), h7, fun j x r hx hr => hs.owns (h8 j x r hx hr) (by omega) (by omega)⟩, hs.below h9 (by omega) (by omega) (by have := lt_of_block h1.num; omega)⟩

theorem NInv.below (h : NInv b w0 w s kind vn vt vr nums texts rows) (hb : Below w.heap.size w w') : NInv b w0 w' s kind vn vt vr nums texts rows :=
  h.side (h.r.below hb) (Side.of_below hb)
theorem NInv.drew (h : NInv b w0 w s kind vn vt vr nums texts rows) : NInv b w0 w.drew s kind vn vt vr nums texts rows := h.below (Below.refl _ _).drew

theorem NInv.setKind (h : NInv b w0 w s kind vn vt vr nums texts rows) (k : Int) : NInv b w0 (w.setCell ⟨b + 2, 0, none⟩ (.int .i64 k)) s k vn vt vr nums texts rows := by
  obtain ⟨h1, h2, h3, h4, h5, h6, h9⟩ := h
  exact ⟨rInv_set h1 _ _, (Below.heap_setCell w ⟨b + 2, 0, none⟩ _ _ (by simp only; omega)).trans h2, four_set0 h3, owns_set h4 (by omega), owns_set h5 (by omega), rowsOwn_set h6 (by omega), h9.setCell (by simp only; omega) _⟩
theorem NInv.setNums (h : NInv b w0 w s kind vn vt vr nums texts rows) {v : Value} {ns : List Int} (hv : w.ownsRow (b + 6) 3 1 v ns.length (intCs ns)) : NInv b w0 (w.setCell ⟨b + 2, 1, none⟩ v) s kind v vt vr ns texts rows := by
  obtain ⟨h1, h2, h3, h4, h5, h6, h9⟩ := h
  exact ⟨rInv_set h1 _ _, (Below.heap_setCell w ⟨b + 2, 1, none⟩ _ _ (by simp only; omega)).trans h2, four_set1 h3, owns_set hv (by omega), owns_set h5 (by omega), rowsOwn_set h6 (by omega), h9.setCell (by simp only; omega) _⟩
theorem NInv.setTexts (h : NInv b w0 w s kind vn vt vr nums texts rows) {v : Value} {ts : List (List UInt8)} (hv : w.ownsRow (b + 6) 9 1 v ts.length (strCs ts)) : NInv b w0 (w.setCell ⟨b + 2, 2, none⟩ v) s kind vn v vr nums ts rows := by
  obtain ⟨h1, h2, h3, h4, h5, h6, h9⟩ := h
  exact ⟨rInv_set h1 _ _, (Below.heap_setCell w ⟨b + 2, 2, none⟩ _ _ (by simp only; omega)).trans h2, four_set2 h3, owns_set h4 (by omega), owns_set hv (by omega), rowsOwn_set h6 (by omega), h9.setCell (by simp only; omega) _⟩
theorem NInv.setRows (h : NInv b w0 w s kind vn vt vr nums texts rows) {v : Value} {rs : List (List (List UInt8))} (hv : RowsOwn w (b + 6) v rs) : NInv b w0 (w.setCell ⟨b + 2, 3, none⟩ v) s kind vn vt v nums texts rs := by
  obtain ⟨h1, h2, h3, h4, h5, h6, h9⟩ := h
  exact ⟨rInv_set h1 _ _, (Below.heap_setCell w ⟨b + 2, 3, none⟩ _ _ (by simp only; omega)).trans h2, four_set3 h3, owns_set h4 (by omega), owns_set h5 (by omega), rowsOwn_set hv (by omega), h9.setCell (by simp only; omega) _⟩

theorem own_ge {w : World} {B n g : Nat} {e : TypeId} {size : Nat} {v : Value} {xs : List Value} (h : w.ownsRow B e size v n xs) (hg : v.ownBlock = some g) : B ≤ g := by
  rcases h.2 with ⟨rfl, _⟩ | ⟨g', cap, cur, rfl, e2, _⟩
  · simp [Value.ownBlock] at hg
  · simp [Value.ownBlock] at hg; omega
/-- A row of other elements than those of the row that grew is as it was. -/
theorem owns_other {w w' : World} {B B' n n' : Nat} {e e' : TypeId} {size size' : Nat} {v u : Value} {xs ys : List Value} (h : w.ownsRow B e size v n xs) (hu : w.ownsRow B' e' size' u n' ys) (hg : w.grownBy w' u.ownBlock) (hne : e ≠ e') : w'.ownsRow B e size v n xs := by
  refine ⟨h.1, ?_⟩
  rcases h.2 with h0 | ⟨g, cap, cur, e1, e2, e3, e4⟩
  · exact .inl h0
  · refine .inr ⟨g, cap, cur, e1, e2, (hg.block g (lt_of_block e3) ?_).trans e3, e4⟩
    rcases hu.2 with ⟨rfl, _⟩ | ⟨g', cap', cur', rfl, f2, f3, f4⟩
    · simp [Value.ownBlock]
    · simp only [Value.ownBlock, ne_eq, Option.some.injEq]
      intro hgg
      subst hgg
      rw [e3] at f3
      simp only [Option.some.injEq, Obj.cells.injEq] at f3
      exact hne f3.2.1
theorem grown_low {w w' : World} {B n k : Nat} {e : TypeId} {size : Nat} {u : Value} {ys : List Value} {o : Obj} (hu : w.ownsRow B e size u n ys) (hg : w.grownBy w' u.ownBlock) (hk : k < B) (ho : w.heap[k]? = some o) : w'.heap[k]? = some o :=
  (hg.block k (lt_of_block ho) (fun h => by have := own_ge hu h.symm; omega)).trans ho

theorem NInv.grownNums (h : NInv b w0 w s kind vn vt vr nums texts rows) (hg : w.grownBy w' vn.ownBlock) :
    RInv b w' s ∧ w'.heap[b + 1]? = some (.cells #[.int .i64 0, .slice none 0 0, .slice none 0 0, .slice none 0 0] 36 (0, 0)) ∧ w'.heap[b + 2]? = some (.cells #[.int .i64 kind, vn, vt, vr] 36 (0, 0)) ∧
    w'.ownsRow (b + 6) 9 1 vt texts.length (strCs texts) ∧ RowsOwn w' (b + 6) vr rows ∧ Below b w0 w' := by
  obtain ⟨h1, h2, h3, h4, h5, ⟨vs, h6, h7, h8⟩, h9⟩ := h
  have low : ∀ {k o}, k < b + 6 → w.heap[k]? = some o → w'.heap[k]? = some o := fun hk ho => grown_low h4 hg hk ho
  exact ⟨⟨low (by omega) h1.body, low (by omega) h1.whole, low (by omega) h1.take, low (by omega) h1.num, h1.len⟩, low (by omega) h2, low (by omega) h3,
    owns_other h5 h4 hg (by decide), ⟨vs, owns_other h6 h4 hg (by decide), h7, fun j x r hx hr => owns_other (h8 j x r hx hr) h4 hg (by decide)⟩,
    h9.grown hg (by have := lt_of_block h1.num; omega) (fun k hk => by have := own_ge h4 hk; omega)⟩

theorem NInv.grownRows (h : NInv b w0 w s kind vn vt vr nums texts rows) {vs : List Value} (h6 : w.ownsRow (b + 6) 27 1 vr rows.length vs) (hg : w.grownBy w' vr.ownBlock) :
    RInv b w' s ∧ w'.heap[b + 1]? = some (.cells #[.int .i64 0, .slice none 0 0, .slice none 0 0, .slice none 0 0] 36 (0, 0)) ∧ w'.heap[b + 2]? = some (.cells #[.int .i64 kind, vn, vt, vr] 36 (0, 0)) ∧
    w'.ownsRow (b + 6) 3 1 vn nums.length (intCs nums) ∧ w'.ownsRow (b + 6) 9 1 vt texts.length (strCs texts) ∧ Below b w0 w' := by
  obtain ⟨h1, h2, h3, h4, h5, _, h9⟩ := h
  have low : ∀ {k o}, k < b + 6 → w.heap[k]? = some o → w'.heap[k]? = some o := fun hk ho => grown_low h6 hg hk ho
  exact ⟨⟨low (by omega) h1.body, low (by omega) h1.whole, low (by omega) h1.take, low (by omega) h1.num, h1.len⟩, low (by omega) h2, low (by omega) h3,
    owns_other h4 h6 hg (by decide), owns_other h5 h6 hg (by decide),
    h9.grown hg (by have := lt_of_block h1.num; omega) (fun k hk => by have := own_ge h6 hk; omega)⟩

/-- A number more. -/
theorem NInv.addNum (h : NInv b w0 w s kind vn vt vr nums texts rows) {v : Value} {x : Int} (hg : w.grownBy w' vn.ownBlock) (hv : w'.ownsRow (b + 6) 3 1 v (nums.length + 1) (intCs nums ++ [.int .i64 x])) :
    NInv b w0 (w'.setCell ⟨b + 2, 1, none⟩ v) s kind v vt vr (nums ++ [x]) texts rows := by
  obtain ⟨h1, h2, h3, h5, h6, h9⟩ := h.grownNums hg
  have hv2 : w'.ownsRow (b + 6) 3 1 v (nums ++ [x]).length (intCs (nums ++ [x])) := by rw [intCs_snoc]; simpa using hv
  exact ⟨rInv_set h1 _ _, (Below.heap_setCell w' ⟨b + 2, 1, none⟩ _ _ (by simp only; omega)).trans h2, four_set1 h3, owns_set hv2 (by omega), owns_set h5 (by omega), rowsOwn_set h6 (by omega), h9.setCell (by simp only; omega) _⟩

/-- A row more. -/
theorem NInv.addRow (h : NInv b w0 w s kind vn vt vr nums texts rows) {vs : List Value} (h6 : w.ownsRow (b + 6) 27 1 vr rows.length vs) (hl : vs.length = rows.length)
    (h8 : ∀ (j : Nat) x r, vs[j]? = some x → rows[j]? = some r → w.ownsRow (b + 6) 9 1 x r.length (strCs r)) {v x : Value} {l : List (List UInt8)} (hx : w.ownsRow (b + 6) 9 1 x l.length (strCs l))
    (hg : w.grownBy w' vr.ownBlock) (hv : w'.ownsRow (b + 6) 27 1 v (rows.length + 1) (vs ++ [x])) :
    NInv b w0 (w'.setCell ⟨b + 2, 3, none⟩ v) s kind vn vt v nums texts (rows ++ [l]) := by
  obtain ⟨h1, h2, h3, h4, h5, h9⟩ := h.grownRows h6 hg
  have hrows : RowsOwn w' (b + 6) v (rows ++ [l]) := by
    refine ⟨vs ++ [x], by simpa using hv, by simp [hl], ?_⟩
    intro j y r hy hr
    rcases Nat.lt_or_ge j vs.length with hj | hj
    · rw [List.getElem?_append_left hj] at hy
      rw [List.getElem?_append_left (by omega)] at hr
      exact owns_other (h8 j y r hy hr) h6 hg (by decide)
    · have hj2 : j = vs.length := by
        have := (List.getElem?_eq_some_iff.1 hy).1
        simp at this; omega
      subst hj2
      rw [List.getElem?_append_right (Nat.le_refl _)] at hy
      rw [List.getElem?_append_right (by omega)] at hr
      simp only [Nat.sub_self, hl] at hy hr
      simp at hy hr
      subst hy hr
      exact owns_other hx h6 hg (by decide)
  exact ⟨rInv_set h1 _ _, (Below.heap_setCell w' ⟨b + 2, 3, none⟩ _ _ (by simp only; omega)).trans h2, four_set3 h3, owns_set h4 (by omega), owns_set h5 (by omega), rowsOwn_set hrows (by omega), h9.setCell (by simp only; omega) _⟩

theorem rowsAt_own {w : World} {B : Nat} {v : Value} {rs : List (List (List UInt8))} (h : RowsOwn w B v rs) (hl : rs.length ≤ 4096) (hr : ∀ r ∈ rs, r.length ≤ 4096) : RowsAt w v rs := by
  obtain ⟨vs, h1, h2, h3⟩ := h
  rw [← h2] at h1
  refine ⟨vs, valsAt_own h1 (by omega), h2, fun j x r hx hr2 => strsAt_own (h3 j x r hx hr2) (by have := hr r (List.mem_of_getElem? hr2); omega)⟩
theorem NInv.note (h : NInv b w0 w s kind vn vt vr nums texts rows) (h1 : nums.length ≤ 64) (h2 : texts.length ≤ 4096) (h3 : rows.length ≤ 4096) (h4 : ∀ r ∈ rows, r.length ≤ 4096) :
    NoteAt w (.agg #[.int .i64 kind, vn, vt, vr]) ⟨kind, nums, texts, rows⟩ := by
  refine ⟨vn, vt, vr, rfl, ?_, strsAt_own h.ot (by simp only; omega), rowsAt_own h.orr h3 h4⟩
  have := h.on
  rw [← intCs_len nums] at this
  exact valsAt_own this (by rw [intCs_len]; simp only; omega)
end

/-- The slice v holds the cells xs, in a block from B on that holds elements e. -/
def RowIn (w : World) (B : Nat) (e : TypeId) (v : Value) (xs : List Value) : Prop :=
  (∃ ao cap, v = .slice ao 0 cap ∧ xs = []) ∨ ∃ g o cap cur fz, v = .slice (some ⟨g, o, none⟩) xs.length cap ∧ B ≤ g ∧ w.heap[g]? = some (.cells cur e fz) ∧ ∀ (j : Nat) x, xs[j]? = some x → cur[o + j]? = some x
theorem rowIn_own {w : World} {B : Nat} {e : TypeId} {v : Value} {xs : List Value} (h : w.ownsRow B e 1 v xs.length xs) : RowIn w B e v xs := by
  rcases h.2 with ⟨rfl, h0⟩ | ⟨g, cap, cur, rfl, e2, e3, e4, e5, e6, e7⟩
  · exact .inl ⟨none, 0, rfl, List.length_eq_zero_iff.1 h0⟩
  · refine .inr ⟨g, 0, cap, cur, (0, 0), rfl, e2, e3, fun j x hx => ?_⟩
    rw [Nat.mul_one] at e7
    rw [← e7, List.getElem?_take] at hx
    split at hx
    · rw [Nat.zero_add]; simpa using hx
    · simp at hx
theorem RowIn.vals {w : World} {B : Nat} {e : TypeId} {v : Value} {xs : List Value} (h : RowIn w B e v xs) (hl : xs.length ≤ 9223372036854775807) : ValsAt w v xs := by
  rcases h with ⟨ao, cap, rfl, rfl⟩ | ⟨g, o, cap, cur, fz, rfl, _, e3, e4⟩
  · exact ⟨hl, ao, cap, rfl, .inl rfl⟩
  · exact ⟨hl, _, cap, rfl, .inr ⟨g, o, rfl, lt_of_block e3, fun j x hx => by simp only [World.cell?, e3]; exact e4 j x hx⟩⟩
theorem RowIn.slice {w : World} {B : Nat} {e : TypeId} {v : Value} {xs : List Value} (h : RowIn w B e v xs) : ∃ ao l cap, v = .slice ao l cap := by
  rcases h with ⟨ao, cap, rfl, _⟩ | ⟨g, o, cap, cur, fz, rfl, _⟩
  · exact ⟨_, _, _, rfl⟩
  · exact ⟨_, _, _, rfl⟩
theorem RowIn.kept {w w' : World} {B : Nat} {e : TypeId} {v : Value} {xs : List Value} (h : RowIn w B e v xs) (hk : ∀ g cur fz, B ≤ g → w.heap[g]? = some (.cells cur e fz) → w'.heap[g]? = some (.cells cur e fz)) : RowIn w' B e v xs := by
  rcases h with h | ⟨g, o, cap, cur, fz, e1, e2, e3, e4⟩
  · exact .inl h
  · exact .inr ⟨g, o, cap, cur, fz, e1, e2, hk g cur fz e2 e3, e4⟩

/-- A note that a call has made: its parts lie in blocks from B on. -/
def NoteOwn (w : World) (B : Nat) (v : Value) (n : NoteD) : Prop :=
  ∃ vn vt vr, v = .agg #[.int .i64 n.kind, vn, vt, vr] ∧ RowIn w B 3 vn (intCs n.nums) ∧ w.ownsRow B 9 1 vt n.texts.length (strCs n.texts) ∧ RowsOwn w B vr n.rows ∧
    n.nums.length ≤ 64 ∧ n.texts.length ≤ 4096 ∧ n.rows.length ≤ 4096 ∧ ∀ r ∈ n.rows, r.length ≤ 4096
theorem NoteOwn.at_ {w : World} {B : Nat} {v : Value} {n : NoteD} (h : NoteOwn w B v n) : NoteAt w v n := by
  obtain ⟨vn, vt, vr, rfl, h1, h2, h3, b1, b2, b3, b4⟩ := h
  exact ⟨vn, vt, vr, rfl, h1.vals (by rw [intCs_len]; omega), strsAt_own h2 (by omega), rowsAt_own h3 b3 b4⟩
theorem NoteOwn.sane {w : World} {B : Nat} {v : Value} {n : NoteD} (h : NoteOwn w B v n) : n.sane := by
  obtain ⟨vn, vt, vr, rfl, h1, h2, h3, b1, b2, b3, b4⟩ := h
  exact ⟨by omega, fun r hr => by have := b4 r hr; omega⟩
theorem zeroN_own (w : World) (B : Nat) : NoteOwn w B zeroN .none :=
  ⟨_, _, _, rfl, .inl ⟨none, 0, rfl, rfl⟩, ⟨rfl, .inl ⟨rfl, rfl⟩⟩, ⟨[], ⟨rfl, .inl ⟨rfl, rfl⟩⟩, rfl, by simp⟩, by simp [NoteD.none], by simp [NoteD.none], by simp [NoteD.none], by simp [NoteD.none]⟩
theorem rowsOwn_below {w w' : World} {B : Nat} {v : Value} {rs : List (List (List UInt8))} (h : RowsOwn w B v rs) (hb : Below w.heap.size w w') : RowsOwn w' B v rs := by
  obtain ⟨vs, h1, h2, h3⟩ := h
  exact ⟨vs, ownsRow_below h1 hb, h2, fun j x r hx hr => ownsRow_below (h3 j x r hx hr) hb⟩
theorem NoteOwn.below {w w' : World} {B : Nat} {v : Value} {n : NoteD} (h : NoteOwn w B v n) (hb : Below w.heap.size w w') : NoteOwn w' B v n := by
  obtain ⟨vn, vt, vr, e, h1, h2, h3, b⟩ := h
  exact ⟨vn, vt, vr, e, h1.kept (fun g cur fz _ hg => (hb.block g (lt_of_block hg)).trans hg), ownsRow_below h2 hb, rowsOwn_below h3 hb, b⟩
theorem NoteOwn.set {w : World} {B k i : Nat} {v u : Value} {n : NoteD} (h : NoteOwn w B v n) (hk : k < B) : NoteOwn (w.setCell ⟨k, i, none⟩ u) B v n := by
  obtain ⟨vn, vt, vr, e, h1, h2, h3, b⟩ := h
  exact ⟨vn, vt, vr, e, h1.kept (fun g cur fz hB hg => (Below.heap_setCell w ⟨k, i, none⟩ u g (by simp only; omega)).trans hg), owns_set h2 hk, rowsOwn_set h3 hk, b⟩
theorem NoteOwn.base {w : World} {B B' : Nat} {v : Value} {n : NoteD} (h : NoteOwn w B v n) (hB : B' ≤ B) : NoteOwn w B' v n := by
  obtain ⟨vn, vt, vr, e, h1, h2, ⟨vs, h3, h4, h5⟩, b⟩ := h
  refine ⟨vn, vt, vr, e, ?_, owns_base h2 hB, ⟨vs, owns_base h3 hB, h4, fun j x r hx hr => owns_base (h5 j x r hx hr) hB⟩, b⟩
  rcases h1 with h1 | ⟨g, o, cap, cur, fz, e1, e2, e3⟩
  · exact .inl h1
  · exact .inr ⟨g, o, cap, cur, fz, e1, Nat.le_trans hB e2, e3⟩
/-- A row of notes that grows leaves a note's parts alone. -/
theorem NoteOwn.other {w w' : World} {B B' m : Nat} {v u : Value} {n : NoteD} {size : Nat} {ys : List Value} (h : NoteOwn w B v n) (hu : w.ownsRow B' 36 size u m ys) (hg : w.grownBy w' u.ownBlock) : NoteOwn w' B v n := by
  obtain ⟨vn, vt, vr, e, h1, h2, ⟨vs, h3, h4, h5⟩, b⟩ := h
  refine ⟨vn, vt, vr, e, h1.kept (fun g cur fz _ hg2 => (hg.block g (lt_of_block hg2) ?_).trans hg2), owns_other h2 hu hg (by decide), ⟨vs, owns_other h3 hu hg (by decide), h4, fun j x r hx hr => owns_other (h5 j x r hx hr) hu hg (by decide)⟩, b⟩
  rcases hu.2 with ⟨rfl, _⟩ | ⟨g', cap', cur', rfl, f2, f3, f4⟩
  · simp [Value.ownBlock]
  · simp only [Value.ownBlock, ne_eq, Option.some.injEq]
    intro hgg
    subst hgg
    rw [hg2] at f3
    simp only [Option.some.injEq, Obj.cells.injEq] at f3
    exact absurd f3.2.1 (by decide)

theorem six_blocks (w : World) (o0 o1 o2 o3 o4 o5 : Obj) :
    ((((((w.alloc o0).alloc o1).alloc o2).alloc o3).alloc o4).alloc o5).heap[w.heap.size]? = some o0 ∧ ((((((w.alloc o0).alloc o1).alloc o2).alloc o3).alloc o4).alloc o5).heap[w.heap.size + 1]? = some o1 ∧
    ((((((w.alloc o0).alloc o1).alloc o2).alloc o3).alloc o4).alloc o5).heap[w.heap.size + 2]? = some o2 ∧ ((((((w.alloc o0).alloc o1).alloc o2).alloc o3).alloc o4).alloc o5).heap[w.heap.size + 3]? = some o3 ∧
    ((((((w.alloc o0).alloc o1).alloc o2).alloc o3).alloc o4).alloc o5).heap[w.heap.size + 4]? = some o4 ∧ ((((((w.alloc o0).alloc o1).alloc o2).alloc o3).alloc o4).alloc o5).heap[w.heap.size + 5]? = some o5 ∧
    Below w.heap.size w ((((((w.alloc o0).alloc o1).alloc o2).alloc o3).alloc o4).alloc o5) := by
  have keep : ∀ {w : World} {k : Nat} {x : Obj} (o : Obj), w.heap[k]? = some x → (w.alloc o).heap[k]? = some x := fun o h => (Below.heap_alloc _ o _ (lt_of_block h)).trans h
  have s1 : (w.alloc o0).heap.size = w.heap.size + 1 := by simp
  have s2 : ((w.alloc o0).alloc o1).heap.size = w.heap.size + 2 := by simp
  have s3 : (((w.alloc o0).alloc o1).alloc o2).heap.size = w.heap.size + 3 := by simp
  have s4 : ((((w.alloc o0).alloc o1).alloc o2).alloc o3).heap.size = w.heap.size + 4 := by simp
  have s5 : (((((w.alloc o0).alloc o1).alloc o2).alloc o3).alloc o4).heap.size = w.heap.size + 5 := by simp
  have g0 := box_at w o0
  have g1 := box_at (w.alloc o0) o1
  have g2 := box_at ((w.alloc o0).alloc o1) o2
  have g3 := box_at (((w.alloc o0).alloc o1).alloc o2) o3
  have g4 := box_at ((((w.alloc o0).alloc o1).alloc o2).alloc o3) o4
  have g5 := box_at (((((w.alloc o0).alloc o1).alloc o2).alloc o3).alloc o4) o5
  rw [s1] at g1
  rw [s2] at g2
  rw [s3] at g3
  rw [s4] at g4
  rw [s5] at g5
  exact ⟨keep _ (keep _ (keep _ (keep _ (keep _ g0)))), keep _ (keep _ (keep _ (keep _ g1))), keep _ (keep _ (keep _ g2)), keep _ (keep _ g3), keep _ g4, g5,
    ((((((Below.refl _ _).alloc (Nat.le_refl _) _).alloc (by omega) _).alloc (by omega) _).alloc (by omega) _).alloc (by omega) _).alloc (by omega) _⟩

theorem nInv_start (w : World) (l : List UInt8) (hl : l.length ≤ 1048576) :
    NInv w.heap.size w ((((((w.alloc (.cells #[.string ⟨l.toArray⟩] 9)).alloc (.cells #[.int .i64 0, .slice none 0 0, .slice none 0 0, .slice none 0 0] 36)).alloc (.cells #[.int .i64 0, .slice none 0 0, .slice none 0 0, .slice none 0 0] 36)).alloc
      (.cells #[.bool true] 4)).alloc (.cells #[takeF w.heap.size] 132)).alloc (.cells #[numF w.heap.size] 55)) ⟨l, true⟩ 0 (.slice none 0 0) (.slice none 0 0) (.slice none 0 0) [] [] [] := by
  obtain ⟨g0, g1, g2, g3, g4, g5, g6⟩ := six_blocks w (.cells #[.string ⟨l.toArray⟩] 9) (.cells #[.int .i64 0, .slice none 0 0, .slice none 0 0, .slice none 0 0] 36) (.cells #[.int .i64 0, .slice none 0 0, .slice none 0 0, .slice none 0 0] 36)
    (.cells #[.bool true] 4) (.cells #[takeF w.heap.size] 132) (.cells #[numF w.heap.size] 55)
  exact ⟨⟨g0, g3, g4, g5, hl⟩, g1, g2, ⟨rfl, .inl ⟨rfl, rfl⟩⟩, ⟨rfl, .inl ⟨rfl, rfl⟩⟩, ⟨[], ⟨rfl, .inl ⟨rfl, rfl⟩⟩, rfl, by simp⟩, g6⟩
end Go.Proofs.Ytifmpcldiimdbaa

namespace Go.Proofs.Ytifmpcldiimdbaa
open Go.RowKit

theorem infoInt : (Try.prog.info? 3).map (fun i => (i.zero, i.size, i.bytes)) = some (some (.int .i64 0), 1, 8) := by kernel_rfl
theorem infoRow : (Try.prog.info? 27).map (fun i => (i.zero, i.size, i.bytes)) = some (some (.slice none 0 0), 1, 24) := by kernel_rfl

theorem NInv.done {b : Nat} {w0 w : World} {s : St} {kind : Int} {vn vt vr : Value} {nums : List Int} {texts : List (List UInt8)} {rows : List (List (List UInt8))} (h : NInv b w0 w s kind vn vt vr nums texts rows) (u0 u1 u2 u3 : Value)
    (h1 : nums.length ≤ 64) (h2 : texts.length ≤ 4096) (h3 : rows.length ≤ 4096) (h4 : ∀ r ∈ rows, r.length ≤ 4096) :
    NoteOwn ((((w.setCell ⟨b + 1, 0, none⟩ u0).setCell ⟨b + 1, 1, none⟩ u1).setCell ⟨b + 1, 2, none⟩ u2).setCell ⟨b + 1, 3, none⟩ u3) b (.agg #[.int .i64 kind, vn, vt, vr]) ⟨kind, nums, texts, rows⟩ ∧
    Below b w0 ((((w.setCell ⟨b + 1, 0, none⟩ u0).setCell ⟨b + 1, 1, none⟩ u1).setCell ⟨b + 1, 2, none⟩ u2).setCell ⟨b + 1, 3, none⟩ u3) := by
  obtain ⟨_, _, _, on, ot, orr, bel⟩ := h
  have on2 := owns_set (u := u3) (i := 3) (k := b + 1) (owns_set (u := u2) (i := 2) (k := b + 1) (owns_set (u := u1) (i := 1) (k := b + 1) (owns_set (u := u0) (i := 0) (k := b + 1) on (by omega)) (by omega)) (by omega)) (by omega)
  have ot2 := owns_set (u := u3) (i := 3) (k := b + 1) (owns_set (u := u2) (i := 2) (k := b + 1) (owns_set (u := u1) (i := 1) (k := b + 1) (owns_set (u := u0) (i := 0) (k := b + 1) ot (by omega)) (by omega)) (by omega)) (by omega)
  have or2 := rowsOwn_set (u := u3) (i := 3) (k := b + 1) (rowsOwn_set (u := u2) (i := 2) (k := b + 1) (rowsOwn_set (u := u1) (i := 1) (k := b + 1) (rowsOwn_set (u := u0) (i := 0) (k := b + 1) orr (by omega)) (by omega)) (by omega)) (by omega)
  refine ⟨NoteOwn.base (B := b + 6) ⟨vn, vt, vr, rfl, rowIn_own (by rw [intCs_len]; exact on2), ot2, or2, h1, h2, h3, h4⟩ (by omega), (((bel.setCell (by simp only; omega) _).setCell (by simp only; omega) _).setCell (by simp only; omega) _).setCell (by simp only; omega) _⟩

theorem own_slice {w : World} {B n : Nat} {e : TypeId} {size : Nat} {v : Value} {xs : List Value} (h : w.ownsRow B e size v n xs) : ∃ ao cap, v = .slice ao n cap := by
  rcases h.2 with ⟨rfl, rfl⟩ | ⟨g, cap, cur, rfl, _⟩
  · exact ⟨_, _, rfl⟩
  · exact ⟨_, _, rfl⟩
theorem own_oneCell {w : World} {B n : Nat} {e : TypeId} {size : Nat} {v : Value} {xs : List Value} (h : w.ownsRow B e size v n xs) : v.oneCell' = true := by
  rcases h.2 with ⟨rfl, _⟩ | ⟨g, cap, cur, rfl, _⟩ <;> rfl

theorem nums_snoc (i : Nat) (s : St) : (numsS (i + 1) s).1.map Int.ofNat = (numsS i s).1.map Int.ofNat ++ [((numP (numsS i s).2.b).1 : Int)] := by
  rw [numsS, List.map_append]; rfl

set_option maxHeartbeats 4000000 in
set_option maxRecDepth 100000 in
theorem noteOf_any (l : List UInt8) (w : World) (hl : l.length ≤ 1048576) :
    Calls Try.prog 83 #[.string ⟨l.toArray⟩] w fun e w' => Below w.heap.size w w' ∧
      ((∃ n v, readP l = some n ∧ e = .returned (.tuple #[v, .int .i64 0]) ∧ NoteOwn w' w.heap.size v n) ∨ (readP l = none ∧ e = .returned (.tuple #[zeroN, .int .i64 31]))) := by
  have N0 := Hid.mk (nInv_start w l hl)
  have hst : ∀ (a : Addr) (m : Mode) (w : World) (fn : Fn) (f c : Array Value), (store a (.func fn f c) m).run Try.prog w = stored Try.prog w a (.func fn f c) m := fun a m w fn f c => run_store Try.prog w a _ m rfl
  obtain ⟨i0, hi0, hz0, hz1, hz2⟩ := info_parts infoInt
  obtain ⟨j0, hj0, hy0, hy1, hy2⟩ := info_parts infoRow
  go_enter Try.func83, Try.ntmps83
  go_wp2_with fail
  refine (numRead_any w.heap.size _ ⟨l, true⟩ N0.out.r).mono ?_
  rintro e w1 ⟨rfl, hr1, hs1⟩
  rw [← rd1] at hr1
  have n1 := N0.out.side hr1 hs1
  obtain ⟨⟨d0, d1, d2, d3⟩, ⟨f0, f1, f2, f3⟩⟩ := four_cells n1.nb
  have N1 := Hid.mk (n1.setKind (numP l).1)
  clear hst N0 hr1 hs1 n1
  obtain ⟨K, hK⟩ : ∃ K, K = (numP l).1 := ⟨_, rfl⟩
  rw [← hK] at N1 ⊢
  have HK := Hid.mk hK
  clear hK
  go_wp2_with fail
  refine (countRead_any w.heap.size _ (rd1 l) 64 N1.out.r).mono ?_
  rintro e w2 ⟨rfl, hr2, hs2⟩
  rw [← rd2] at hr2 ⊢
  have N2 := Hid.mk (N1.out.side hr2 hs2)
  have hc64 : (rd2 l).1 ≤ 64 := by unfold rd2 St.count; split <;> simp only <;> omega
  obtain ⟨C, hC⟩ : ∃ C, C = (rd2 l).1 := ⟨_, rfl⟩
  rw [← hC] at hc64 ⊢
  have HC := Hid.mk hC
  clear hC hr2 hs2 N1 d0 d1 d2 d3 f0 f1 f2 f3
  go_wp2
  go_loopw [19] (fun c wr => ∃ (i : Nat) (vn : Value), i ≤ C ∧ c = .int .i64 i ∧ NInv w.heap.size w wr (numsS i (rd2 l).2).2 K vn (.slice none 0 0) (.slice none 0 0) ((numsS i (rd2 l).2).1.map Int.ofNat) [] []) (fun c _ => C - (intOf c).toNat)
  case atStart => exact ⟨0, _, Nat.zero_le _, rfl, N2.out⟩
  case round =>
    obtain ⟨i, vn, hi, rfl, hin⟩ := hrel
    have HI := Hid.mk hin
    clear hin N2
    by_cases hlt : i < C
    · have hltI : (i : Int) < (C : Int) := by omega
      have hnl : ((numsS i (rd2 l).2).1.map Int.ofNat).length = i := by rw [List.length_map, numsS_len]
      obtain ⟨⟨d0, d1, d2, d3⟩, ⟨f0, f1, f2, f3⟩⟩ := four_cells HI.out.nb
      have c5 := cell_of_one HI.out.r.num
      go_wp2_with fail
      go_region_law (first
          | (go_simp; refine (numRead_any w.heap.size _ _ HI.out.drew.r).mono ?_; rintro e w3 ⟨rfl, hr3, hs3⟩; have n3 := HI.out.drew.side hr3 hs3; have c6 := cell_of_one hr3.num; have hlt2 : w.heap.size + 1 + 1 < w3.heap.size := lt_of_block n3.nb; obtain ⟨⟨e0, e1, e2, e3⟩, ⟨k0, k1, k2, k3⟩⟩ := four_cells n3.nb)
          | (refine step_append_lies _ (by rfl) _ _ _ (by rfl) (w.heap.size + 6) 3 i0 _ 1 8 Try.underlying33 hi0 hz0 hz1 hz2 rfl (by omega) vn _ _ (by rfl) (n3.on.alloc _) ⟨w3.heap.size, 0, none⟩ 1 1 [.int .i64 _] (by rfl) (by rfl) (World.news_of_block (cs := #[.int .i64 _]) (t := 3) (fr := (0, 0)) (heap_alloc_new w3 _)) (by simp [Value.oneCell']) (by omega) (by rw [hnl]; unfold maxLen; omega) (by rw [hnl]; omega) (by have := lt_of_block n3.r.num; simp; omega) (w3.heap.size + 1) (by simp) ?_; intro gg cap w4 hown4 hgrow hat hlt4; have n4 := n3.below ((Below.refl _ _).alloc (Nat.le_refl _) (Obj.cells #[Value.int .i64 (numP (numsS i (rd2 l).2).2.b).1] 3)); obtain ⟨q1, q2, q3, q4⟩ := n4.grownNums hgrow; have c7 := cell_of_one q1.num; obtain ⟨⟨m0, m1, m2, m3⟩, ⟨j1, j2, j3, j4⟩⟩ := four_cells q3))
      all_goals (
        have n5 := n4.addNum hgrow hown4
        rw [← nums_snoc, hnl] at n5
        have N5 := Hid.mk n5
        clear n5 n4 hgrow hown4 hat hlt4 q1 q2 q3 q4 c7 m0 m1 m2 m3 j1 j2 j3 j4 hr3 hs3 n3 c6 hlt2 e0 e1 e2 e3 k0 k1 k2 k3 d0 d1 d2 d3 f0 f1 f2 f3 c5 HI hnl
        go_wp2
        go_roundw
        case rel => exact ⟨i + 1, _, by omega, by go_num, N5.out⟩
        case measure => simp [intOf]; omega)
    · have hie : i = C := by omega
      subst hie
      have hin := HI.out
      rw [HC.out, ← rd3] at hin
      have hn64 : ((rd3 l).1.map Int.ofNat).length ≤ 64 := by rw [List.length_map, rd3, numsS_len, ← HC.out]; exact hc64
      have N6 := Hid.mk hin
      have HN64 := Hid.mk hn64
      clear hin HI hn64
      obtain ⟨W6, hW6⟩ : ∃ W, W = wr := ⟨_, rfl⟩
      subst hW6
      go_wp2_with fail
      refine (listRead_any w.heap.size _ (rd3 l).2 N6.out.r).mono ?_
      rintro e w7 ⟨vt, rfl, ho7, hr7, hs7⟩
      rw [← rd4] at hr7
      obtain ⟨at7, cp7, rfl⟩ := own_slice ho7
      have n7 := N6.out.side hr7 hs7
      obtain ⟨⟨d0, d1, d2, d3⟩, ⟨f0, f1, f2, f3⟩⟩ := four_cells n7.nb
      have N7 := Hid.mk (n7.setTexts ho7)
      have HTL : Hid ((listP (rd3 l).2.b).1.length ≤ 4096) := Hid.mk (listP_len _)
      obtain ⟨TS, hTS⟩ : ∃ TS, TS = (listP (rd3 l).2.b).1 := ⟨_, rfl⟩
      rw [← hTS] at N7 HTL ⊢
      have HTS := Hid.mk hTS
      clear hTS n7 ho7 hr7 hs7 N6
      go_wp2_with fail
      refine (countRead_any w.heap.size _ (rd4 l) 4096 N7.out.r).mono ?_
      rintro e w8 ⟨rfl, hr8, hs8⟩
      rw [← rd5] at hr8 ⊢
      have N8 := Hid.mk (N7.out.side hr8 hs8)
      have hc4 : (rd5 l).1 ≤ 4096 := by unfold rd5 St.count; split <;> simp only <;> omega
      obtain ⟨D, hD⟩ : ∃ C, C = (rd5 l).1 := ⟨_, rfl⟩
      rw [← hD] at hc4 ⊢
      have HD := Hid.mk hD
      clear hD hr8 hs8 N7 d0 d1 d2 d3 f0 f1 f2 f3 hlt hi
      go_wp2
      go_loopw [34] (fun c wr => ∃ (j : Nat) (vr : Value), j ≤ D ∧ c = .int .i64 j ∧ NInv w.heap.size w wr (rowsS j (rd5 l).2).2 K vn (.slice at7 TS.length cp7) vr ((rd3 l).1.map Int.ofNat) TS (rowsS j (rd5 l).2).1) (fun c _ => D - (intOf c).toNat)
      case atStart => exact ⟨0, _, Nat.zero_le _, rfl, N8.out⟩
      case round =>
        obtain ⟨j, vr, hj, rfl, hin⟩ := hrel
        have HI := Hid.mk hin
        clear hin N8
        by_cases hlt : j < D
        · have hltI : (j : Int) < (D : Int) := by omega
          have hnl : (rowsS j (rd5 l).2).1.length = j := rowsS_len _ _
          obtain ⟨⟨d0, d1, d2, d3⟩, ⟨f0, f1, f2, f3⟩⟩ := four_cells HI.out.nb
          go_wp2_with fail
          go_region_law (first
              | (refine step_append_lies _ (by rfl) _ _ _ (by rfl) (w.heap.size + 6) 27 j0 _ 1 24 Try.underlying34 hj0 hy0 hy1 hy2 rfl (by omega) vr _ _ (by rfl) (hvs1.alloc _) ⟨w3.heap.size, 0, none⟩ 1 1 [.slice at3 _ cp3] (by rfl) (by rfl) (World.news_of_block (cs := #[.slice at3 _ cp3]) (t := 27) (fr := (0, 0)) (heap_alloc_new w3 _)) (by intro u hu; rw [List.mem_singleton] at hu; rw [hu]; exact hx1) (by omega) (by rw [hnl]; unfold maxLen; omega) (by rw [hnl]; omega) (by have := lt_of_block n3.r.num; simp; omega) (w3.heap.size + 1) (by simp) ?_; intro gg cap w4 hown4 hgrow hat hlt4; have n4 := n3.below ((Below.refl _ _).alloc (Nat.le_refl _) (Obj.cells #[.slice at3 (listP (rowsS j (rd5 l).2).2.b).1.length cp3] 27)); obtain ⟨q1, q2, q3, q4⟩ := n4.grownRows (hvs1.alloc _) hgrow; obtain ⟨⟨m0, m1, m2, m3⟩, ⟨j1, j2, j3, j4⟩⟩ := four_cells q3)
              | (go_simp; refine (listRead_any w.heap.size _ _ HI.out.drew.r).mono ?_; rintro e w3 ⟨x3, rfl, ho3, hr3, hs3⟩; obtain ⟨at3, cp3, hx3⟩ := own_slice ho3; subst hx3; have n3 := HI.out.drew.side hr3 hs3; have hlt2 : w.heap.size + 1 + 1 < w3.heap.size := lt_of_block n3.nb; obtain ⟨⟨e0, e1, e2, e3⟩, ⟨k0, k1, k2, k3⟩⟩ := four_cells n3.nb; have hx1 := own_oneCell ho3; obtain ⟨vs, hvs1, hvs2, hvs3⟩ := n3.orr))
          all_goals (
            have n5 := n4.addRow (hvs1.alloc _) hvs2 (fun a x r h1 h2 => (hvs3 a x r h1 h2).alloc _) (ho3.alloc _) hgrow hown4
            rw [hnl] at n5
            have N5 := Hid.mk n5
            clear n5 n4 hgrow hown4 hat hlt4 q1 q2 q3 q4 m0 m1 m2 m3 j1 j2 j3 j4 hr3 hs3 n3 ho3 hx1 hvs1 hvs2 hvs3 hlt2 e0 e1 e2 e3 k0 k1 k2 k3 d0 d1 d2 d3 f0 f1 f2 f3 HI hnl
            go_wp2
            go_roundw
            case rel => exact ⟨j + 1, _, by omega, by go_num, N5.out⟩
            case measure => simp [intOf]; omega)
        · have hje : j = D := by omega
          subst hje
          have hin := HI.out
          rw [HD.out, ← rd6] at hin
          obtain ⟨avn, lvn, cvn, rfl⟩ : ∃ ao le cap, vn = .slice ao le cap := by obtain ⟨a, c, h⟩ := own_slice hin.on; exact ⟨a, _, c, h⟩
          obtain ⟨avr, lvr, cvr, rfl⟩ : ∃ ao le cap, vr = .slice ao le cap := by obtain ⟨vs, h1, _⟩ := hin.orr; obtain ⟨a, c, h⟩ := own_slice h1; exact ⟨a, _, c, h⟩
          have hrl : (rd6 l).1.length ≤ 4096 := by rw [rd6, rowsS_len, ← HD.out]; exact hc4
          have hrs : ∀ r ∈ (rd6 l).1, r.length ≤ 4096 := rowsS_sane _ _
          have hnote := hin.note HN64.out HTL.out hrl hrs
          have eN : (⟨(K : Int), (rd3 l).1.map Int.ofNat, TS, (rd6 l).1⟩ : NoteD) = rdNote l := by rw [rdNote, HTS.out, HK.out]
          rw [eN] at hnote
          have NN := Hid.mk hnote
          have HEN := Hid.mk eN
          have HRL := Hid.mk hrl
          have HRS := Hid.mk hrs
          have N9 := Hid.mk hin
          have c0 := cell_of_one hin.r.body
          have c3 := cell_of_one hin.r.whole
          obtain ⟨⟨d0, d1, d2, d3⟩, _⟩ := four_cells hin.nb
          obtain ⟨⟨r0, r1, r2, r3⟩, ⟨f0, f1, f2, f3⟩⟩ := four_cells hin.res
          obtain ⟨W9, hW9⟩ : ∃ W, W = wr := ⟨_, rfl⟩
          subst hW9
          have hne := Hid.mk (show w.heap.size + 2 ≠ w.heap.size + 1 by omega)
          clear hin hrl hrs hnote eN HI hlt hj hc4 hc64 hi0 hz0 hz1 hz2 hj0 hy0 hy1 hy2
          rcases rd_read l hl with ⟨⟨g1, g2, g3, g4⟩, hread⟩ | ⟨hno, hread⟩
          · have HREAD := Hid.mk hread
            have e3 : Hid (decide (rdNote l).numsOk = true) := Hid.mk (decide_eq_true g3)
            have e4 : Hid (decide (rdNote l).textsFit = true) := Hid.mk (decide_eq_true g4)
            rw [g2] at c0
            rw [g1] at c3
            clear g1 g2 g3 g4 hread
            go_wp2_with fail
            refine (numsMayBe_any _ (rdNote l) _ NN.out).mono ?_
            rintro e w10 ⟨rfl, hb10⟩
            rw [e3.out]
            have N10 := Hid.mk (N9.out.below hb10)
            have NN10 := Hid.mk (NN.out.below hb10)
            clear hb10 c0 c3 d0 d1 d2 d3 r0 r1 r2 r3 f0 f1 f2 f3
            obtain ⟨⟨d0, d1, d2, d3⟩, _⟩ := four_cells N10.out.nb
            go_wp2_with fail
            refine (textsMayBe_any _ (rdNote l) _ NN10.out (rd_sane l)).mono ?_
            rintro e w11 ⟨rfl, hb11⟩
            rw [e4.out]
            have N11 := Hid.mk (N10.out.below hb11)
            have NN11 := Hid.mk (NN10.out.below hb11)
            clear hb11 d0 d1 d2 d3
            obtain ⟨⟨d0, d1, d2, d3⟩, _⟩ := four_cells N11.out.nb
            obtain ⟨⟨r0, r1, r2, r3⟩, ⟨f0, f1, f2, f3⟩⟩ := four_cells N11.out.res
            obtain ⟨⟨z0, z1, z2, z3⟩, _⟩ := four_cells (four_set3 (v := .slice avr lvr cvr) (four_set2 (v := .slice at7 TS.length cp7) (four_set1 (v := .slice avn lvn cvn) (four_set0 (v := .int .i64 K) N11.out.res))))
            have Z0 := Hid.mk z0
            have Z1 := Hid.mk z1
            have Z2 := Hid.mk z2
            have Z3 := Hid.mk z3
            clear z0 z1 z2 z3
            have D11 := Hid.mk (N11.out.done (.int .i64 K) (.slice avn lvn cvn) (.slice at7 TS.length cp7) (.slice avr lvr cvr) HN64.out HTL.out HRL.out HRS.out)
            rw [HEN.out] at D11
            go_wp2
            refine bodyPost_ret (v := .tuple #[.agg #[.int .i64 K, .slice avn lvn cvn, .slice at7 TS.length cp7, .slice avr lvr cvr], .int .i64 0]) ?_ rfl ⟨D11.out.2, .inl ⟨rdNote l, _, HREAD.out, rfl, D11.out.1⟩⟩
            simp [results, Try.results83, go_sem, Z0.out, Z1.out, Z2.out, Z3.out]
          · have HREAD := Hid.mk hread
            clear hread
            cases hok : (rd6 l).2.ok with
            | false =>
              rw [hok] at c3
              clear hok hno r0 r1 r2 r3 f0 f1 f2 f3
              obtain ⟨⟨z0, z1, z2, z3⟩, _⟩ := four_cells (four_set3 (v := .slice none 0 0) (four_set2 (v := .slice none 0 0) (four_set1 (v := .slice none 0 0) (four_set0 (v := .int .i64 0) N9.out.res))))
              obtain ⟨⟨r0, r1, r2, r3⟩, ⟨f0, f1, f2, f3⟩⟩ := four_cells N9.out.res
              have DX := Hid.mk (N9.out.done (.int .i64 0) (.slice none 0 0) (.slice none 0 0) (.slice none 0 0) HN64.out HTL.out HRL.out HRS.out).2
              have Z0 := Hid.mk z0
              have Z1 := Hid.mk z1
              have Z2 := Hid.mk z2
              have Z3 := Hid.mk z3
              clear z0 z1 z2 z3
              go_wp2
              refine bodyPost_ret (v := .tuple #[zeroN, .int .i64 31]) ?_ rfl ⟨DX.out, .inr ⟨HREAD.out, rfl⟩⟩
              simp [results, Try.results83, go_sem, Z0.out, Z1.out, Z2.out, Z3.out]
            | true =>
              rw [hok] at c3
              by_cases hbe : (rd6 l).2.b = []
              · rw [hbe] at c0
                by_cases hnum : (rdNote l).numsOk
                · have e3 : Hid (decide (rdNote l).numsOk = true) := Hid.mk (decide_eq_true hnum)
                  have e4 : Hid (decide (rdNote l).textsFit = false) := Hid.mk (decide_eq_false (fun h => hno ⟨hok, hbe, hnum, h⟩))
                  clear hok hbe hnum hno
                  go_wp2_with fail
                  refine (numsMayBe_any _ (rdNote l) _ NN.out).mono ?_
                  rintro e w10 ⟨rfl, hb10⟩
                  rw [e3.out]
                  have N10 := Hid.mk (N9.out.below hb10)
                  have NN10 := Hid.mk (NN.out.below hb10)
                  clear hb10 c0 c3 d0 d1 d2 d3 r0 r1 r2 r3 f0 f1 f2 f3
                  obtain ⟨⟨d0, d1, d2, d3⟩, _⟩ := four_cells N10.out.nb
                  go_wp2_with fail
                  refine (textsMayBe_any _ (rdNote l) _ NN10.out (rd_sane l)).mono ?_
                  rintro e w11 ⟨rfl, hb11⟩
                  rw [e4.out]
                  have N11 := Hid.mk (N10.out.below hb11)
                  clear hb11 d0 d1 d2 d3
                  obtain ⟨⟨z0, z1, z2, z3⟩, _⟩ := four_cells (four_set3 (v := .slice none 0 0) (four_set2 (v := .slice none 0 0) (four_set1 (v := .slice none 0 0) (four_set0 (v := .int .i64 0) N11.out.res))))
                  obtain ⟨⟨r0, r1, r2, r3⟩, ⟨f0, f1, f2, f3⟩⟩ := four_cells N11.out.res
                  have DX := Hid.mk (N11.out.done (.int .i64 0) (.slice none 0 0) (.slice none 0 0) (.slice none 0 0) HN64.out HTL.out HRL.out HRS.out).2
                  have Z0 := Hid.mk z0
                  have Z1 := Hid.mk z1
                  have Z2 := Hid.mk z2
                  have Z3 := Hid.mk z3
                  clear z0 z1 z2 z3
                  go_wp2
                  refine bodyPost_ret (v := .tuple #[zeroN, .int .i64 31]) ?_ rfl ⟨DX.out, .inr ⟨HREAD.out, rfl⟩⟩
                  simp [results, Try.results83, go_sem, Z0.out, Z1.out, Z2.out, Z3.out]
                · have e3 : Hid (decide (rdNote l).numsOk = false) := Hid.mk (decide_eq_false hnum)
                  clear hok hbe hnum hno
                  go_wp2_with fail
                  refine (numsMayBe_any _ (rdNote l) _ NN.out).mono ?_
                  rintro e w10 ⟨rfl, hb10⟩
                  rw [e3.out]
                  have N10 := Hid.mk (N9.out.below hb10)
                  clear hb10 c0 c3 d0 d1 d2 d3 r0 r1 r2 r3 f0 f1 f2 f3
                  obtain ⟨⟨z0, z1, z2, z3⟩, _⟩ := four_cells (four_set3 (v := .slice none 0 0) (four_set2 (v := .slice none 0 0) (four_set1 (v := .slice none 0 0) (four_set0 (v := .int .i64 0) N10.out.res))))
                  obtain ⟨⟨r0, r1, r2, r3⟩, ⟨f0, f1, f2, f3⟩⟩ := four_cells N10.out.res
                  have DX := Hid.mk (N10.out.done (.int .i64 0) (.slice none 0 0) (.slice none 0 0) (.slice none 0 0) HN64.out HTL.out HRL.out HRS.out).2
                  have Z0 := Hid.mk z0
                  have Z1 := Hid.mk z1
                  have Z2 := Hid.mk z2
                  have Z3 := Hid.mk z3
                  clear z0 z1 z2 z3
                  go_wp2
                  refine bodyPost_ret (v := .tuple #[zeroN, .int .i64 31]) ?_ rfl ⟨DX.out, .inr ⟨HREAD.out, rfl⟩⟩
                  simp [results, Try.results83, go_sem, Z0.out, Z1.out, Z2.out, Z3.out]
              · have hbe2 : ((rd6 l).2.b == []) = false := by rw [beq_eq_false_iff_ne]; exact hbe
                clear hok hno r0 r1 r2 r3 f0 f1 f2 f3
                obtain ⟨⟨z0, z1, z2, z3⟩, _⟩ := four_cells (four_set3 (v := .slice none 0 0) (four_set2 (v := .slice none 0 0) (four_set1 (v := .slice none 0 0) (four_set0 (v := .int .i64 0) N9.out.res))))
                obtain ⟨⟨r0, r1, r2, r3⟩, ⟨f0, f1, f2, f3⟩⟩ := four_cells N9.out.res
                have DX := Hid.mk (N9.out.done (.int .i64 0) (.slice none 0 0) (.slice none 0 0) (.slice none 0 0) HN64.out HTL.out HRL.out HRS.out).2
                have Z0 := Hid.mk z0
                have Z1 := Hid.mk z1
                have Z2 := Hid.mk z2
                have Z3 := Hid.mk z3
                clear z0 z1 z2 z3
                go_wp2
                refine bodyPost_ret (v := .tuple #[zeroN, .int .i64 31]) ?_ rfl ⟨DX.out, .inr ⟨HREAD.out, rfl⟩⟩
                simp [results, Try.results83, go_sem, Z0.out, Z1.out, Z2.out, Z3.out]
end Go.Proofs.Ytifmpcldiimdbaa

namespace Go.Proofs.Ytifmpcldiimdbaa
open Go.RowKit

/-- The end of an Unpack. -/
def UEnd (l : List UInt8) (w : World) (e : Ending) (w' : World) : Prop :=
  ∃ v, e = .returned (.tuple #[v, .int .i64 ((unpackP l).2.1 : Int), .int .i64 ((unpackP l).2.2 : Int)]) ∧ NoteOwn w' w.heap.size v (unpackP l).1 ∧ Below w.heap.size w w'
theorem uEnd_of {l : List UInt8} {w w' : World} {v : Value} {n : NoteD} {k e : Nat} (h : unpackP l = (n, k, e)) (h1 : NoteOwn w' w.heap.size v n) (h2 : Below w.heap.size w w') :
    UEnd l w (.returned (.tuple #[v, .int .i64 (k : Int), .int .i64 (e : Int)])) w' := by
  unfold UEnd; rw [h]; exact ⟨v, rfl, h1, h2⟩

theorem extract_to (l : List UInt8) (k : Nat) : (⟨l.toArray⟩ : ByteArray).extract 0 k = ⟨(l.take k).toArray⟩ := by
  apply bytes_ext
  simp [ByteArray.data_extract]

theorem unpackP_1 {l : List UInt8} (h : l.length < 8) : unpackP l = (.none, 0, 11) := if_pos h
theorem unpackP_2 {l : List UInt8} (h : ¬ l.length < 8) (h2 : 1048576 < fourN l) : unpackP l = (.none, 0, 31) := by rw [unpackP, if_neg h, if_pos h2]
theorem unpackP_3 {l : List UInt8} (h : ¬ l.length < 8) (h2 : ¬ 1048576 < fourN l) (h3 : l.length - 8 < fourN l) : unpackP l = (.none, 0, 11) := by rw [unpackP, if_neg h, if_neg h2, if_pos h3]
theorem unpackP_4 {l : List UInt8} (h : ¬ l.length < 8) (h2 : ¬ 1048576 < fourN l) (h3 : ¬ l.length - 8 < fourN l) (h4 : sumN ((l.drop 8).take (fourN l)) ≠ fourN (l.drop 4)) : unpackP l = (.none, 0, 30) := by
  rw [unpackP, if_neg h, if_neg h2, if_neg h3, if_pos h4]
theorem unpackP_5 {l : List UInt8} (h : ¬ l.length < 8) (h2 : ¬ 1048576 < fourN l) (h3 : ¬ l.length - 8 < fourN l) (h4 : sumN ((l.drop 8).take (fourN l)) = fourN (l.drop 4)) (h5 : readP ((l.drop 8).take (fourN l)) = none) : unpackP l = (.none, 0, 31) := by
  rw [unpackP, if_neg h, if_neg h2, if_neg h3, if_neg (by simpa using h4), h5]
theorem unpackP_6 {l : List UInt8} {n : NoteD} (h : ¬ l.length < 8) (h2 : ¬ 1048576 < fourN l) (h3 : ¬ l.length - 8 < fourN l) (h4 : sumN ((l.drop 8).take (fourN l)) = fourN (l.drop 4)) (h5 : readP ((l.drop 8).take (fourN l)) = some n) : unpackP l = (n, 8 + fourN l, 0) := by
  rw [unpackP, if_neg h, if_neg h2, if_neg h3, if_neg (by simpa using h4), h5]

/-- The world with the result's variable. -/
abbrev resW (w : World) : World := w.alloc (.cells #[.int .i64 0, .slice none 0 0, .slice none 0 0, .slice none 0 0] 36)

/-- A note's four cells stored. -/
abbrev set4 (w : World) (b : Nat) (u0 u1 u2 u3 : Value) : World := (((w.setCell ⟨b, 0, none⟩ u0).setCell ⟨b, 1, none⟩ u1).setCell ⟨b, 2, none⟩ u2).setCell ⟨b, 3, none⟩ u3
theorem set4_block {w : World} {b : Nat} {c0 c1 c2 c3 : Value} {t : TypeId} (h : w.heap[b]? = some (.cells #[c0, c1, c2, c3] t (0, 0))) (u0 u1 u2 u3 : Value) : (set4 w b u0 u1 u2 u3).heap[b]? = some (.cells #[u0, u1, u2, u3] t (0, 0)) :=
  four_set3 (four_set2 (four_set1 (four_set0 h)))
theorem set4_below {a w : World} {B b : Nat} (h : Below B a w) (hb : B ≤ b) (u0 u1 u2 u3 : Value) : Below B a (set4 w b u0 u1 u2 u3) :=
  (((h.setCell (p := ⟨b, 0, none⟩) hb _).setCell (p := ⟨b, 1, none⟩) hb _).setCell (p := ⟨b, 2, none⟩) hb _).setCell (p := ⟨b, 3, none⟩) hb _
theorem set4_own {w : World} {B b : Nat} {v : Value} {n : NoteD} (h : NoteOwn w B v n) (hb : b < B) (u0 u1 u2 u3 : Value) : NoteOwn (set4 w b u0 u1 u2 u3) B v n := (((h.set hb).set hb).set hb).set hb
theorem own_parts {w : World} {B : Nat} {v : Value} {n : NoteD} (h : NoteOwn w B v n) : ∃ a0 l0 c0 a1 l1 c1 a2 l2 c2, v = .agg #[.int .i64 n.kind, .slice a0 l0 c0, .slice a1 l1 c1, .slice a2 l2 c2] := by
  obtain ⟨vn, vt, vr, rfl, h1, h2, ⟨vs, h3, _⟩, _⟩ := h
  obtain ⟨a0, l0, c0, rfl⟩ := h1.slice
  obtain ⟨a1, c1, rfl⟩ := own_slice h2
  obtain ⟨a2, c2, rfl⟩ := own_slice h3
  exact ⟨_, _, _, _, _, _, _, _, _, rfl⟩
theorem res_below {w w1 : World} (h : Below (w.heap.size + 1) (resW w) w1) : Below w.heap.size w w1 := ((Below.refl _ _).alloc (Nat.le_refl _) _).trans (h.mono (by omega))
theorem res_block {w w1 : World} (h : Below (w.heap.size + 1) (resW w) w1) : w1.heap[w.heap.size]? = some (.cells #[.int .i64 0, .slice none 0 0, .slice none 0 0, .slice none 0 0] 36 (0, 0)) := (h.block _ (by omega)).trans (box_at w _)

theorem keepB {N : Nat} {A w1 w2 : World} (h : Below N A w1) (hb : Below w1.heap.size w1 w2) (hN : N ≤ A.heap.size) : Below N A w2 := h.trans (hb.mono (Nat.le_trans hN h.size))

set_option maxHeartbeats 1000000 in
set_option maxRecDepth 100000 in
theorem unpack_any (l : List UInt8) (w : World) (hl : l.length ≤ 140737488351232) :
    Calls Try.prog 72 #[.string ⟨l.toArray⟩] w (UEnd l w) := by
  have hsz := size_list l
  by_cases h8 : l.length < 8
  · have hE : UEnd l w (.returned (.tuple #[zeroN, .int .i64 0, .int .i64 11])) (resW w) := uEnd_of (unpackP_1 h8) (zeroN_own _ _) ((Below.refl _ _).alloc (Nat.le_refl _) _)
    have HE := Hid.mk hE
    clear hE
    go_enter Try.func72, Try.ntmps72
    go_wp2
    refine bodyPost_ret (v := .tuple #[zeroN, .int .i64 0, .int .i64 11]) ?_ rfl HE.out
    simp [results, Try.results72, go_sem]
  · have hx4 := extract_from l 4
    have hx8 := extract_from l 8
    rw [hsz] at hx4 hx8
    obtain ⟨l4, hl4⟩ : ∃ l4, l4 = l.drop 4 := ⟨_, rfl⟩
    obtain ⟨l8, hl8⟩ : ∃ l8, l8 = l.drop 8 := ⟨_, rfl⟩
    rw [← hl4] at hx4
    rw [← hl8] at hx8
    have h48 : 4 ≤ l4.length := by rw [hl4, List.length_drop]; omega
    have h8L : l8.length = l.length - 8 := by rw [hl8, List.length_drop]
    have hs8 := size_list l8
    have HL4 := Hid.mk hl4
    have HL8 := Hid.mk hl8
    clear hl4 hl8
    have h4I : (4 : Int) ≤ (l.length : Int) := by omega
    have h8I : (8 : Int) ≤ (l.length : Int) := by omega
    have C1 : Hid (∀ w, Calls Try.prog 82 #[.string ⟨l.toArray⟩] w fun e w' => e = .returned (.int .i64 (fourN l)) ∧ Below w.heap.size w w') := Hid.mk (fun w => by
      have := four_any ⟨l.toArray⟩ w (by rw [hsz]; omega)
      rw [data_list] at this; exact this)
    have C2 : Hid (∀ w, Calls Try.prog 82 #[.string ⟨l4.toArray⟩] w fun e w' => e = .returned (.int .i64 (fourN l4)) ∧ Below w.heap.size w w') := Hid.mk (fun w => by
      have := four_any ⟨l4.toArray⟩ w (by rw [size_list]; exact h48)
      rw [data_list] at this; exact this)
    obtain ⟨k, hk⟩ : ∃ k, k = fourN l := ⟨_, rfl⟩
    obtain ⟨x, hx⟩ : ∃ x, x = fourN l4 := ⟨_, rfl⟩
    rw [← hk] at C1
    rw [← hx] at C2
    have HK := Hid.mk hk
    have HX := Hid.mk hx
    have hRN : w.heap.size + 1 ≤ (resW w).heap.size := by simp
    have HRN := Hid.mk hRN
    clear hRN
    clear hk hx
    go_enter Try.func72, Try.ntmps72
    go_wp2_with fail
    go_region_held (fun w' => Below (w.heap.size + 1) (resW w) w')
      (first | exact (Below.refl _ _).drew | exact keepB (by assumption) (by assumption) HRN.out)
      (first
        | (go_at_call_of 82 l4; refine (C2.out _).mono ?_; rintro e w1 ⟨rfl, hb1⟩)
        | (go_at_call_of 82 l; refine (C1.out _).mono ?_; rintro e w1 ⟨rfl, hb1⟩))
    all_goals (
      have hB := (by assumption : Below (w.heap.size + 1) (resW w) w1)
      obtain ⟨W1, hW1⟩ : ∃ W, W = w1 := ⟨_, rfl⟩
      subst hW1
      have HB := Hid.mk hB
      clear hB
      obtain ⟨⟨r0, r1, r2, r3⟩, ⟨f0, f1, f2, f3⟩⟩ := four_cells (res_block HB.out)
      clear hb1 C1 C2
      by_cases hk1 : 1048576 < k
      · have HE : Hid (UEnd l w (.returned (.tuple #[zeroN, .int .i64 0, .int .i64 31])) (set4 W1 w.heap.size (.int .i64 0) (.slice none 0 0) (.slice none 0 0) (.slice none 0 0))) :=
          Hid.mk (uEnd_of (unpackP_2 h8 (by rw [← HK.out]; exact hk1)) (zeroN_own _ _) (set4_below (res_below HB.out) (Nat.le_refl _) _ _ _ _))
        obtain ⟨⟨z0, z1, z2, z3⟩, _⟩ := four_cells (set4_block (res_block HB.out) (.int .i64 0) (.slice none 0 0) (.slice none 0 0) (.slice none 0 0))
        have Z0 := Hid.mk z0
        have Z1 := Hid.mk z1
        have Z2 := Hid.mk z2
        have Z3 := Hid.mk z3
        clear z0 z1 z2 z3
        go_wp2
        refine bodyPost_ret (v := .tuple #[zeroN, .int .i64 0, .int .i64 31]) ?_ rfl HE.out
        simp [results, Try.results72, go_sem, Z0.out, Z1.out, Z2.out, Z3.out]
      · by_cases hk2 : l8.length < k
        · have HE : Hid (UEnd l w (.returned (.tuple #[zeroN, .int .i64 0, .int .i64 11])) (set4 W1 w.heap.size (.int .i64 0) (.slice none 0 0) (.slice none 0 0) (.slice none 0 0))) :=
            Hid.mk (uEnd_of (unpackP_3 h8 (by rw [← HK.out]; exact hk1) (by rw [← HK.out, ← h8L]; exact hk2)) (zeroN_own _ _) (set4_below (res_below HB.out) (Nat.le_refl _) _ _ _ _))
          obtain ⟨⟨z0, z1, z2, z3⟩, _⟩ := four_cells (set4_block (res_block HB.out) (.int .i64 0) (.slice none 0 0) (.slice none 0 0) (.slice none 0 0))
          have Z0 := Hid.mk z0
          have Z1 := Hid.mk z1
          have Z2 := Hid.mk z2
          have Z3 := Hid.mk z3
          have hk2I : (l8.length : Int) < (k : Int) := by omega
          clear z0 z1 z2 z3 h8L
          go_wp2
          refine bodyPost_ret (v := .tuple #[zeroN, .int .i64 0, .int .i64 11]) ?_ rfl HE.out
          simp [results, Try.results72, go_sem, Z0.out, Z1.out, Z2.out, Z3.out]
        · have hk2I : ¬ (l8.length : Int) < (k : Int) := by omega
          have hk3I : (k : Int) ≤ (l8.length : Int) := by omega
          have hxk := extract_to l8 k
          have H8 := Hid.mk h8
          have H82 : Hid (¬ l.length - 8 < fourN l) := Hid.mk (by rw [← HK.out, ← h8L]; exact hk2)
          have H81 : Hid (¬ 1048576 < fourN l) := Hid.mk (by rw [← HK.out]; exact hk1)
          obtain ⟨B, hBd⟩ : ∃ B, B = l8.take k := ⟨_, rfl⟩
          rw [← hBd] at hxk
          have hBl : B.length ≤ 1048576 := by rw [hBd, List.length_take]; omega
          have HBD : Hid (B = (l.drop 8).take (fourN l)) := Hid.mk (by rw [hBd, HL8.out, HK.out])
          have HBL := Hid.mk hBl
          have HSUM := fun w => sum_any ⟨B.toArray⟩ w (by rw [size_list]; omega)
          rw [data_list] at HSUM
          have HSUM := Hid.mk HSUM
          obtain ⟨y, hy⟩ : ∃ y, y = sumN B := ⟨_, rfl⟩
          rw [← hy] at HSUM
          have HY := Hid.mk hy
          clear hy hBd h8L h8 hBl
          by_cases hs : y = x
          · have hsI : ((y : Int) != (x : Int)) = false := by simp; omega
            have HSE : Hid (sumN ((l.drop 8).take (fourN l)) = fourN (l.drop 4)) := Hid.mk (by rw [← HBD.out, ← HY.out, hs, HX.out, HL4.out])
            clear hs
            go_wp2_with fail
            refine (HSUM.out _).mono ?_
            rintro e w2 ⟨rfl, hb2⟩
            have HB2 := Hid.mk (keepB HB.out hb2 HRN.out)
            clear hb2 r0 r1 r2 r3 f0 f1 f2 f3
            obtain ⟨⟨r0, r1, r2, r3⟩, ⟨f0, f1, f2, f3⟩⟩ := four_cells (res_block HB2.out)
            go_wp2_with fail
            refine (noteOf_any B _ HBL.out).mono ?_
            rintro e w3 ⟨hb3, ⟨n, v, hread, rfl, hown⟩ | ⟨hread, rfl⟩⟩
            · have HB3 := Hid.mk (keepB HB2.out hb3 HRN.out)
              obtain ⟨a0, l0, c0, a1, l1, c1, a2, l2, c2, rfl⟩ := own_parts hown
              clear r0 r1 r2 r3 f0 f1 f2 f3
              have hb0 : w.heap.size < w2.heap.size := Nat.lt_of_lt_of_le (by have := HRN.out; omega) HB2.out.size
              have HE : Hid (UEnd l w (.returned (.tuple #[.agg #[.int .i64 n.kind, .slice a0 l0 c0, .slice a1 l1 c1, .slice a2 l2 c2], .int .i64 ((8 + k : Nat) : Int), .int .i64 0])) (set4 (set4 w3 w.heap.size (.int .i64 n.kind) (.slice a0 l0 c0) (.slice a1 l1 c1) (.slice a2 l2 c2)) w.heap.size (.int .i64 n.kind) (.slice a0 l0 c0) (.slice a1 l1 c1) (.slice a2 l2 c2))) :=
                Hid.mk (uEnd_of (by rw [HK.out]; exact unpackP_6 H8.out H81.out H82.out HSE.out (by rw [← HBD.out]; exact hread)) ((set4_own (set4_own hown hb0 _ _ _ _) hb0 _ _ _ _).base (by omega)) (set4_below (set4_below (res_below HB3.out) (Nat.le_refl _) _ _ _ _) (Nat.le_refl _) _ _ _ _))
              obtain ⟨⟨r0, r1, r2, r3⟩, ⟨f0, f1, f2, f3⟩⟩ := four_cells (res_block HB3.out)
              have hblk := set4_block (res_block HB3.out) (.int .i64 n.kind) (.slice a0 l0 c0) (.slice a1 l1 c1) (.slice a2 l2 c2)
              obtain ⟨⟨s0, s1, s2, s3⟩, ⟨g0, g1, g2, g3⟩⟩ := four_cells hblk
              obtain ⟨⟨z0, z1, z2, z3⟩, _⟩ := four_cells (set4_block hblk (.int .i64 n.kind) (.slice a0 l0 c0) (.slice a1 l1 c1) (.slice a2 l2 c2))
              have Z0 := Hid.mk z0
              have Z1 := Hid.mk z1
              have Z2 := Hid.mk z2
              have Z3 := Hid.mk z3
              clear z0 z1 z2 z3 hown hread hb3 hblk
              go_wp2
              refine bodyPost_ret (v := .tuple #[.agg #[.int .i64 n.kind, .slice a0 l0 c0, .slice a1 l1 c1, .slice a2 l2 c2], .int .i64 ((8 + k : Nat) : Int), .int .i64 0]) ?_ rfl HE.out
              simp [results, Try.results72, go_sem, Z0.out, Z1.out, Z2.out, Z3.out]
            · have HB3 := Hid.mk (keepB HB2.out hb3 HRN.out)
              clear r0 r1 r2 r3 f0 f1 f2 f3
              have HE : Hid (UEnd l w (.returned (.tuple #[zeroN, .int .i64 0, .int .i64 31])) (set4 (set4 w3 w.heap.size (.int .i64 0) (.slice none 0 0) (.slice none 0 0) (.slice none 0 0)) w.heap.size (.int .i64 0) (.slice none 0 0) (.slice none 0 0) (.slice none 0 0))) :=
                Hid.mk (uEnd_of (unpackP_5 H8.out H81.out H82.out HSE.out (by rw [← HBD.out]; exact hread)) (zeroN_own _ _) (set4_below (set4_below (res_below HB3.out) (Nat.le_refl _) _ _ _ _) (Nat.le_refl _) _ _ _ _))
              obtain ⟨⟨r0, r1, r2, r3⟩, ⟨f0, f1, f2, f3⟩⟩ := four_cells (res_block HB3.out)
              have hblk := set4_block (res_block HB3.out) (.int .i64 0) (.slice none 0 0) (.slice none 0 0) (.slice none 0 0)
              obtain ⟨⟨s0, s1, s2, s3⟩, ⟨g0, g1, g2, g3⟩⟩ := four_cells hblk
              obtain ⟨⟨z0, z1, z2, z3⟩, _⟩ := four_cells (set4_block hblk (.int .i64 0) (.slice none 0 0) (.slice none 0 0) (.slice none 0 0))
              have Z0 := Hid.mk z0
              have Z1 := Hid.mk z1
              have Z2 := Hid.mk z2
              have Z3 := Hid.mk z3
              clear z0 z1 z2 z3 hread hb3 hblk
              go_wp2
              refine bodyPost_ret (v := .tuple #[zeroN, .int .i64 0, .int .i64 31]) ?_ rfl HE.out
              simp [results, Try.results72, go_sem, Z0.out, Z1.out, Z2.out, Z3.out]
          · have hsI : ((y : Int) != (x : Int)) = true := by simp; omega
            have HSE : Hid (sumN ((l.drop 8).take (fourN l)) ≠ fourN (l.drop 4)) := Hid.mk (by rw [← HBD.out, ← HY.out, ← HL4.out, ← HX.out]; exact hs)
            clear hs
            go_wp2_with fail
            refine (HSUM.out _).mono ?_
            rintro e w2 ⟨rfl, hb2⟩
            have HB2 := Hid.mk (keepB HB.out hb2 HRN.out)
            clear hb2 r0 r1 r2 r3 f0 f1 f2 f3
            obtain ⟨⟨r0, r1, r2, r3⟩, ⟨f0, f1, f2, f3⟩⟩ := four_cells (res_block HB2.out)
            have HE : Hid (UEnd l w (.returned (.tuple #[zeroN, .int .i64 0, .int .i64 30])) (set4 w2 w.heap.size (.int .i64 0) (.slice none 0 0) (.slice none 0 0) (.slice none 0 0))) :=
              Hid.mk (uEnd_of (unpackP_4 H8.out H81.out H82.out HSE.out) (zeroN_own _ _) (set4_below (res_below HB2.out) (Nat.le_refl _) _ _ _ _))
            obtain ⟨⟨z0, z1, z2, z3⟩, _⟩ := four_cells (set4_block (res_block HB2.out) (.int .i64 0) (.slice none 0 0) (.slice none 0 0) (.slice none 0 0))
            have Z0 := Hid.mk z0
            have Z1 := Hid.mk z1
            have Z2 := Hid.mk z2
            have Z3 := Hid.mk z3
            clear z0 z1 z2 z3
            go_wp2
            refine bodyPost_ret (v := .tuple #[zeroN, .int .i64 0, .int .i64 30]) ?_ rfl HE.out
            simp [results, Try.results72, go_sem, Z0.out, Z1.out, Z2.out, Z3.out])
end Go.Proofs.Ytifmpcldiimdbaa

namespace Go.Proofs.Ytifmpcldiimdbaa
open Go.RowKit

theorem infoNote : (Try.prog.info? 36).map (fun i => (i.zero, i.size, i.bytes)) = some (some (.agg #[.int .i64 0, .slice none 0 0, .slice none 0 0, .slice none 0 0]), 4, 80) := by kernel_rfl

/-- Notes that a call has made. -/
def NotesOwn (w : World) (B : Nat) (v : Value) (ns : List NoteD) : Prop :=
  ∃ cs, w.ownsRow B 36 4 v ns.length cs ∧ ∀ (j : Nat) n, ns[j]? = some n → ∃ c1 c2 c3, cs[j * 4]? = some (.int .i64 n.kind) ∧ cs[j * 4 + 1]? = some c1 ∧ cs[j * 4 + 2]? = some c2 ∧ cs[j * 4 + 3]? = some c3 ∧ NoteOwn w B (.agg #[.int .i64 n.kind, c1, c2, c3]) n

theorem owns_below {w w' : World} {B n : Nat} {e : TypeId} {size : Nat} {v : Value} {xs : List Value} (h : w.ownsRow B e size v n xs) (hb : Below w.heap.size w w') : w'.ownsRow B e size v n xs := by
  refine ⟨h.1, ?_⟩
  rcases h.2 with h0 | ⟨g, cap, cur, e1, e2, e3, e4⟩
  · exact .inl h0
  · exact .inr ⟨g, cap, cur, e1, e2, (hb.block g (lt_of_block e3)).trans e3, e4⟩
theorem NotesOwn.below {w w' : World} {B : Nat} {v : Value} {ns : List NoteD} (h : NotesOwn w B v ns) (hb : Below w.heap.size w w') : NotesOwn w' B v ns := by
  obtain ⟨cs, h1, h2⟩ := h
  refine ⟨cs, owns_below h1 hb, fun j n hn => ?_⟩
  obtain ⟨c1, c2, c3, a0, a1, a2, a3, a4⟩ := h2 j n hn
  exact ⟨c1, c2, c3, a0, a1, a2, a3, a4.below hb⟩
theorem NotesOwn.snoc {w w' : World} {B : Nat} {v v' c1 c2 c3 : Value} {ns : List NoteD} {n : NoteD} {cs : List Value} (h1 : w.ownsRow B 36 4 v ns.length cs)
    (h2 : ∀ (j : Nat) n, ns[j]? = some n → ∃ c1 c2 c3, cs[j * 4]? = some (.int .i64 n.kind) ∧ cs[j * 4 + 1]? = some c1 ∧ cs[j * 4 + 2]? = some c2 ∧ cs[j * 4 + 3]? = some c3 ∧ NoteOwn w B (.agg #[.int .i64 n.kind, c1, c2, c3]) n)
    (hn : NoteOwn w B (.agg #[.int .i64 n.kind, c1, c2, c3]) n) (hg : w.grownBy w' v.ownBlock) (hv : w'.ownsRow B 36 4 v' (ns.length + 1) (cs ++ [.int .i64 n.kind, c1, c2, c3])) : NotesOwn w' B v' (ns ++ [n]) := by
  have hl := h1.1
  refine ⟨cs ++ [.int .i64 n.kind, c1, c2, c3], by simpa using hv, fun j m hm => ?_⟩
  rcases Nat.lt_or_ge j ns.length with hj | hj
  · rw [List.getElem?_append_left hj] at hm
    obtain ⟨d1, d2, d3, a0, a1, a2, a3, a4⟩ := h2 j m hm
    refine ⟨d1, d2, d3, ?_, ?_, ?_, ?_, a4.other h1 hg⟩
    · rw [List.getElem?_append_left (by omega)]; exact a0
    · rw [List.getElem?_append_left (by omega)]; exact a1
    · rw [List.getElem?_append_left (by omega)]; exact a2
    · rw [List.getElem?_append_left (by omega)]; exact a3
  · have hj2 : j = ns.length := by
      have := (List.getElem?_eq_some_iff.1 hm).1
      simp at this; omega
    subst hj2
    rw [List.getElem?_append_right (Nat.le_refl _), Nat.sub_self] at hm
    simp at hm
    subst hm
    refine ⟨c1, c2, c3, ?_, ?_, ?_, ?_, hn.other h1 hg⟩
    · rw [List.getElem?_append_right (by omega), show ns.length * 4 - cs.length = 0 by omega]; rfl
    · rw [List.getElem?_append_right (by omega), show ns.length * 4 + 1 - cs.length = 1 by omega]; rfl
    · rw [List.getElem?_append_right (by omega), show ns.length * 4 + 2 - cs.length = 2 by omega]; rfl
    · rw [List.getElem?_append_right (by omega), show ns.length * 4 + 3 - cs.length = 3 by omega]; rfl

def AEnd (l : List UInt8) (w : World) (e : Ending) (w' : World) : Prop :=
  ∃ v, e = .returned (.tuple #[v, .int .i64 ((allP l).2 : Int)]) ∧ NotesOwn w' w.heap.size v (allP l).1 ∧ Below w.heap.size w w'

end Go.Proofs.Ytifmpcldiimdbaa
