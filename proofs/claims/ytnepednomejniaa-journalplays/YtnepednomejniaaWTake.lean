/- What the closures do by which the program reads a body. -/
import Derived.Test.YtnepednomejniaaWPack
namespace Go.Proofs.Ytnepednomejniaa
open Go.RowKit

/-- What is left to read, and whether all was well so far. -/
structure St where
  b : List UInt8
  ok : Bool
def St.take (s : St) (k e : Nat) : St := if e = 0 then ⟨s.b.drop k, s.ok⟩ else ⟨[], false⟩
def St.num (s : St) : St := s.take (numP s.b).2.1 (numP s.b).2.2
def St.list (s : St) : St := s.take (listP s.b).2.1 (listP s.b).2.2
def St.count (s : St) (most : Nat) : Nat × St := if most < (numP s.b).1 then (0, ⟨[], false⟩) else ((numP s.b).1, s.num)

/-- Two blocks alone are written; new ones may come. -/
structure Side (b c : Nat) (w w' : World) : Prop where
  os : w'.os = w.os
  tape : w'.tape = w.tape
  output : w'.output = w.output
  size : w.heap.size ≤ w'.heap.size
  block : ∀ k, k < w.heap.size → k ≠ b → k ≠ c → w'.heap[k]? = w.heap[k]?
theorem Side.refl (b c : Nat) (w : World) : Side b c w w := ⟨rfl, rfl, rfl, Nat.le_refl _, fun _ _ _ _ => rfl⟩
theorem Side.trans {b c : Nat} {w w1 w2 : World} (h : Side b c w w1) (k : Side b c w1 w2) : Side b c w w2 :=
  ⟨k.os.trans h.os, k.tape.trans h.tape, k.output.trans h.output, Nat.le_trans h.size k.size, fun i hi h1 h2 => (k.block i (Nat.lt_of_lt_of_le hi h.size) h1 h2).trans (h.block i hi h1 h2)⟩
theorem Side.of_below {b c : Nat} {w w' : World} (h : Below w.heap.size w w') : Side b c w w' := ⟨h.os, h.tape, h.output, h.size, fun k hk _ _ => h.block k hk⟩
theorem Side.set1 {b c : Nat} {w w' : World} (h : Side b c w w') (v : Value) : Side b c w (w'.setCell ⟨b, 0, none⟩ v) :=
  ⟨h.os, h.tape, h.output, by simpa using h.size, fun k hk h1 h2 => (Below.heap_setCell w' ⟨b, 0, none⟩ v k h1).trans (h.block k hk h1 h2)⟩
theorem Side.set2 {b c : Nat} {w w' : World} (h : Side b c w w') (v : Value) : Side b c w (w'.setCell ⟨c, 0, none⟩ v) :=
  ⟨h.os, h.tape, h.output, by simpa using h.size, fun k hk h1 h2 => (Below.heap_setCell w' ⟨c, 0, none⟩ v k h2).trans (h.block k hk h1 h2)⟩
theorem Side.one {b c k : Nat} {w w' : World} {t : TypeId} {v : Value} (h : Side b c w w') (ho : One w k t v) (h1 : k ≠ b) (h2 : k ≠ c) : One w' k t v := (h.block k (lt_of_block ho) h1 h2).trans ho
theorem Side.owns {b c B : Nat} {w w' : World} {e : TypeId} {size : Nat} {v : Value} {n : Nat} {xs : List Value} (h : Side b c w w') (ho : w.ownsRow B e size v n xs) (h1 : b < B) (h2 : c < B) : w'.ownsRow B e size v n xs := by
  refine ⟨ho.1, ?_⟩
  rcases ho.2 with h0 | ⟨g, cap, cur, e1, e2, e3, e4⟩
  · exact .inl h0
  · exact .inr ⟨g, cap, cur, e1, e2, (h.block g (lt_of_block e3) (by omega) (by omega)).trans e3, e4⟩
theorem Side.below {b c B : Nat} {w0 w w' : World} (h : Side b c w w') (hb : Below B w0 w) (h1 : B ≤ b) (h2 : B ≤ c) (hB : B ≤ w.heap.size) : Below B w0 w' :=
  ⟨h.os.trans hb.os, h.tape.trans hb.tape, h.output.trans hb.output, Nat.le_trans hb.size h.size, fun k hk => (h.block k (by omega) (by omega) (by omega)).trans (hb.block k hk)⟩

abbrev takeF (b : Nat) : Value := .func (.func 62) #[] #[.pointer (some ⟨b, 0, none⟩), .pointer (some ⟨b + 3, 0, none⟩)]
abbrev numF (b : Nat) : Value := .func (.func 63) #[] #[.pointer (some ⟨b, 0, none⟩), .pointer (some ⟨b + 4, 0, none⟩)]
/-- What holds while a body is read. -/
structure RInv (b : Nat) (w : World) (s : St) : Prop where
  body : One w b 9 (.string ⟨s.b.toArray⟩)
  whole : One w (b + 3) 4 (.bool s.ok)
  take : One w (b + 4) 102 (takeF b)
  num : One w (b + 5) 73 (numF b)
  len : s.b.length ≤ 1048576

theorem RInv.below {b : Nat} {w w' : World} {s : St} (h : RInv b w s) (hb : Below w.heap.size w w') : RInv b w' s :=
  ⟨(hb.block _ (lt_of_block h.body)).trans h.body, (hb.block _ (lt_of_block h.whole)).trans h.whole, (hb.block _ (lt_of_block h.take)).trans h.take, (hb.block _ (lt_of_block h.num)).trans h.num, h.len⟩
theorem St.take_len {s : St} (k e : Nat) (h : s.b.length ≤ 1048576) : (s.take k e).b.length ≤ 1048576 := by
  unfold St.take
  split
  · simp only [List.length_drop]; omega
  · simp

theorem extract_from (l : List UInt8) (k : Nat) : (⟨l.toArray⟩ : ByteArray).extract k (⟨l.toArray⟩ : ByteArray).size = ⟨(l.drop k).toArray⟩ := by
  apply bytes_ext
  rw [extract_end]

set_option maxRecDepth 100000 in
set_option maxHeartbeats 1000000 in
theorem take_any (b : Nat) (w : World) (s : St) (k e : Nat) (h : RInv b w s) (hk : k ≤ s.b.length) :
    Calls Try.prog 62 #[.int .i64 k, .int .i64 e, .pointer (some ⟨b, 0, none⟩), .pointer (some ⟨b + 3, 0, none⟩)] w fun r w' => r = .returned (.tuple #[]) ∧ RInv b w' (s.take k e) ∧ Side b (b + 3) w w' := by
  obtain ⟨h1, h2, h3, h4, h5⟩ := h
  have c1 := cell_of_one h1
  have f1 := free_of_one h1
  have c2 := cell_of_one h2
  have f2 := free_of_one h2
  have H1 := Hid.mk h1
  have H2 := Hid.mk h2
  have H3 := Hid.mk h3
  have H4 := Hid.mk h4
  have hsz := size_list s.b
  have hkI : (k : Int) ≤ (s.b.length : Int) := by omega
  have hx := extract_from s.b k
  rw [hsz] at hx
  clear h1 h2 h3 h4
  by_cases he : e = 0
  · subst he
    have HT : Hid (s.take k 0 = ⟨s.b.drop k, s.ok⟩) := Hid.mk (if_pos rfl)
    go_enter Try.func62, Try.ntmps62
    go_wp2
    go_end0
    rw [HT.out]
    exact ⟨rfl, ⟨one_setCell H1.out, one_other H2.out (by omega), one_other H3.out (by omega), one_other H4.out (by omega), by simp only [List.length_drop]; omega⟩, (Side.refl _ _ _).set1 _⟩
  · have HT : Hid (s.take k e = ⟨[], false⟩) := Hid.mk (if_neg he)
    have heI : ((e : Int) != 0) = true := by simp; omega
    clear he
    go_enter Try.func62, Try.ntmps62
    go_wp2
    go_end0
    rw [HT.out]
    refine ⟨rfl, ⟨?_, ?_, ?_, ?_, by simp⟩, (((Side.refl _ _ _).set1 _).set1 _).set2 _⟩
    · exact one_other (one_setCell (one_setCell H1.out)) (by omega)
    · exact one_setCell (one_other (one_other H2.out (by omega)) (by omega))
    · exact one_other (one_other (one_other H3.out (by omega)) (by omega)) (by omega)
    · exact one_other (one_other (one_other H4.out (by omega)) (by omega)) (by omega)

set_option maxRecDepth 100000 in
set_option maxHeartbeats 1000000 in
theorem numRead_any (b : Nat) (w : World) (s : St) (h : RInv b w s) :
    Calls Try.prog 63 #[.pointer (some ⟨b, 0, none⟩), .pointer (some ⟨b + 4, 0, none⟩)] w fun r w' => r = .returned (.int .i64 (numP s.b).1) ∧ RInv b w' s.num ∧ Side b (b + 3) w w' := by
  have c1 := cell_of_one h.body
  have c3 := cell_of_one h.take
  have HN : Hid (∀ w, Calls Try.prog 64 #[.string ⟨s.b.toArray⟩] w fun e w' => e = .returned (numV s.b) ∧ w' = w) := Hid.mk (fun w => by
    have := num_any ⟨s.b.toArray⟩ w (by rw [size_list]; have := h.len; unfold maxLen; omega)
    rw [data_list] at this; exact this)
  obtain ⟨u1, _, _, _⟩ := numP_used s.b
  obtain ⟨v, k, e, hv⟩ : ∃ v k e, numP s.b = (v, k, e) := ⟨_, _, _, rfl⟩
  have HV := Hid.mk (numV_of hv)
  have HS : Hid (s.num = s.take k e) := Hid.mk (by rw [St.num, hv])
  rw [hv] at u1 ⊢
  simp only at u1 ⊢
  have H := Hid.mk h
  clear h hv
  go_enter Try.func63, Try.ntmps63
  go_wp2_with fail
  refine (HN.out _).mono ?_
  rintro e1 w1 ⟨rfl, rfl⟩
  rw [HV.out]
  go_wp2_with fail
  refine (take_any b _ s k e H.out u1).mono ?_
  rintro e2 w2 ⟨rfl, hr, hsd⟩
  have HR := Hid.mk hr
  clear hr
  go_wp2
  go_ret
  exact ⟨rfl, by rw [HS.out]; exact HR.out, hsd⟩

set_option maxRecDepth 100000 in
set_option maxHeartbeats 1000000 in
theorem countRead_any (b : Nat) (w : World) (s : St) (most : Nat) (h : RInv b w s) :
    Calls Try.prog 65 #[.int .i64 most, .pointer (some ⟨b + 5, 0, none⟩), .pointer (some ⟨b + 4, 0, none⟩)] w fun r w' => r = .returned (.int .i64 (s.count most).1) ∧ RInv b w' (s.count most).2 ∧ Side b (b + 3) w w' := by
  have c1 := cell_of_one h.num
  have H := Hid.mk h
  clear h
  by_cases hm : most < (numP s.b).1
  · have HC : Hid (s.count most = (0, ⟨[], false⟩)) := Hid.mk (if_pos hm)
    have HT : Hid (s.num.take 0 31 = ⟨[], false⟩) := Hid.mk (if_neg (by decide))
    obtain ⟨v, hv⟩ : ∃ v, v = (numP s.b).1 := ⟨_, rfl⟩
    have HN := Hid.mk (numRead_any b w s H.out)
    rw [← hv] at hm HN
    clear hv
    go_enter Try.func65, Try.ntmps65
    go_wp2_with fail
    refine HN.out.mono ?_
    rintro e1 w1 ⟨rfl, hr1, hs1⟩
    have c2 := cell_of_one hr1.take
    have H1 := Hid.mk hr1
    clear hr1 c1 HN
    go_wp2_with fail
    refine (take_any b _ s.num 0 31 H1.out (Nat.zero_le _)).mono ?_
    rintro e2 w2 ⟨rfl, hr2, hs2⟩
    have H2 := Hid.mk hr2
    clear hr2 c2
    go_wp2
    go_ret
    refine ⟨by rw [HC.out]; rfl, ?_, hs1.trans hs2⟩
    rw [HC.out, ← HT.out]; exact H2.out
  · have HC : Hid (s.count most = ((numP s.b).1, s.num)) := Hid.mk (if_neg hm)
    obtain ⟨v, hv⟩ : ∃ v, v = (numP s.b).1 := ⟨_, rfl⟩
    have HN := Hid.mk (numRead_any b w s H.out)
    rw [← hv] at hm HN HC
    clear hv
    go_enter Try.func65, Try.ntmps65
    go_wp2_with fail
    refine HN.out.mono ?_
    rintro e1 w1 ⟨rfl, hr1, hs1⟩
    have H1 := Hid.mk hr1
    clear hr1 c1 HN
    go_wp2
    go_ret
    exact ⟨by rw [HC.out]; rfl, by rw [HC.out]; exact H1.out, hs1⟩

theorem owns_base {w : World} {B B' n : Nat} {e : TypeId} {size : Nat} {v : Value} {xs : List Value} (h : w.ownsRow B e size v n xs) (hb : B' ≤ B) : w.ownsRow B' e size v n xs := by
  refine ⟨h.1, ?_⟩
  rcases h.2 with h0 | ⟨g, cap, cur, e1, e2, e3⟩
  · exact .inl h0
  · exact .inr ⟨g, cap, cur, e1, Nat.le_trans hb e2, e3⟩

theorem listP_used (l : List UInt8) : (listP l).2.1 ≤ l.length := by
  by_cases h : (listP l).2.2 = 0
  · obtain ⟨n, k, e, hn⟩ : ∃ n k e, listP l = (n, k, e) := ⟨_, _, _, rfl⟩
    rw [hn] at h ⊢
    simp only at h ⊢
    subst h
    obtain ⟨e1, _, _, e4⟩ := listP_sound hn
    have := congrArg List.length e1
    rw [List.length_append, List.length_drop] at this; omega
  · rw [listP_shape l h]; exact Nat.zero_le _

set_option maxRecDepth 100000 in
set_option maxHeartbeats 1000000 in
theorem listRead_any (b : Nat) (w : World) (s : St) (h : RInv b w s) :
    Calls Try.prog 66 #[.pointer (some ⟨b, 0, none⟩), .pointer (some ⟨b + 4, 0, none⟩)] w fun r w' => ∃ v, r = .returned v ∧
      w'.ownsRow (b + 6) 9 1 v (listP s.b).1.length (strCs (listP s.b).1) ∧ RInv b w' s.list ∧ Side b (b + 3) w w' := by
  have c1 := cell_of_one h.body
  have hb6 : b + 6 ≤ w.heap.size := lt_of_block h.num
  have HN : Hid (∀ w, Calls Try.prog 67 #[.string ⟨s.b.toArray⟩] w (ListEnd s.b w)) := Hid.mk (fun w => by
    have := list_any ⟨s.b.toArray⟩ w (by rw [size_list]; have := h.len; omega)
    rw [data_list] at this; exact this)
  have u1 := listP_used s.b
  obtain ⟨ls, k, e, hv⟩ : ∃ v k e, listP s.b = (v, k, e) := ⟨_, _, _, rfl⟩
  have HS : Hid (s.list = s.take k e) := Hid.mk (by rw [St.list, hv])
  unfold ListEnd at HN
  rw [hv] at u1 HN ⊢
  simp only at u1 HN ⊢
  have H := Hid.mk h
  clear h hv
  go_enter Try.func66, Try.ntmps66
  go_wp2_with fail
  refine (HN.out _).mono ?_
  rintro e1 w1 ⟨v, rfl, ho, hb1⟩
  have hr1 := H.out.below hb1
  have c3 := cell_of_one hr1.take
  have H1 := Hid.mk hr1
  have HO := Hid.mk (owns_base ho hb6)
  have S1 : Hid (Side b (b + 3) w w1) := Hid.mk (Side.of_below hb1)
  clear hr1 ho hb1 c1 HN
  go_wp2_with fail
  refine (take_any b _ s k e H1.out u1).mono ?_
  rintro e2 w2 ⟨rfl, hr, hsd⟩
  have HR := Hid.mk hr
  have S2 := Hid.mk (S1.out.trans hsd)
  have HO2 := Hid.mk (hsd.owns HO.out (by omega) (by omega))
  clear hr hsd c3
  go_wp2
  go_ret
  exact ⟨_, rfl, HO2.out, by rw [HS.out]; exact HR.out, S2.out⟩
end Go.Proofs.Ytnepednomejniaa
