/- The statement about notes at their limits: with as many numbers, texts, rows and bytes as may be, and with one more. -/
import Derived.Test.YtnepednomejniaaWRow
namespace Go.Proofs.Ytnepednomejniaa
open Go.RowKit

def limA (k : Nat) : NoteD := ⟨7, List.replicate k 0, [], []⟩
def limB (q k : Nat) : NoteD := ⟨7, [], List.replicate q [], [List.replicate k []]⟩
def limC (k : Nat) : NoteD := ⟨7, [], [], List.replicate k []⟩
def limD (k : Nat) : NoteD := ⟨7, [], [List.replicate k 0], []⟩

theorem shortL_rep (k : Nat) : shortL (List.replicate k []) := fun t ht => by
  rw [List.eq_of_mem_replicate ht]; simp
theorem sumL_rep : ∀ k : Nat, sumL (List.replicate k []) = 0
  | 0 => rfl
  | k + 1 => by
    have := sumL_rep k
    simp only [sumL, List.replicate_succ, List.map_cons, List.sum_cons, List.length_nil] at *; omega
theorem cntR_rep : ∀ k : Nat, cntR (List.replicate k []) = 0
  | 0 => rfl
  | k + 1 => by
    have := cntR_rep k
    simp only [cntR, List.replicate_succ, List.map_cons, List.sum_cons, List.length_nil] at *; omega
theorem sumR_rep : ∀ k : Nat, sumR (List.replicate k []) = 0
  | 0 => rfl
  | k + 1 => by
    have := sumR_rep k
    simp only [sumR, sumL, List.replicate_succ, List.map_cons, List.sum_cons, List.map_nil, List.sum_nil] at *; omega

theorem body_small (n : NoteD) (h : n.textsOk) (hn : n.nums.length ≤ 64) : n.body.length ≤ 9 + 9 + 9 * 64 + 9 + (sumL n.texts + 9 * n.texts.length) + 9 + (sumR n.rows + 9 * cntR n.rows + 9 * n.rows.length) := by
  have a := textsB_le2 n.texts h.2.2.1
  have b := rowsB_le n.rows h.2.2.2
  have c := numsB_le n.nums
  have d1 := numB_le n.kind.toNat
  have d2 := numB_le n.nums.length
  have d3 := numB_le n.texts.length
  have d4 := numB_le n.rows.length
  simp only [NoteD.body, listB, List.length_append]
  omega

theorem limA_may (k : Nat) : (limA k).may ↔ k ≤ 64 := by
  have e6 : (limA k).nums.length = k := List.length_replicate
  have e7 : (limA k).kind = 7 := rfl
  have e1 : sumL (limA k).texts = 0 := rfl
  have e2 : sumR (limA k).rows = 0 := rfl
  have e3 : cntR (limA k).rows = 0 := rfl
  have e4 : (limA k).texts.length = 0 := rfl
  have e5 : (limA k).rows.length = 0 := rfl
  constructor
  · intro h
    have := h.1.2.2.1
    omega
  · intro h
    have ht : (limA k).textsOk := ⟨by omega, by omega, fun _ ht => absurd ht List.not_mem_nil, fun _ ht => absurd ht List.not_mem_nil⟩
    have hb := body_small (limA k) ht (by omega)
    refine ⟨⟨by omega, by omega, by omega, ?_⟩, ht, by omega⟩
    intro x hx
    rw [List.eq_of_mem_replicate hx]
    exact ⟨by omega, by omega⟩
theorem limB_may (q k : Nat) (hq : q = 4000) : (limB q k).may ↔ k ≤ 96 := by
  have e3 : cntR (limB q k).rows = k := by
    show ([List.replicate k ([] : List UInt8)].map List.length).sum = k
    simp
  have e7 : (limB q k).kind = 7 := rfl
  have e4 : (limB q k).texts.length = q := List.length_replicate
  have e5 : (limB q k).rows.length = 1 := rfl
  have e6 : (limB q k).nums.length = 0 := rfl
  have e1 : sumL (limB q k).texts = 0 := sumL_rep q
  have e2 : sumR (limB q k).rows = 0 := by
    have := sumL_rep k
    show ([List.replicate k ([] : List UInt8)].map sumL).sum = 0
    simp only [List.map_cons, List.map_nil, List.sum_cons, List.sum_nil]; omega
  constructor
  · intro h
    have := h.2.1.2.1
    omega
  · intro h
    have ht : (limB q k).textsOk := ⟨by omega, by omega, shortL_rep q, by
      intro r hr
      have : r = List.replicate k [] := List.mem_singleton.1 hr
      rw [this]; exact shortL_rep k⟩
    have hb := body_small (limB q k) ht (by omega)
    exact ⟨⟨by omega, by omega, by omega, fun _ ht => absurd ht List.not_mem_nil⟩, ht, by omega⟩
theorem limC_may (k : Nat) : (limC k).may ↔ k ≤ 4096 := by
  have e1 : sumL (limC k).texts = 0 := rfl
  have e2 : sumR (limC k).rows = 0 := sumR_rep k
  have e3 : cntR (limC k).rows = 0 := cntR_rep k
  have e4 : (limC k).texts.length = 0 := rfl
  have e5 : (limC k).rows.length = k := List.length_replicate
  have e6 : (limC k).nums.length = 0 := rfl
  have e7 : (limC k).kind = 7 := rfl
  constructor
  · intro h
    have := h.2.1.1
    omega
  · intro h
    have ht : (limC k).textsOk := ⟨by omega, by omega, fun _ ht => absurd ht List.not_mem_nil, by
      intro r hr
      rw [List.eq_of_mem_replicate hr]; exact fun _ ht => absurd ht List.not_mem_nil⟩
    have hb := body_small (limC k) ht (by omega)
    exact ⟨⟨by omega, by omega, by omega, fun _ ht => absurd ht List.not_mem_nil⟩, ht, by omega⟩
theorem limD_may (k : Nat) : (limD k).may ↔ k ≤ 65536 := by
  have e1 : sumL (limD k).texts = k := by
    show ([List.replicate k (0 : UInt8)].map List.length).sum = k
    simp
  have e2 : sumR (limD k).rows = 0 := rfl
  have e3 : cntR (limD k).rows = 0 := rfl
  have e4 : (limD k).texts.length = 1 := rfl
  have e5 : (limD k).rows.length = 0 := rfl
  have e6 : (limD k).nums.length = 0 := rfl
  have e7 : (limD k).kind = 7 := rfl
  constructor
  · intro h
    have := h.2.1.2.2.1 (List.replicate k 0) (List.mem_singleton.2 rfl)
    rw [List.length_replicate] at this
    exact this
  · intro h
    have ht : (limD k).textsOk := ⟨by omega, by omega, by
      intro t ht
      have : t = List.replicate k 0 := List.mem_singleton.1 ht
      rw [this, List.length_replicate]; exact h, fun _ ht => absurd ht List.not_mem_nil⟩
    have hb := body_small (limD k) ht (by omega)
    exact ⟨⟨by omega, by omega, by omega, fun _ ht => absurd ht List.not_mem_nil⟩, ht, by omega⟩
theorem limA_sane (k : Nat) : (limA k).sane := ⟨Nat.zero_le _, fun _ ht => absurd ht List.not_mem_nil⟩
theorem limB_sane (q k : Nat) (hq : q ≤ 100000) (h : k ≤ 100000) : (limB q k).sane := by
  refine ⟨?_, ?_⟩
  · have : (limB q k).texts.length = q := List.length_replicate
    omega
  · intro r hr
    have : r = List.replicate k [] := List.mem_singleton.1 hr
    rw [this, List.length_replicate]; omega
theorem limC_sane (k : Nat) : (limC k).sane := by
  refine ⟨Nat.zero_le _, ?_⟩
  intro r hr
  rw [List.eq_of_mem_replicate hr]; exact Nat.zero_le _
theorem limD_sane (k : Nat) : (limD k).sane := by
  refine ⟨?_, fun _ ht => absurd ht List.not_mem_nil⟩
  have : (limD k).texts.length = 1 := rfl
  omega

theorem rowIn_set {w : World} {B k i : Nat} {e : TypeId} {v u : Value} {xs : List Value} (h : RowIn w B e v xs) (hk : k < B) : RowIn (w.setCell ⟨k, i, none⟩ u) B e v xs :=
  h.kept (fun g _ _ hB hg => (Below.heap_setCell w ⟨k, i, none⟩ u g (by simp only; omega)).trans hg)
theorem rowIn_below {w w' : World} {B : Nat} {e : TypeId} {v : Value} {xs : List Value} (h : RowIn w B e v xs) (hb : Below w.heap.size w w') : RowIn w' B e v xs :=
  h.kept (fun g _ _ _ hg => (hb.block g (lt_of_block hg)).trans hg)
theorem rowIn_one (w : World) (B : Nat) (e : TypeId) (x : Value) (cap : Nat) (hB : B ≤ w.heap.size) : RowIn (w.alloc (.cells #[x] e)) B e (.slice (some ⟨w.heap.size, 0, none⟩) 1 cap) [x] := by
  refine .inr ⟨w.heap.size, 0, cap, #[x], (0, 0), rfl, hB, box_at w _, fun j y hy => ?_⟩
  match j, hy with
  | 0, hy => simpa using hy
  | j + 1, hy => simp at hy
theorem rowIn_made {w : World} {B g n : Nat} {e : TypeId} {z : Value} (h : w.ownsRow B e 1 (.slice (some ⟨g, 0, none⟩) n n) n (madeCells #[z] n).toList) : RowIn w B e (.slice (some ⟨g, 0, none⟩) n n) (List.replicate n z) := by
  rw [toList_madeCells_one] at h
  refine rowIn_own ?_
  rw [List.length_replicate]; exact h
theorem strs_of_rowIn {w : World} {B : Nat} {e : TypeId} {v : Value} {ss : List (List UInt8)} (h : RowIn w B e v (strCs ss)) (hl : ss.length ≤ 9223372036854775807) : StrsAt w v ss := by
  have hle : (strCs ss).length = ss.length := by simp [strCs]
  obtain ⟨_, ao, cap, rfl, h3⟩ := h.vals (by rw [hle]; exact hl)
  refine ⟨hl, ao, cap, by rw [hle], ?_⟩
  rcases h3 with h3 | ⟨b, o, h1, h2, h3⟩
  · left
    rw [h3] at hle
    exact List.length_eq_zero_iff.1 hle.symm
  · exact .inr ⟨b, o, h1, h2, fun j t ht => h3 j _ (by rw [strCs, List.getElem?_map, ht]; rfl)⟩
theorem nil_strs (w : World) : StrsAt w (.slice none 0 0) [] := ⟨Nat.zero_le _, none, 0, rfl, .inl rfl⟩
theorem nil_ints (w : World) : IntsAt w (.slice none 0 0) [] := ⟨Nat.zero_le _, none, 0, rfl, .inl rfl⟩
theorem nil_rows (w : World) : RowsAt w (.slice none 0 0) [] := ⟨[], ⟨Nat.zero_le _, none, 0, rfl, .inl rfl⟩, rfl, by simp⟩

theorem limA_at {w : World} {B k : Nat} {e : TypeId} {v : Value} (h : RowIn w B e v (List.replicate k (.int .i64 0))) (hk : k ≤ 100000) : NoteAt w (.agg #[.int .i64 7, v, .slice none 0 0, .slice none 0 0]) (limA k) := by
  refine ⟨_, _, _, rfl, ?_, nil_strs w, nil_rows w⟩
  have e1 : intCs (limA k).nums = List.replicate k (.int .i64 0) := by
    show (List.replicate k (0 : Int)).map (Value.int .i64) = _
    rw [List.map_replicate]
  unfold IntsAt
  rw [e1]
  exact h.vals (by rw [List.length_replicate]; omega)
theorem limB_at {w : World} {B q k : Nat} {e e1 e2 : TypeId} {v u x : Value} (h : RowIn w B e v (List.replicate q (.string ⟨#[]⟩))) (h1 : RowIn w B e1 u [x]) (h2 : RowIn w B e2 x (List.replicate k (.string ⟨#[]⟩))) (hq : q ≤ 100000) (hk : k ≤ 100000) : NoteAt w (.agg #[.int .i64 7, .slice none 0 0, v, u]) (limB q k) := by
  have key : ∀ m : Nat, strCs (List.replicate m []) = List.replicate m (.string ⟨#[]⟩) := fun m => by
    rw [strCs, List.map_replicate]
  refine ⟨_, _, _, rfl, nil_ints w, strs_of_rowIn (by rw [show (limB q k).texts = List.replicate q [] from rfl, key]; exact h) (by rw [show (limB q k).texts = List.replicate q [] from rfl, List.length_replicate]; omega), [x], h1.vals (by simp), rfl, ?_⟩
  intro j y r hy hr
  match j, hy, hr with
  | 0, hy, hr =>
    have ey : x = y := by simpa using hy
    have er : List.replicate k [] = r := by
      have : [List.replicate k ([] : List UInt8)][0]? = some r := hr
      simpa using this
    subst ey er
    exact strs_of_rowIn (by rw [key]; exact h2) (by rw [List.length_replicate]; omega)
  | j + 1, hy, hr => simp at hy
theorem limC_at {w : World} {B k : Nat} {e : TypeId} {v : Value} (h : RowIn w B e v (List.replicate k (.slice none 0 0))) (hk : k ≤ 100000) : NoteAt w (.agg #[.int .i64 7, .slice none 0 0, .slice none 0 0, v]) (limC k) := by
  refine ⟨_, _, _, rfl, nil_ints w, nil_strs w, List.replicate k (.slice none 0 0), h.vals (by rw [List.length_replicate]; omega), ?_, ?_⟩
  · rw [show (limC k).rows = List.replicate k [] from rfl, List.length_replicate, List.length_replicate]
  · intro j y r hy hr
    have e1 := List.eq_of_mem_replicate (List.mem_of_getElem? hy)
    have e2 := List.eq_of_mem_replicate (List.mem_of_getElem? hr)
    subst e1 e2
    exact nil_strs w
theorem limD_at {w : World} {B k : Nat} {e : TypeId} {v : Value} (h : RowIn w B e v [.string ⟨(List.replicate k (0 : UInt8)).toArray⟩]) : NoteAt w (.agg #[.int .i64 7, .slice none 0 0, v, .slice none 0 0]) (limD k) :=
  ⟨_, _, _, rfl, nil_ints w, strs_of_rowIn h (by show [List.replicate k (0 : UInt8)].length ≤ _; simp), nil_rows w⟩

theorem lbytes_zero {w1 : World} {base g n : Nat} (hown : w1.ownsRow base 5 1 (.slice (some ⟨g, 0, none⟩) n n) n (madeCells #[Value.int IntKind.u8 0] n).toList) : Bytes w1 g (List.replicate n 0) := by
  have hlt := (hown.lt g rfl).2
  refine ⟨hlt, fun j x hx => ?_⟩
  have hj : j < n := by have := (List.getElem?_eq_some_iff.1 hx).1; simpa using this
  have hx0 : x = 0 := by rw [List.getElem?_replicate, if_pos hj] at hx; exact (Option.some.inj hx).symm
  subst hx0
  refine ⟨?_, hown.frozenAt j⟩
  rw [hown.cellAt j (by omega), toList_madeCells_one, List.getElem?_replicate, if_pos (by omega)]
  rfl

end Go.Proofs.Ytnepednomejniaa
