/- The statement about notes at their limits: with as many numbers, texts, rows and bytes as may be, and with one more. -/
import Derived.Test.YtiodlbmdkpomhaaWRow
namespace Go.Proofs.Ytiodlbmdkpomhaa
open Go.RowKit

def limA (k : Nat) : NoteD := ⟨7, List.replicate k 0, [], []⟩
def limB (q k : Nat) : NoteD := ⟨7, [], List.replicate q [], [List.replicate k []]⟩
def limC (k : Nat) : NoteD := ⟨7, [], [], List.replicate k []⟩
def limD (k : Nat) : NoteD := ⟨7, [], [List.replicate k 0], []⟩

theorem shortL_rep (k : Nat) : shortL (List.replicate k []) := fun t ht => by
  rw [List.eq_of_mem_replicate ht]; simp
theorem sumL_rep : ∀ k : Nat, sumL (List.replicate k []) = 0
  | 0 => rfl
  | k + 1 => by
    have := sumL_rep k
    simp only [sumL, List.replicate_succ, List.map_cons, List.sum_cons, List.length_nil] at *; omega
theorem cntR_rep : ∀ k : Nat, cntR (List.replicate k []) = 0
  | 0 => rfl
  | k + 1 => by
    have := cntR_rep k
    simp only [cntR, List.replicate_succ, List.map_cons, List.sum_cons, List.length_nil] at *; omega
theorem sumR_rep : ∀ k : Nat, sumR (List.replicate k []) = 0
  | 0 => rfl
  | k + 1 => by
    have := sumR_rep k
    simp only [sumR, sumL, List.replicate_succ, List.map_cons, List.sum_cons, List.map_nil, List.sum_nil] at *; omega

theorem body_small (n : NoteD) (h : n.textsOk) (hn : n.nums.length ≤ 64) : n.body.length ≤ 9 + 9 + 9 * 64 + 9 + (sumL n.texts + 9 * n.texts.length) + 9 + (sumR n.rows + 9 * cntR n.rows + 9 * n.rows.length) := by
  have a := textsB_le2 n.texts h.2.2.1
  have b := rowsB_le n.rows h.2.2.2
  have c := numsB_le n.nums
  have d1 := numB_le n.kind.toNat
  have d2 := numB_le n.nums.length
  have d3 := numB_le n.texts.length
  have d4 := numB_le n.rows.length
  simp only [NoteD.body, listB, List.length_append]
  omega

theorem limA_may (k : Nat) : (limA k).may ↔ k ≤ 64 := by
  have e6 : (limA k).nums.length = k := List.length_replicate
  have e7 : (limA k).kind = 7 := rfl
  have e1 : sumL (limA k).texts = 0 := rfl
  have e2 : sumR (limA k).rows = 0 := rfl
  have e3 : cntR (limA k).rows = 0 := rfl
  have e4 : (limA k).texts.length = 0 := rfl
  have e5 : (limA k).rows.length = 0 := rfl
  constructor
  · intro h
    have := h.1.2.2.1
    omega
  · intro h
    have ht : (limA k).textsOk := ⟨by omega, by omega, fun _ ht => absurd ht List.not_mem_nil, fun _ ht => absurd ht List.not_mem_nil⟩
    have hb := body_small (limA k) ht (by omega)
    refine ⟨⟨by omega, by omega, by omega, ?_⟩, ht, by omega⟩
    intro x hx
    rw [List.eq_of_mem_replicate hx]
    exact ⟨by omega, by omega⟩
theorem limB_may (q k : Nat) (hq : q = 4000) : (limB q k).may ↔ k ≤ 96 := by
  have e3 : cntR (limB q k).rows = k := by
    show ([List.replicate k ([] : List UInt8)].map List.length).sum = k
    simp
  have e7 : (limB q k).kind = 7 := rfl
  have e4 : (limB q k).texts.length = q := List.length_replicate
  have e5 : (limB q k).rows.length = 1 := rfl
  have e6 : (limB q k).nums.length = 0 := rfl
  have e1 : sumL (limB q k).texts = 0 := sumL_rep q
  have e2 : sumR (limB q k).rows = 0 := by
    have := sumL_rep k
    show ([List.replicate k ([] : List UInt8)].map sumL).sum = 0
    simp only [List.map_cons, List.map_nil, List.sum_cons, List.sum_nil]; omega
  constructor
  · intro h
    have := h.2.1.2.1
    omega
  · intro h
    have ht : (limB q k).textsOk := ⟨by omega, by omega, shortL_rep q, by
      intro r hr
      have : r = List.replicate k [] := List.mem_singleton.1 hr
      rw [this]; exact shortL_rep k⟩
    have hb := body_small (limB q k) ht (by omega)
    exact ⟨⟨by omega, by omega, by omega, fun _ ht => absurd ht List.not_mem_nil⟩, ht, by omega⟩
theorem limC_may (k : Nat) : (limC k).may ↔ k ≤ 4096 := by
  have e1 : sumL (limC k).texts = 0 := rfl
  have e2 : sumR (limC k).rows = 0 := sumR_rep k
  have e3 : cntR (limC k).rows = 0 := cntR_rep k
  have e4 : (limC k).texts.length = 0 := rfl
  have e5 : (limC k).rows.length = k := List.length_replicate
  have e6 : (limC k).nums.length = 0 := rfl
  have e7 : (limC k).kind = 7 := rfl
  constructor
  · intro h
    have := h.2.1.1
    omega
  · intro h
    have ht : (limC k).textsOk := ⟨by omega, by omega, fun _ ht => absurd ht List.not_mem_nil, by
      intro r hr
      rw [List.eq_of_mem_replicate hr]; exact fun _ ht => absurd ht List.not_mem_nil⟩
    have hb := body_small (limC k) ht (by omega)
    exact ⟨⟨by omega, by omega, by omega, fun _ ht => absurd ht List.not_mem_nil⟩, ht, by omega⟩
theorem limD_may (k : Nat) : (limD k).may ↔ k ≤ 65536 := by
  have e1 : sumL (limD k).texts = k := by
    show ([List.replicate k (0 : UInt8)].map List.length).sum = k
    simp
  have e2 : sumR (limD k).rows = 0 := rfl
  have e3 : cntR (limD k).rows = 0 := rfl
  have e4 : (limD k).texts.length = 1 := rfl
  have e5 : (limD k).rows.length = 0 := rfl
  have e6 : (limD k).nums.length = 0 := rfl
  have e7 : (limD k).kind = 7 := rfl
  constructor
  · intro h
    have := h.2.1.2.2.1 (List.replicate k 0) (List.mem_singleton.2 rfl)
    rw [List.length_replicate] at this
    exact this
  · intro h
    have ht : (limD k).textsOk := ⟨by omega, by omega, by
      intro t ht
      have : t = List.replicate k 0 := List.mem_singleton.1 ht
      rw [this, List.length_replicate]; exact h, fun _ ht => absurd ht List.not_mem_nil⟩
    have hb := body_small (limD k) ht (by omega)
    exact ⟨⟨by omega, by omega, by omega, fun _ ht => absurd ht List.not_mem_nil⟩, ht, by omega⟩
theorem limA_sane (k : Nat) : (limA k).sane := ⟨Nat.zero_le _, fun _ ht => absurd ht List.not_mem_nil⟩
theorem limB_sane (q k : Nat) (hq : q ≤ 100000) (h : k ≤ 100000) : (limB q k).sane := by
  refine ⟨?_, ?_⟩
  · have : (limB q k).texts.length = q := List.length_replicate
    omega
  · intro r hr
    have : r = List.replicate k [] := List.mem_singleton.1 hr
    rw [this, List.length_replicate]; omega
theorem limC_sane (k : Nat) : (limC k).sane := by
  refine ⟨Nat.zero_le _, ?_⟩
  intro r hr
  rw [List.eq_of_mem_replicate hr]; exact Nat.zero_le _
theorem limD_sane (k : Nat) : (limD k).sane := by
  refine ⟨?_, fun _ ht => absurd ht List.not_mem_nil⟩
  have : (limD k).texts.length = 1 := rfl
  omega

theorem rowIn_set {w : World} {B k i : Nat} {e : TypeId} {v u : Value} {xs : List Value} (h : RowIn w B e v xs) (hk : k < B) : RowIn (w.setCell ⟨k, i, none⟩ u) B e v xs :=
  h.kept (fun g _ _ hB hg => (Below.heap_setCell w ⟨k, i, none⟩ u g (by simp only; omega)).trans hg)
theorem rowIn_below {w w' : World} {B : Nat} {e : TypeId} {v : Value} {xs : List Value} (h : RowIn w B e v xs) (hb : Below w.heap.size w w') : RowIn w' B e v xs :=
  h.kept (fun g _ _ _ hg => (hb.block g (lt_of_block hg)).trans hg)
theorem rowIn_one (w : World) (B : Nat) (e : TypeId) (x : Value) (cap : Nat) (hB : B ≤ w.heap.size) : RowIn (w.alloc (.cells #[x] e)) B e (.slice (some ⟨w.heap.size, 0, none⟩) 1 cap) [x] := by
  refine .inr ⟨w.heap.size, 0, cap, #[x], (0, 0), rfl, hB, box_at w _, fun j y hy => ?_⟩
  match j, hy with
  | 0, hy => simpa using hy
  | j + 1, hy => simp at hy
theorem rowIn_made {w : World} {B g n : Nat} {e : TypeId} {z : Value} (h : w.ownsRow B e 1 (.slice (some ⟨g, 0, none⟩) n n) n (madeCells #[z] n).toList) : RowIn w B e (.slice (some ⟨g, 0, none⟩) n n) (List.replicate n z) := by
  rw [toList_madeCells_one] at h
  refine rowIn_own ?_
  rw [List.length_replicate]; exact h
theorem strs_of_rowIn {w : World} {B : Nat} {e : TypeId} {v : Value} {ss : List (List UInt8)} (h : RowIn w B e v (strCs ss)) (hl : ss.length ≤ 9223372036854775807) : StrsAt w v ss := by
  have hle : (strCs ss).length = ss.length := by simp [strCs]
  obtain ⟨_, ao, cap, rfl, h3⟩ := h.vals (by rw [hle]; exact hl)
  refine ⟨hl, ao, cap, by rw [hle], ?_⟩
  rcases h3 with h3 | ⟨b, o, h1, h2, h3⟩
  · left
    rw [h3] at hle
    exact List.length_eq_zero_iff.1 hle.symm
  · exact .inr ⟨b, o, h1, h2, fun j t ht => h3 j _ (by rw [strCs, List.getElem?_map, ht]; rfl)⟩
theorem nil_strs (w : World) : StrsAt w (.slice none 0 0) [] := ⟨Nat.zero_le _, none, 0, rfl, .inl rfl⟩
theorem nil_ints (w : World) : IntsAt w (.slice none 0 0) [] := ⟨Nat.zero_le _, none, 0, rfl, .inl rfl⟩
theorem nil_rows (w : World) : RowsAt w (.slice none 0 0) [] := ⟨[], ⟨Nat.zero_le _, none, 0, rfl, .inl rfl⟩, rfl, by simp⟩

theorem limA_at {w : World} {B k : Nat} {e : TypeId} {v : Value} (h : RowIn w B e v (List.replicate k (.int .i64 0))) (hk : k ≤ 100000) : NoteAt w (.agg #[.int .i64 7, v, .slice none 0 0, .slice none 0 0]) (limA k) := by
  refine ⟨_, _, _, rfl, ?_, nil_strs w, nil_rows w⟩
  have e1 : intCs (limA k).nums = List.replicate k (.int .i64 0) := by
    show (List.replicate k (0 : Int)).map (Value.int .i64) = _
    rw [List.map_replicate]
  unfold IntsAt
  rw [e1]
  exact h.vals (by rw [List.length_replicate]; omega)
theorem limB_at {w : World} {B q k : Nat} {e e1 e2 : TypeId} {v u x : Value} (h : RowIn w B e v (List.replicate q (.string ⟨#[]⟩))) (h1 : RowIn w B e1 u [x]) (h2 : RowIn w B e2 x (List.replicate k (.string ⟨#[]⟩))) (hq : q ≤ 100000) (hk : k ≤ 100000) : NoteAt w (.agg #[.int .i64 7, .slice none 0 0, v, u]) (limB q k) := by
  have key : ∀ m : Nat, strCs (List.replicate m []) = List.replicate m (.string ⟨#[]⟩) := fun m => by
    rw [strCs, List.map_replicate]
  refine ⟨_, _, _, rfl, nil_ints w, strs_of_rowIn (by rw [show (limB q k).texts = List.replicate q [] from rfl, key]; exact h) (by rw [show (limB q k).texts = List.replicate q [] from rfl, List.length_replicate]; omega), [x], h1.vals (by simp), rfl, ?_⟩
  intro j y r hy hr
  match j, hy, hr with
  | 0, hy, hr =>
    have ey : x = y := by simpa using hy
    have er : List.replicate k [] = r := by
      have : [List.replicate k ([] : List UInt8)][0]? = some r := hr
      simpa using this
    subst ey er
    exact strs_of_rowIn (by rw [key]; exact h2) (by rw [List.length_replicate]; omega)
  | j + 1, hy, hr => simp at hy
theorem limC_at {w : World} {B k : Nat} {e : TypeId} {v : Value} (h : RowIn w B e v (List.replicate k (.slice none 0 0))) (hk : k ≤ 100000) : NoteAt w (.agg #[.int .i64 7, .slice none 0 0, .slice none 0 0, v]) (limC k) := by
  refine ⟨_, _, _, rfl, nil_ints w, nil_strs w, List.replicate k (.slice none 0 0), h.vals (by rw [List.length_replicate]; omega), ?_, ?_⟩
  · rw [show (limC k).rows = List.replicate k [] from rfl, List.length_replicate, List.length_replicate]
  · intro j y r hy hr
    have e1 := List.eq_of_mem_replicate (List.mem_of_getElem? hy)
    have e2 := List.eq_of_mem_replicate (List.mem_of_getElem? hr)
    subst e1 e2
    exact nil_strs w
theorem limD_at {w : World} {B k : Nat} {e : TypeId} {v : Value} (h : RowIn w B e v [.string ⟨(List.replicate k (0 : UInt8)).toArray⟩]) : NoteAt w (.agg #[.int .i64 7, .slice none 0 0, v, .slice none 0 0]) (limD k) :=
  ⟨_, _, _, rfl, nil_ints w, strs_of_rowIn h (by show [List.replicate k (0 : UInt8)].length ≤ _; simp), nil_rows w⟩

theorem lbytes_zero {w1 : World} {base g n : Nat} (hown : w1.ownsRow base 5 1 (.slice (some ⟨g, 0, none⟩) n n) n (madeCells #[Value.int IntKind.u8 0] n).toList) : Bytes w1 g (List.replicate n 0) := by
  have hlt := (hown.lt g rfl).2
  refine ⟨hlt, fun j x hx => ?_⟩
  have hj : j < n := by have := (List.getElem?_eq_some_iff.1 hx).1; simpa using this
  have hx0 : x = 0 := by rw [List.getElem?_replicate, if_pos hj] at hx; exact (Option.some.inj hx).symm
  subst hx0
  refine ⟨?_, hown.frozenAt j⟩
  rw [hown.cellAt j (by omega), toList_madeCells_one, List.getElem?_replicate, if_pos (by omega)]
  rfl

/-- The box of the note, as it is made. -/
abbrev limBox : Obj := .cells #[.int .i64 7, .slice none 0 0, .slice none 0 0, .slice none 0 0] 26

set_option maxHeartbeats 8000000 in
set_option maxRecDepth 100000 in
theorem wireLimits_walk (which more : Int) (w : World) (_ : (Lit.int .i64 which).wf = true) (_ : (Lit.int .i64 more).wf = true) :
    Calls Try.prog 3 #[.int .i64 which, .int .i64 more] w fun e w' => e = .returned (.bool true) ∧ Below w.heap.size w w' := by
  obtain ⟨m, hm, hm3⟩ : ∃ m : Nat, bits .and .i64 more 3 = (m : Int) ∧ m ≤ 3 := ⟨(more % 4).toNat, by rw [i64_mask more 2 3 4 (by omega) (by decide) (by decide)]; omega, by omega⟩
  obtain ⟨c, hc, hc3⟩ : ∃ m : Nat, bits .and .i64 which 3 = (m : Int) ∧ m ≤ 3 := ⟨(which % 4).toNat, by rw [i64_mask which 2 3 4 (by omega) (by decide) (by decide)]; omega, by omega⟩
  obtain ⟨i1, hi1, hy0, hy1, hy2⟩ := info_parts infoInt
  obtain ⟨i2, hi2, hu0, hu1, hu2⟩ := info_parts info9
  obtain ⟨i3, hi3, hr0, hr1, hr2⟩ := info_parts infoRow
  obtain ⟨i4, hi4, hv0, hv1, hv2⟩ := info_parts info5
  have hcs : c = 0 ∨ c = 1 ∨ c = 2 ∨ c = 3 := by omega
  rcases hcs with rfl | rfl | rfl | rfl
  case' inl =>
    go_enter Try.func3, Try.ntmps3
    go_wp2_with (at_make; refine wpList_make_full _ rfl _ _ 22 rfl (w.heap.size + 1) 3 i1 (.int .i64 0) 1 Try.underlying22 hi1 hy0 hy1 _ _ _ _ (63 + m) rfl rfl (by omega) (by omega) (by rw [hy2]; omega) (by unfold maxLen; omega) (by simp) ?_)
    intro w1 hown hgrow
    have hb0 : Below w.heap.size w w1 := ((Below.refl _ _).alloc (Nat.le_refl _) limBox).grown hgrow (by simp) (by simp)
    have hblk := (hgrow.block w.heap.size (by simp) (by simp)).trans (box_at w limBox)
    have hrow := rowIn_made hown
    clear hown hgrow
    obtain ⟨⟨g0, g1, g2, g3⟩, ⟨f0, f1, f2, f3⟩⟩ := four_cells hblk
    have HBK := Hid.mk (four_set1 (v := .slice (some ⟨w.heap.size + 1, 0, none⟩) (63 + m) (63 + m)) hblk)
    obtain ⟨⟨r0, r1, r2, r3⟩, _⟩ := four_cells HBK.out
    have NA := Hid.mk (limA_at (rowIn_set hrow (Nat.lt_succ_self _) (i := 1) (u := .slice (some ⟨w.heap.size + 1, 0, none⟩) (63 + m) (63 + m))) (by omega))
    have B1 := Hid.mk (hb0.setCell (p := ⟨w.heap.size, 1, none⟩) (Nat.le_refl _) (.slice (some ⟨w.heap.size + 1, 0, none⟩) (63 + m) (63 + m)))
    have HM : Hid ((limA (63 + m)).may ↔ m ≤ 1) := Hid.mk (by rw [limA_may]; omega)
    have HS := Hid.mk (limA_sane (63 + m))
    clear hrow hb0 hblk
    go_wp2_with fail
    obtain ⟨W1, hW1⟩ : ∃ W, W = w1.setCell ⟨w.heap.size, 1, none⟩ (.slice (some ⟨w.heap.size + 1, 0, none⟩) (63 + m) (63 + m)) := ⟨_, rfl⟩
    obtain ⟨nd, hnd⟩ : ∃ n, n = limA (63 + m) := ⟨_, rfl⟩
    rw [← hW1] at NA B1 HBK r0 r1 r2 r3 ⊢
    rw [← hnd] at NA HM HS
    clear hW1 hnd g0 g1 g2 g3 f0 f1 f2 f3
  case' inr.inl =>
    go_enter Try.func3, Try.ntmps3
    obtain ⟨q, hq0⟩ : ∃ q : Nat, q = 4000 := ⟨_, rfl⟩
    have hq1 : q ≤ 4000 := by omega
    have hq : Hid (q = 4000) := Hid.mk hq0
    clear hq0
    go_wp2_with (at_make; refine wpList_make_full _ rfl _ _ 23 rfl (w.heap.size + 1) 9 i2 (.string ⟨#[]⟩) 1 Try.underlying23 hi2 hu0 hu1 _ _ _ _ q rfl rfl (by have := hq.out; omega) (by have := hq.out; omega) (by rw [hu2]; omega) (by unfold maxLen; omega) (by simp) ?_)
    intro w1 hown hgrow
    have hb0 : Below w.heap.size w w1 := ((Below.refl _ _).alloc (Nat.le_refl _) limBox).grown hgrow (by simp) (by simp)
    have hblk := (hgrow.block w.heap.size (by simp) (by simp)).trans (box_at w limBox)
    have hrow := rowIn_made hown
    have hs1 : w.heap.size + 1 ≤ w1.heap.size := by have := (hown.lt (w.heap.size + 1) rfl).2; omega
    clear hown hgrow
    obtain ⟨⟨g0, g1, g2, g3⟩, ⟨f0, f1, f2, f3⟩⟩ := four_cells hblk
    have hblk2 := four_set2 (v := .slice (some ⟨w.heap.size + 1, 0, none⟩) q q) hblk
    have hrow2 := rowIn_set hrow (Nat.lt_succ_self _) (i := 2) (u := .slice (some ⟨w.heap.size + 1, 0, none⟩) q q)
    have hb2 := hb0.setCell (p := ⟨w.heap.size, 2, none⟩) (Nat.le_refl _) (.slice (some ⟨w.heap.size + 1, 0, none⟩) q q)
    have hz2 : (w1.setCell ⟨w.heap.size, 2, none⟩ (.slice (some ⟨w.heap.size + 1, 0, none⟩) q q)).heap.size = w1.heap.size := by simp
    clear hrow hb0 hblk
    go_wp2_with (at_make; refine wpList_make_full _ rfl _ _ 23 rfl (w.heap.size + 1) 9 i2 (.string ⟨#[]⟩) 1 Try.underlying23 hi2 hu0 hu1 _ _ _ _ (95 + m) rfl rfl (by omega) (by omega) (by rw [hu2]; omega) (by unfold maxLen; omega) (by simp; omega) ?_)
    intro w2 hown hgrow
    have hb3 := hb2.grown hgrow (by simp; omega) (by simp)
    have hblk3 := (hgrow.block w.heap.size (by simp; omega) (by simp)).trans hblk2
    have hrow3 := rowIn_made hown
    have hrow4 : RowIn w2 (w.heap.size + 1) 9 (.slice (some ⟨w.heap.size + 1, 0, none⟩) q q) (List.replicate q (.string ⟨#[]⟩)) := hrow2.kept (fun g _ _ _ hg => (hgrow.block g (lt_of_block hg) (by simp)).trans hg)
    have hlt2 : w.heap.size < w2.heap.size := lt_of_block hblk3
    obtain ⟨w3, hw3⟩ : ∃ W, W = w2.setCell ⟨w.heap.size, 3, none⟩ (.slice (some ⟨w2.heap.size, 0, none⟩) 1 1) := ⟨_, rfl⟩
    have hz3 : w3.heap.size = w2.heap.size := by rw [hw3]; simp
    have hlt3 : w.heap.size < w3.heap.size := by rw [hz3]; exact hlt2
    obtain ⟨W1, hW1⟩ : ∃ W, W = w3.alloc (.cells #[.slice (some ⟨w1.heap.size, 0, none⟩) (95 + m) (95 + m)] 23) := ⟨_, rfl⟩
    have hbA : Below w3.heap.size w3 W1 := by rw [hW1]; exact (Below.refl _ _).alloc (Nat.le_refl _) _
    have hrow5 : RowIn W1 (w.heap.size + 1) 23 (.slice (some ⟨w2.heap.size, 0, none⟩) 1 1) [.slice (some ⟨w1.heap.size, 0, none⟩) (95 + m) (95 + m)] := by rw [hW1, ← hz3]; exact rowIn_one w3 _ _ _ 1 hlt3
    have hblk4 := four_set3 (v := .slice (some ⟨w2.heap.size, 0, none⟩) 1 1) hblk3
    have hrow6 := rowIn_set hrow4 (Nat.lt_succ_self _) (i := 3) (u := .slice (some ⟨w2.heap.size, 0, none⟩) 1 1)
    have hrow7 := rowIn_set hrow3 (Nat.lt_succ_self _) (i := 3) (u := .slice (some ⟨w2.heap.size, 0, none⟩) 1 1)
    have hb4 := hb3.setCell (p := ⟨w.heap.size, 3, none⟩) (Nat.le_refl _) (.slice (some ⟨w2.heap.size, 0, none⟩) 1 1)
    rw [← hw3] at hblk4 hrow6 hrow7 hb4
    have NA := Hid.mk (limB_at (rowIn_below hrow6 hbA) hrow5 (rowIn_below hrow7 hbA) (by omega) (by omega))
    have B1 := Hid.mk (hb4.trans (hbA.mono (Nat.le_of_lt hlt3)))
    have HBK := Hid.mk ((hbA.block _ hlt3).trans hblk4)
    clear g0 g1 g2 g3 f0 f1 f2 f3
    obtain ⟨⟨g0, g1, g2, g3⟩, ⟨f0, f1, f2, f3⟩⟩ := four_cells hblk3
    obtain ⟨⟨r0, r1, r2, r3⟩, _⟩ := four_cells hblk4
    rw [hw3] at r0 r1 r2 r3
    have HM : Hid ((limB q (95 + m)).may ↔ m ≤ 1) := Hid.mk (by rw [limB_may q _ hq.out]; omega)
    have HS := Hid.mk (limB_sane q (95 + m) (by omega) (by omega))
    have HW1 := Hid.mk hW1
    have HW3 := Hid.mk hw3
    clear hown hgrow hblk2 hblk3 hblk4 hrow2 hrow3 hrow4 hrow5 hrow6 hrow7 hb2 hb3 hb4 hbA hz2 hW1 hw3 hz3 hlt3
    go_wp2_with fail
    rw [← HW3.out, ← HW1.out]
    obtain ⟨nd, hnd⟩ : ∃ n, n = limB q (95 + m) := ⟨_, rfl⟩
    rw [← hnd] at NA HM HS
    clear hnd g0 g1 g2 g3 f0 f1 f2 f3 HW1 HW3
  case' inr.inr.inl =>
    go_enter Try.func3, Try.ntmps3
    go_wp2_with (at_make; refine wpList_make_full _ rfl _ _ 24 rfl (w.heap.size + 1) 23 i3 (.slice none 0 0) 1 Try.underlying24 hi3 hr0 hr1 _ _ _ _ (4095 + m) rfl rfl (by omega) (by omega) (by rw [hr2]; omega) (by unfold maxLen; omega) (by simp) ?_)
    intro w1 hown hgrow
    have hb0 : Below w.heap.size w w1 := ((Below.refl _ _).alloc (Nat.le_refl _) limBox).grown hgrow (by simp) (by simp)
    have hblk := (hgrow.block w.heap.size (by simp) (by simp)).trans (box_at w limBox)
    have hrow := rowIn_made hown
    clear hown hgrow
    obtain ⟨⟨g0, g1, g2, g3⟩, ⟨f0, f1, f2, f3⟩⟩ := four_cells hblk
    have HBK := Hid.mk (four_set3 (v := .slice (some ⟨w.heap.size + 1, 0, none⟩) (4095 + m) (4095 + m)) hblk)
    obtain ⟨⟨r0, r1, r2, r3⟩, _⟩ := four_cells HBK.out
    have NA := Hid.mk (limC_at (rowIn_set hrow (Nat.lt_succ_self _) (i := 3) (u := .slice (some ⟨w.heap.size + 1, 0, none⟩) (4095 + m) (4095 + m))) (by omega))
    have B1 := Hid.mk (hb0.setCell (p := ⟨w.heap.size, 3, none⟩) (Nat.le_refl _) (.slice (some ⟨w.heap.size + 1, 0, none⟩) (4095 + m) (4095 + m)))
    have HM : Hid ((limC (4095 + m)).may ↔ m ≤ 1) := Hid.mk (by rw [limC_may]; omega)
    have HS := Hid.mk (limC_sane (4095 + m))
    clear hrow hb0 hblk
    go_wp2_with fail
    obtain ⟨W1, hW1⟩ : ∃ W, W = w1.setCell ⟨w.heap.size, 3, none⟩ (.slice (some ⟨w.heap.size + 1, 0, none⟩) (4095 + m) (4095 + m)) := ⟨_, rfl⟩
    obtain ⟨nd, hnd⟩ : ∃ n, n = limC (4095 + m) := ⟨_, rfl⟩
    rw [← hW1] at NA B1 HBK r0 r1 r2 r3 ⊢
    rw [← hnd] at NA HM HS
    clear hW1 hnd g0 g1 g2 g3 f0 f1 f2 f3
  case' inr.inr.inr =>
    go_enter Try.func3, Try.ntmps3
    obtain ⟨k, hk0⟩ : ∃ k : Nat, k = 65535 + m := ⟨_, rfl⟩
    have hk1 : k ≤ 65538 := by omega
    have hk : Hid (k = 65535 + m) := Hid.mk hk0
    clear hk0
    go_wp2_with (at_make; refine wpList_make_full _ rfl _ _ 27 rfl (w.heap.size + 1) 5 i4 (.int .u8 0) 1 Try.underlying27 hi4 hv0 hv1 _ _ _ _ k rfl rfl (by have := hk.out; omega) (by have := hk.out; omega) (by rw [hv2]; omega) (by unfold maxLen; omega) (by simp) ?_)
    intro w1 hown hgrow
    have hb0 : Below w.heap.size w w1 := ((Below.refl _ _).alloc (Nat.le_refl _) limBox).grown hgrow (by simp) (by simp)
    have hblk := (hgrow.block w.heap.size (by simp) (by simp)).trans (box_at w limBox)
    have hcv := (lbytes_zero hown).conv k
    rw [List.length_replicate] at hcv
    obtain ⟨t, ht⟩ : ∃ t, t = List.replicate k (0 : UInt8) := ⟨_, rfl⟩
    rw [← ht] at hcv
    have hlt2 : w.heap.size < w1.heap.size := lt_of_block hblk
    obtain ⟨w3, hw3⟩ : ∃ W, W = w1.setCell ⟨w.heap.size, 2, none⟩ (.slice (some ⟨w1.heap.size, 0, none⟩) 1 1) := ⟨_, rfl⟩
    have hz3 : w3.heap.size = w1.heap.size := by rw [hw3]; simp
    have hlt3 : w.heap.size < w3.heap.size := by rw [hz3]; exact hlt2
    obtain ⟨W1, hW1⟩ : ∃ W, W = w3.alloc (.cells #[.string ⟨t.toArray⟩] 9) := ⟨_, rfl⟩
    have hbA : Below w3.heap.size w3 W1 := by rw [hW1]; exact (Below.refl _ _).alloc (Nat.le_refl _) _
    have hrow5 : RowIn W1 (w.heap.size + 1) 9 (.slice (some ⟨w1.heap.size, 0, none⟩) 1 1) [.string ⟨(List.replicate k (0 : UInt8)).toArray⟩] := by rw [hW1, ← hz3, ← ht]; exact rowIn_one w3 _ _ _ 1 hlt3
    have hblk4 := four_set2 (v := .slice (some ⟨w1.heap.size, 0, none⟩) 1 1) hblk
    have hb4 := hb0.setCell (p := ⟨w.heap.size, 2, none⟩) (Nat.le_refl _) (.slice (some ⟨w1.heap.size, 0, none⟩) 1 1)
    rw [← hw3] at hblk4 hb4
    have NA := Hid.mk (limD_at hrow5)
    have B1 := Hid.mk (hb4.trans (hbA.mono (Nat.le_of_lt hlt3)))
    have HBK := Hid.mk ((hbA.block _ hlt3).trans hblk4)
    obtain ⟨⟨g0, g1, g2, g3⟩, ⟨f0, f1, f2, f3⟩⟩ := four_cells hblk
    obtain ⟨⟨r0, r1, r2, r3⟩, _⟩ := four_cells hblk4
    rw [hw3] at r0 r1 r2 r3
    have HM : Hid ((limD k).may ↔ m ≤ 1) := Hid.mk (by have := hk.out; rw [limD_may]; omega)
    have HS := Hid.mk (limD_sane k)
    have HW1 := Hid.mk hW1
    have HW3 := Hid.mk hw3
    clear hown hgrow hblk hblk4 hrow5 hb0 hb4 hbA hW1 hw3 hz3 hlt3 ht
    go_wp2_with fail
    rw [← HW3.out, ← HW1.out]
    obtain ⟨nd, hnd⟩ : ∃ n, n = limD k := ⟨_, rfl⟩
    rw [← hnd] at NA HM HS
    clear hnd g0 g1 g2 g3 f0 f1 f2 f3 HW1 HW3

  all_goals (
    have P1 := Hid.mk (pack_any _ nd W1 NA.out HS.out)
    by_cases h1 : m ≤ 1
    · have hmay := HM.out.2 h1
      rw [packV_may hmay] at P1
      have hbm := hmay.2.2
      have hsl := sealB_len nd.body
      have hun := unpackP_seal nd hmay []
      rw [List.append_nil] at hun
      obtain ⟨l, hl⟩ : ∃ l, l = sealB nd.body := ⟨_, rfl⟩
      rw [← hl] at P1 hsl hun
      have hll : l.length ≤ 1048584 := by omega
      have hzl := size_list l
      have CU : Hid (∀ w, Calls Try.prog 6 #[.string ⟨l.toArray⟩] w (UEnd l w)) := Hid.mk (fun w => unpack_any l w (by omega))
      unfold UEnd at CU
      rw [hun] at CU
      simp only at CU
      have h1I : ¬ (0 : Int) < (m : Int) - 1 := by omega
      clear hmay hbm hsl hun hl HM
      refine P1.out.mono ?_
      rintro e w2 ⟨rfl, hb2⟩
      go_wp2_with fail
      refine (CU.out _).mono ?_
      rintro e w5 ⟨v5, rfl, hown, hb5⟩
      obtain ⟨a0, l0, c0, a1, l1, c1, a2, l2, c2, rfl⟩ := own_parts hown
      have bel5 : Below w5.heap.size w5 (w5.alloc (.cells #[.int .i64 nd.kind, .slice a0 l0 c0, .slice a1 l1 c1, .slice a2 l2 c2] 26)) := (Below.refl _ _).alloc (Nat.le_refl _) _
      have hlt1 : w.heap.size < W1.heap.size := lt_of_block HBK.out
      have b25 := keepB hb2 hb5 (Nat.le_refl _)
      have B5 := Hid.mk (keepB b25 bel5 (Nat.le_refl _))
      have C := Hid.mk (sameN_any _ _ nd nd _ (NA.out.below B5.out) (hown.at_.below bel5))
      rw [decide_eq_true rfl] at C
      have hlt5 : w.heap.size < w5.heap.size := Nat.lt_of_lt_of_le hlt1 b25.size
      obtain ⟨⟨g0, g1, g2, g3⟩, _⟩ := four_cells ((b25.block _ hlt1).trans HBK.out)
      clear hown hb5 hb2 bel5 CU r0 r1 r2 r3
      go_wp2_with fail
      refine C.out.mono ?_
      rintro e w6 ⟨rfl, hb6⟩
      have B6 := Hid.mk (keepB B5.out hb6 (Nat.le_refl _))
      clear hb6 C g0 g1 g2 g3
      go_wp2_with fail
      refine (awake_any _).mono ?_
      rintro e w7 ⟨rfl, hb7⟩
      go_wp2
      go_ret
      exact ⟨rfl, B1.out.trans ((keepB B6.out hb7 (Nat.le_refl _)).mono B1.out.size)⟩
    · have hmay : ¬ nd.may := fun h => h1 (HM.out.1 h)
      rw [packV_not hmay] at P1
      have h1I : (0 : Int) < (m : Int) - 1 := by omega
      clear hmay HM
      refine P1.out.mono ?_
      rintro e w2 ⟨rfl, hb2⟩
      go_wp2_with fail
      refine (awake_any _).mono ?_
      rintro e w7 ⟨rfl, hb7⟩
      go_wp2
      go_ret
      exact ⟨rfl, B1.out.trans ((keepB hb2 hb7 (Nat.le_refl _)).mono B1.out.size)⟩)
end Go.Proofs.Ytiodlbmdkpomhaa
