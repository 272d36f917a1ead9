/- The statement that notes one behind the other, cut anywhere, are read as those that are whole. -/
import Derived.Test.YtnepednomejniaaWSameA
import Derived.Test.YtnepednomejniaaWRow
namespace Go.Proofs.Ytnepednomejniaa
open Go.RowKit

theorem allP_seals : ∀ (a : List NoteD) (r : List UInt8), (∀ n ∈ a, n.may) → allP (seals a ++ r) = (a ++ (allP r).1, (seals a).length + (allP r).2)
  | [], r, _ => by simp [seals]
  | n :: a, r, h => by
    rw [seals_cons, List.append_assoc, allP_seal n (h n (by simp)), allP_seals a r (fun m hm => h m (by simp [hm]))]
    simp [Nat.add_assoc]
theorem allP_nil : allP [] = ([], 0) := allP_end (by rw [unpackP_1 (by simp)]; simp)

/-- What is read of notes that are cut. -/
theorem allP_cut (ns : List NoteD) (h : ∀ n ∈ ns, n.may) (K m : Nat) (hm : m ≤ ns.length) (h1 : (seals (ns.take m)).length ≤ K) (h2 : m < ns.length → K < (seals (ns.take (m + 1))).length) :
    allP ((seals ns).take K) = (ns.take m, (seals (ns.take m)).length) := by
  have e : seals ns = seals (ns.take m) ++ seals (ns.drop m) := by rw [← seals_append, List.take_append_drop]
  have e2 : (seals ns).take K = seals (ns.take m) ++ (seals (ns.drop m)).take (K - (seals (ns.take m)).length) := by
    rw [e, List.take_append, List.take_of_length_le h1]
  have hend : allP ((seals (ns.drop m)).take (K - (seals (ns.take m)).length)) = ([], 0) := by
    by_cases hlt : m < ns.length
    · rw [List.drop_eq_getElem_cons hlt, seals_cons]
      refine allP_end (unpackP_cut _ (h _ (List.getElem_mem hlt)).2.2 _ _ ?_)
      have h3 := h2 hlt
      rw [List.take_succ_eq_append_getElem hlt, seals_snoc, List.length_append] at h3
      omega
    · rw [List.drop_of_length_le (by omega)]
      simp only [seals, List.map_nil, List.flatten_nil, List.take_nil]
      exact allP_nil
  rw [e2, allP_seals _ _ (fun n hn => h n (List.mem_of_mem_take hn)), hend]
  simp

/-- Where the notes end. -/
def endsOf (ns : List NoteD) : List Int := (List.range ns.length).map fun j => ((seals (ns.take (j + 1))).length : Int)
theorem endsOf_len (ns : List NoteD) : (endsOf ns).length = ns.length := by simp [endsOf]
theorem endsOf_snoc (ns : List NoteD) (n : NoteD) : endsOf (ns ++ [n]) = endsOf ns ++ [((seals (ns ++ [n])).length : Int)] := by
  unfold endsOf
  rw [List.length_append, List.length_singleton, List.range_succ, List.map_append]
  congr 1
  · apply List.map_congr_left
    intro j hj
    have := List.mem_range.1 hj
    rw [List.take_append_of_le_length (by omega)]
  · simp only [List.map_cons, List.map_nil]
    rw [List.take_of_length_le (by simp)]
theorem endsOf_at (ns : List NoteD) (j : Nat) (hj : j < ns.length) : (endsOf ns)[j]? = some ((seals (ns.take (j + 1))).length : Int) := by
  unfold endsOf
  rw [List.getElem?_map, List.getElem?_range hj]; rfl

/-- A row of the call's own that holds notes of the world w0. -/
def GoodRow (w0 w : World) (v : Value) (ns : List NoteD) : Prop :=
  ∃ cs, w.ownsRow w0.heap.size 37 4 v ns.length cs ∧ ∀ (j : Nat) n, ns[j]? = some n → ∃ c1 c2 c3, cs[j * 4]? = some (.int .i64 n.kind) ∧ cs[j * 4 + 1]? = some c1 ∧ cs[j * 4 + 2]? = some c2 ∧ cs[j * 4 + 3]? = some c3 ∧ NoteAt w0 (.agg #[.int .i64 n.kind, c1, c2, c3]) n
theorem GoodRow.below {w0 w w' : World} {v : Value} {ns : List NoteD} (h : GoodRow w0 w v ns) (hb : Below w.heap.size w w') : GoodRow w0 w' v ns := by
  obtain ⟨cs, h1, h2⟩ := h
  exact ⟨cs, owns_below h1 hb, h2⟩
theorem GoodRow.at_ {w0 w : World} {v : Value} {ns : List NoteD} (h : GoodRow w0 w v ns) (hb : Below w0.heap.size w0 w) (hl : ns.length ≤ 9223372036854775807) : NotesAt w v ns := by
  obtain ⟨cs, h1, h2⟩ := h
  have h10 := h1
  rcases h1.2 with ⟨rfl, h0⟩ | ⟨g, cap, cur, rfl, e2, e3, e4⟩
  · exact ⟨hl, none, 0, by rw [h0], .inl (List.length_eq_zero_iff.1 h0)⟩
  · refine ⟨hl, _, cap, rfl, .inr ⟨g, 0, rfl, lt_of_block e3, fun j n hj => ?_⟩⟩
    obtain ⟨c1, c2, c3, a0, a1, a2, a3, a4⟩ := h2 j n hj
    simp only [Nat.zero_add]
    exact ⟨c1, c2, c3, cellAt_wide h10 rfl a0, cellAt_wide h10 rfl a1, cellAt_wide h10 rfl a2, cellAt_wide h10 rfl a3, a4.below hb⟩
theorem GoodRow.snoc {w0 w w' : World} {v v' c1 c2 c3 : Value} {ns : List NoteD} {n : NoteD} {cs : List Value} (h1 : w.ownsRow w0.heap.size 37 4 v ns.length cs)
    (h2 : ∀ (j : Nat) n, ns[j]? = some n → ∃ c1 c2 c3, cs[j * 4]? = some (.int .i64 n.kind) ∧ cs[j * 4 + 1]? = some c1 ∧ cs[j * 4 + 2]? = some c2 ∧ cs[j * 4 + 3]? = some c3 ∧ NoteAt w0 (.agg #[.int .i64 n.kind, c1, c2, c3]) n)
    (hn : NoteAt w0 (.agg #[.int .i64 n.kind, c1, c2, c3]) n) (hv : w'.ownsRow w0.heap.size 37 4 v' (ns.length + 1) (cs ++ [.int .i64 n.kind, c1, c2, c3])) : GoodRow w0 w' v' (ns ++ [n]) := by
  have hl := h1.1
  refine ⟨cs ++ [.int .i64 n.kind, c1, c2, c3], by simpa using hv, fun j m hm => ?_⟩
  rcases Nat.lt_or_ge j ns.length with hj | hj
  · rw [List.getElem?_append_left hj] at hm
    obtain ⟨d1, d2, d3, a0, a1, a2, a3, a4⟩ := h2 j m hm
    refine ⟨d1, d2, d3, ?_, ?_, ?_, ?_, a4⟩
    · rw [List.getElem?_append_left (by omega)]; exact a0
    · rw [List.getElem?_append_left (by omega)]; exact a1
    · rw [List.getElem?_append_left (by omega)]; exact a2
    · rw [List.getElem?_append_left (by omega)]; exact a3
  · have hj2 : j = ns.length := by
      have := (List.getElem?_eq_some_iff.1 hm).1
      simp at this; omega
    subst hj2
    rw [List.getElem?_append_right (Nat.le_refl _), Nat.sub_self] at hm
    simp at hm
    subst hm
    refine ⟨c1, c2, c3, ?_, ?_, ?_, ?_, hn⟩
    · rw [List.getElem?_append_right (by omega), show ns.length * 4 - cs.length = 0 by omega]; rfl
    · rw [List.getElem?_append_right (by omega), show ns.length * 4 + 1 - cs.length = 1 by omega]; rfl
    · rw [List.getElem?_append_right (by omega), show ns.length * 4 + 2 - cs.length = 2 by omega]; rfl
    · rw [List.getElem?_append_right (by omega), show ns.length * 4 + 3 - cs.length = 3 by omega]; rfl

theorem notesAt_take {w : World} {ao : Option Addr} {cap : Nat} {ns : List NoteD} (h : NotesAt w (.slice ao ns.length cap) ns) (m : Nat) (hm : m ≤ ns.length) : NotesAt w (.slice ao m cap) (ns.take m) := by
  obtain ⟨h1, ao', cap', e1, h2⟩ := h
  simp only [Value.slice.injEq, true_and] at e1
  obtain ⟨rfl, rfl⟩ := e1
  have hl : (ns.take m).length = m := by rw [List.length_take]; omega
  refine ⟨by omega, ao, cap, by rw [hl], ?_⟩
  rcases h2 with rfl | ⟨b, o, ha, hb, hc⟩
  · left; simp
  · refine .inr ⟨b, o, ha, hb, fun j n hj => hc j n ?_⟩
    rw [List.getElem?_take] at hj
    split at hj
    · exact hj
    · simp at hj

theorem seals_bound : ∀ {ns : List NoteD}, (∀ n ∈ ns, n.may) → (seals ns).length ≤ 1048584 * ns.length
  | [], _ => by simp [seals]
  | n :: ns, h => by
    have a := seals_bound (ns := ns) (fun m hm => h m (by simp [hm]))
    have b := (h n (by simp)).2.2
    have c := sealB_len n.body
    rw [seals_cons, List.length_append, List.length_cons]; omega
theorem seals_mono (ns : List NoteD) {i j : Nat} (h : i ≤ j) : (seals (ns.take i)).length ≤ (seals (ns.take j)).length := by
  have := seals_le (ns.take j) i
  rwa [List.take_take, Nat.min_eq_left h] at this
end Go.Proofs.Ytnepednomejniaa
