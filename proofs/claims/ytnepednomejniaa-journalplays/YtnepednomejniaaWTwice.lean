/- Lists of notes in memory; the statement that notes that are read, packed again, are the bytes that were read. -/
import Derived.Test.YtnepednomejniaaWAwake
namespace Go.Proofs.Ytnepednomejniaa
open Go.RowKit

/-- A slice of notes in memory, read-only. -/
def NotesAt (w : World) (v : Value) (ns : List NoteD) : Prop :=
  ns.length ≤ 9223372036854775807 ∧ ∃ ao cap, v = .slice ao ns.length cap ∧ (ns = [] ∨ ∃ b o, ao = some ⟨b, o, none⟩ ∧ b < w.heap.size ∧ ∀ (j : Nat) n, ns[j]? = some n → ∃ c1 c2 c3,
    w.cell? ⟨b, o + j * 4, none⟩ = some (.int .i64 n.kind) ∧ w.cell? ⟨b, o + j * 4 + 1, none⟩ = some c1 ∧ w.cell? ⟨b, o + j * 4 + 2, none⟩ = some c2 ∧ w.cell? ⟨b, o + j * 4 + 3, none⟩ = some c3 ∧ NoteAt w (.agg #[.int .i64 n.kind, c1, c2, c3]) n)
theorem NotesAt.below {w w' : World} {v : Value} {ns : List NoteD} (h : NotesAt w v ns) (hb : Below w.heap.size w w') : NotesAt w' v ns := by
  obtain ⟨h1, ao, cap, h2, h3⟩ := h
  refine ⟨h1, ao, cap, h2, ?_⟩
  rcases h3 with h3 | ⟨b, o, ha, hl, hc⟩
  · exact .inl h3
  · refine .inr ⟨b, o, ha, Nat.lt_of_lt_of_le hl hb.size, fun j n hj => ?_⟩
    obtain ⟨c1, c2, c3, a0, a1, a2, a3, a4⟩ := hc j n hj
    have key : ∀ i u, w.cell? ⟨b, i, none⟩ = some u → w'.cell? ⟨b, i, none⟩ = some u := fun i u h => (hb.cell (p := ⟨b, i, none⟩) hl).trans h
    exact ⟨c1, c2, c3, key _ _ a0, key _ _ a1, key _ _ a2, key _ _ a3, a4.below hb⟩
theorem cellAt_wide {w : World} {B g cap n i : Nat} {ao : Option Addr} {e : TypeId} {size : Nat} {xs : List Value} {x : Value} (h : w.ownsRow B e size (.slice ao n cap) n xs) (ha : ao = some ⟨g, 0, none⟩) (hx : xs[i]? = some x) : w.cell? ⟨g, i, none⟩ = some x := by
  subst ha
  have hi := (List.getElem?_eq_some_iff.1 hx).1
  rcases h.2 with ⟨h0, _⟩ | ⟨g', cap', cur, e1, e2, e3, e4, e5, e6, e7⟩
  · simp at h0
  · simp only [Value.slice.injEq, Option.some.injEq, Addr.mk.injEq, and_true] at e1
    obtain ⟨rfl, _, rfl⟩ := e1
    rw [← e7, List.getElem?_take] at hx
    split at hx
    · simp only [World.cell?, e3]
      simpa using hx
    · simp at hx
theorem NotesOwn.at_ {w : World} {B : Nat} {v : Value} {ns : List NoteD} (h : NotesOwn w B v ns) (hl : ns.length ≤ 9223372036854775807) : NotesAt w v ns := by
  obtain ⟨cs, h1, h2⟩ := h
  have h10 := h1
  rcases h1.2 with ⟨rfl, h0⟩ | ⟨g, cap, cur, rfl, e2, e3, e4⟩
  · exact ⟨hl, none, 0, by rw [h0], .inl (List.length_eq_zero_iff.1 h0)⟩
  · refine ⟨hl, _, cap, rfl, .inr ⟨g, 0, rfl, lt_of_block e3, fun j n hj => ?_⟩⟩
    obtain ⟨c1, c2, c3, a0, a1, a2, a3, a4⟩ := h2 j n hj
    simp only [Nat.zero_add]
    exact ⟨c1, c2, c3, cellAt_wide h10 rfl a0, cellAt_wide h10 rfl a1, cellAt_wide h10 rfl a2, cellAt_wide h10 rfl a3, a4.at_⟩

/-- The bytes of notes, one behind the other. -/
def seals (ns : List NoteD) : List UInt8 := (ns.map fun n => sealB n.body).flatten
theorem seals_snoc (ns : List NoteD) (n : NoteD) : seals (ns ++ [n]) = seals ns ++ sealB n.body := by simp [seals]
theorem seals_cons (n : NoteD) (ns : List NoteD) : seals (n :: ns) = sealB n.body ++ seals ns := by simp [seals]

theorem may_sane {n : NoteD} (h : n.may) : n.sane := by
  obtain ⟨_, ⟨h1, h2, _, _⟩, _⟩ := h
  exact ⟨by omega, fun r hr => by have := len_le_cntR hr; omega⟩

theorem allF_sound : ∀ (f : Nat) (l : List UInt8), (∀ n ∈ (allF f l).1, n.may) ∧ l.take (allF f l).2 = seals (allF f l).1 ∧ (allF f l).2 ≤ l.length ∧ (allF f l).1.length * 8 ≤ (allF f l).2
  | 0, l => by simp [allF, seals]
  | f + 1, l => by
    unfold allF
    split
    · rename_i h0
      obtain ⟨n, k, e, hn⟩ : ∃ n k e, unpackP l = (n, k, e) := ⟨_, _, _, rfl⟩
      rw [hn] at h0 ⊢
      simp only at h0 ⊢
      subst h0
      obtain ⟨g1, g2, g3⟩ := unpackP_ok hn
      obtain ⟨u1, u2⟩ := unpackP_used (l := l) (by rw [hn])
      rw [hn] at u1 u2
      simp only at u1 u2
      obtain ⟨i1, i2, i3, i4⟩ := allF_sound f (l.drop k)
      generalize allF f (l.drop k) = q at *
      refine ⟨?_, ?_, ?_, ?_⟩
      · intro m hm
        rcases List.mem_cons.1 hm with rfl | hm
        · exact g1
        · exact i1 m hm
      · rw [seals_cons, ← i2]
        conv => lhs; rw [g2]
        rw [List.take_append, g3, List.take_of_length_le (by omega), Nat.add_sub_cancel_left]
      · rw [List.length_drop] at i3; omega
      · rw [List.length_cons]; omega
    · simp [seals]
theorem allP_sound (l : List UInt8) : (∀ n ∈ (allP l).1, n.may) ∧ l.take (allP l).2 = seals (allP l).1 ∧ (allP l).2 ≤ l.length ∧ (allP l).1.length * 8 ≤ (allP l).2 := allF_sound _ l

theorem seals_append (a b : List NoteD) : seals (a ++ b) = seals a ++ seals b := by simp [seals]
theorem seals_le (ns : List NoteD) (i : Nat) : (seals (ns.take i)).length ≤ (seals ns).length := by
  have e : seals ns = seals (ns.take i) ++ seals (ns.drop i) := by rw [← seals_append, List.take_append_drop]
  rw [e, List.length_append]; omega

end Go.Proofs.Ytnepednomejniaa
