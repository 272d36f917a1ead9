/- Slices of calls of a field as arguments; the statement's world. -/
import Derived.Test.YtnkgbinogblemaaDRefC
namespace Go.Proofs.Ytnkgbinogblemaa
open Go.RowKit

/-- A call: what it is, two numbers, a text. -/
structure OpF where
  kind : Int
  a : Int
  b : Int
  text : List UInt8
abbrev csO (o : OpF) : List Value := [.int .i64 o.kind, .int .i64 o.a, .int .i64 o.b, .string ⟨o.text.toArray⟩]
/-- A call that an argument can hold. -/
def OpFOk (o : OpF) : Prop := (Lit.int .i64 o.a).wf = true ∧ (Lit.int .i64 o.b).wf = true ∧ o.text.length ≤ 140737488351232
abbrev OpsF (w : World) (v : Value) (os : List OpF) : Prop := SlS csO 4 (fun _ => True) w v os ∧ (∀ o ∈ os, OpFOk o) ∧ os.length ≤ maxLen
theorem trod_struct4F {H : Type} {enc : TypeId × Value → H} {P : Program} {w : World} {base : Nat} {spare : Nat → Bool} {held : Bool} {t : TypeId} {f0 f1 f2 f3 : Field} {fuel : Nat} {cs : List Value} {x : DataW H × List MemPlace} (ht : P.underlying t = some (.struct #[f0, f1, f2, f3])) (h : DataW.trod enc P w base spare held fuel t cs = some x) :
    ∃ y0 y1 y2 y3 n, x = (.agg [y0.1, y1.1, y2.1, y3.1], y0.2 ++ (y1.2 ++ (y2.2 ++ y3.2))) ∧ cs.length = P.cellsOf t ∧ DataW.trod enc P w base spare held n f0.type ((cs.drop f0.offset).take (P.cellsOf f0.type)) = some y0 ∧
      DataW.trod enc P w base spare held n f1.type ((cs.drop f1.offset).take (P.cellsOf f1.type)) = some y1 ∧ DataW.trod enc P w base spare held n f2.type ((cs.drop f2.offset).take (P.cellsOf f2.type)) = some y2 ∧ DataW.trod enc P w base spare held n f3.type ((cs.drop f3.offset).take (P.cellsOf f3.type)) = some y3 := by
  obtain ⟨xs, n, _, rfl, hl, hlen, hf⟩ := DataW.trod_struct ht h
  match xs, hlen with
  | [y0, y1, y2, y3], _ => exact ⟨y0, y1, y2, y3, n, by simp, hl, by simpa using hf 0 f0 rfl, by simpa using hf 1 f1 rfl, by simpa using hf 2 f2 rfl, by simpa using hf 3 f3 rfl⟩
set_option maxRecDepth 100000 in
theorem open_opF {H : Type} {enc : TypeId × Value → H} {W : World} {fuel : Nat} {cs : List Value} {x : DataW H × List MemPlace}
    (hf : DataW.trod enc Try.prog W 0 (fun _ => true) true fuel 34 cs = some x) (hw : ∀ m ∈ x.1.weights Try.prog 34, m ≤ reachBytes) :
    ∃ o : OpF, cs = csO o ∧ OpFOk o := by
  obtain ⟨y0, y1, y2, y3, n, hx, hlen, h0, h1, h2, h3⟩ := trod_struct4F Try.underlying34 hf
  have e4 : Try.prog.cellsOf 34 = 4 := by kernel_rfl
  have e0 : Try.prog.cellsOf 3 = 1 := by kernel_rfl
  have e2 : Try.prog.cellsOf 9 = 1 := by kernel_rfl
  rw [e4] at hlen
  obtain ⟨c0, c1, c2, c3, rfl⟩ : ∃ c0 c1 c2 c3, cs = [c0, c1, c2, c3] := by
    match cs, hlen with
    | [c0, c1, c2, c3], _ => exact ⟨c0, c1, c2, c3, rfl⟩
  simp only [e0, e2, List.drop_zero, List.drop_succ_cons, List.take_succ_cons, List.take_zero] at h0 h1 h2 h3
  rw [hx] at hw
  simp only [DataW.weights, Try.underlying34, List.map_cons, List.map_nil, DataW.weightsEach, List.append_nil] at hw
  obtain ⟨k0, hk0, _, _⟩ := DataW.trod_int Try.underlying3 h0
  obtain ⟨k1, hk1, _, w1⟩ := DataW.trod_int Try.underlying3 h1
  obtain ⟨k2, hk2, _, w2⟩ := DataW.trod_int Try.underlying3 h2
  simp only [List.cons.injEq, and_true] at hk0 hk1 hk2
  subst hk0 hk1 hk2
  obtain ⟨s, hs, hsy, hsl⟩ := DataW.trod_string Try.underlying9 h3
  simp only [List.cons.injEq, and_true] at hs
  subst hs
  have hsz : s.data.toList.length ≤ 140737488351232 := hw _ (by rw [hsy]; simp [DataW.weights])
  obtain ⟨t, rfl⟩ : ∃ t : List UInt8, s = ⟨t.toArray⟩ := ⟨s.data.toList, by simp⟩
  exact ⟨⟨k0, k1, k2, t⟩, rfl, w1, w2, hsz⟩
theorem cellsOF : Try.prog.cellsOf 34 = 4 := by kernel_rfl
/-- Calls as an argument. -/
theorem open_opsF {H : Type} {enc : TypeId × Value → H} {W : World} {fuel : Nat} {v : Value} {x : DataW H × List MemPlace}
    (hf : DataW.trod enc Try.prog W 0 (fun _ => true) true fuel 22 [v] = some x) (hw : ∀ m ∈ x.1.weights Try.prog 22, m ≤ reachBytes) :
    ∃ os, OpsF W v os := by
  obtain ⟨L, g1, g2, g3, _⟩ := open_slN (en := csO) ⟨0, 0, 0, []⟩ (fun _ => rfl) (by decide) Try.underlying22 cellsOF OpFOk (fun _ _ _ _ h hw => open_opF h hw) hf hw
  exact ⟨L, g1, g2, g3⟩

/-- The statement's world: the program's field f, and the document's g by value in a block of its own. -/
structure ST (w0 : World) (b cq : Nat) (w : World) (f g : Fd) (vl : Value) (S : Nat → Prop) : Prop where
  fb : FB S w b f
  q : w.heap[cq]? = some (.cells #[.int .i64 (g.nodes : Int), .int .i64 (g.last : Int), vl] 29 (0, 0))
  dl : DL S w vl g.l
  sc : S cq
  low : Low S w
  all : ∀ k, k < w0.heap.size → S k
  bel : Below w0.heap.size w0 w
  geq : w0.heap.size ≤ cq
section
variable {w0 w w' : World} {b cq : Nat} {f g f' : Fd} {vl : Value} {S : Nat → Prop}
theorem ST.below (h : ST w0 b cq w f g vl S) (hb : Below w.heap.size w w') : ST w0 b cq w' f g vl S :=
  { h with fb := h.fb.below hb, q := (hb.block _ (lt_of_block h.q)).trans h.q, dl := h.dl.below hb, low := h.low.below hb, bel := h.bel.trans (hb.mono h.bel.size) }
/-- What was made beside it is kept too. -/
theorem ST.plus (h : ST w0 b cq w f g vl S) (hb : Below w.heap.size w w') : ST w0 b cq w' f g vl (Plus S w.heap.size w'.heap.size) :=
  { h.below hb with fb := h.fb.plus hb, dl := (h.dl.below hb).sub (fun _ hk => .inl hk), sc := .inl h.sc, low := h.low.plus hb.size, all := fun k hk => .inl (h.all k hk) }
/-- The program's field has turned. -/
theorem ST.prog (h : ST w0 b cq w f g vl S) (hf : FB S w' b f') (hr : Fr S w w') : ST w0 b cq w' f' g vl S :=
  { h with fb := hf, q := (hr.block _ h.sc).trans h.q, dl := h.dl.fr hr, low := h.low.fr hr, bel := h.bel.trans (hr.below h.all) }
/-- The document's field is stored. -/
theorem ST.store {g' : Fd} {vl' : Value} (h : ST w0 b cq w f g vl S) (hdl : DL S w vl' g'.l) : ST w0 b cq (set3 w cq (.int .i64 (g'.nodes : Int)) (.int .i64 (g'.last : Int)) vl') f g' vl' S where
  fb := h.fb.keep (fun k _ hk ho => (set3_other (fun e => hk (by rw [e]; exact h.sc)) _ _ _).trans ho)
  q := set3_block h.q _ _ _
  dl := ⟨owns_key hdl.own (fun k _ hg ho => (set3_other (fun e => own_neb hdl.own h.q (by decide) (by rw [hg, e])) _ _ _).trans ho), hdl.at_⟩
  sc := h.sc
  low := fun k hk => by have := h.low k hk; simpa [set3] using this
  all := h.all
  bel := set3_below h.bel h.geq _ _ _
  geq := h.geq
end
end Go.Proofs.Ytnkgbinogblemaa
