/- Arguments that are slices of notes, as the walks want them. -/
import Derived.Test.YtnepednomejniaaWOpen
namespace Go.Proofs.Ytnepednomejniaa
open Go.RowKit Go.Joins

set_option maxRecDepth 100000 in
theorem open_notes {H : Type} {enc : TypeId × Value → H} {W : World} {fuel : Nat} {v : Value} {x : DataW H × List MemPlace}
    (hf : DataW.trod enc Try.prog W 0 (fun _ => true) true fuel 27 [v] = some x) (hw : ∀ m ∈ x.1.weights Try.prog 27, m ≤ reachBytes) :
    ∃ ns, NotesAt W v ns ∧ ∀ n ∈ ns, n.sane := by
  have e4 : Try.prog.cellsOf 37 = 4 := by kernel_rfl
  rcases Go.Deep.open_slice Try.underlying27 hf with ⟨hcs, _⟩ | ⟨a, len, cap, m, n, D, Pl, hcs, _, hl, hm, hmm, hx, hcell⟩
  · simp only [List.cons.injEq, and_true] at hcs
    subst hcs
    exact ⟨[], ⟨by simp, none, 0, rfl, .inl rfl⟩, by simp⟩
  · simp only [List.cons.injEq, and_true] at hcs
    subst hcs
    simp only [if_true] at hmm
    rw [e4] at hcell
    have key : ∀ i, i < len → ∃ nd c1 c2 c3, W.cells? 0 (a.add (i * 4)) 4 = some [.int .i64 nd.kind, c1, c2, c3] ∧ NoteAt W (.agg #[.int .i64 nd.kind, c1, c2, c3]) nd ∧ nd.sane := by
      intro i hi
      obtain ⟨cs, h1, h2⟩ := hcell i (by omega)
      obtain ⟨nd, c1, c2, c3, rfl, h3, h4⟩ := open_note h2 (fun q hq => hw q (by
        rw [hx]
        simp only [DataW.weights, Try.underlying27]
        exact List.mem_cons_of_mem _ (List.mem_append_left _ (weights_mem_all (List.mem_map.2 ⟨i, List.mem_range.2 hi, rfl⟩) q hq))))
      exact ⟨nd, c1, c2, c3, h1, h3, h4⟩
    obtain ⟨F, hF⟩ : ∃ F : Nat → NoteD, ∀ i, i < len → ∃ c1 c2 c3, W.cells? 0 (a.add (i * 4)) 4 = some [.int .i64 (F i).kind, c1, c2, c3] ∧ NoteAt W (.agg #[.int .i64 (F i).kind, c1, c2, c3]) (F i) ∧ (F i).sane :=
      ⟨fun i => if h : i < len then Classical.choose (key i h) else .none, fun i hi => by simp only [hi, dif_pos]; exact Classical.choose_spec (key i hi)⟩
    have hvl : ((List.range len).map F).length = len := by simp
    refine ⟨(List.range len).map F, ⟨by rw [hvl]; unfold maxLen at hm; omega, some a, cap, by rw [hvl], ?_⟩, ?_⟩
    · by_cases h0 : len = 0
      · left; rw [h0]; rfl
      · right
        obtain ⟨b, off, spot⟩ := a
        obtain ⟨d1, d2, d3, g1, _, _⟩ := hF 0 (by omega)
        have g2 := (World.cells?_some g1).2.2 0 (by omega)
        have hspot : spot = none := by simpa [Addr.add] using World.cell?_spot g2
        subst hspot
        have hlt := World.block_lt_of_cell? W _ g2
        simp only [Go.WideShapes.add_plain] at hlt
        refine ⟨b, off, rfl, hlt, fun j nd hj => ?_⟩
        have hj1 : j < len := by have := (List.getElem?_eq_some_iff.1 hj).1; rwa [hvl] at this
        rw [List.getElem?_map, List.getElem?_range hj1] at hj
        simp only [Option.map_some, Option.some.injEq] at hj
        subst hj
        obtain ⟨c1, c2, c3, k1, k2, _⟩ := hF j hj1
        have k4 := (World.cells?_some k1).2.2
        have q0 := k4 0 (by omega)
        have q1 := k4 1 (by omega)
        have q2 := k4 2 (by omega)
        have q3 := k4 3 (by omega)
        simp only [Go.WideShapes.add_plain, Nat.add_zero] at q0 q1 q2 q3
        exact ⟨c1, c2, c3, q0, q1, q2, q3, k2⟩
    · intro nd hn
      obtain ⟨i, hi, rfl⟩ := List.mem_map.1 hn
      obtain ⟨_, _, _, _, _, h⟩ := hF i (List.mem_range.1 hi)
      exact h
end Go.Proofs.Ytnepednomejniaa
