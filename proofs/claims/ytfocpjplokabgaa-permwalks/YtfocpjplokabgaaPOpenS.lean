/- Arguments that are slices of calls of a walk; an argument that is a row. -/
import Derived.Test.YtfocpjplokabgaaPOpen
import Derived.ChangeSame
import Derived.WideShapes
namespace Go.Proofs.Ytfocpjplokabgaa
open Go.RowKit

theorem okWide_row {w : World} {r : Reach} {base : Nat} {v : Value} (h : Value.okWide Try.prog w r base 23 v) : ∃ cs, v = .agg cs := by
  simp only [Value.okWide, Try.underlying23] at h
  obtain ⟨cs, h1, _⟩ := h
  exact ⟨cs, h1⟩

/-- A call of a walk. -/
structure StepD where
  kind : Int
  n : Int
deriving Inhabited
/-- A slice of calls in memory, read-only. -/
def StepsAt (w : World) (v : Value) (os : List StepD) : Prop :=
  os.length ≤ 9223372036854775807 ∧ ∃ ao cap, v = .slice ao os.length cap ∧ (os = [] ∨ ∃ b o, ao = some ⟨b, o, none⟩ ∧ b < w.heap.size ∧ ∀ (j : Nat) p, os[j]? = some p →
    w.cell? ⟨b, o + j * 2, none⟩ = some (.int .i64 p.kind) ∧ w.cell? ⟨b, o + j * 2 + 1, none⟩ = some (.int .i64 p.n))
theorem StepsAt.keep {w w' : World} {v : Value} {os : List StepD} (h : StepsAt w v os) (hb : ∀ k, k < w.heap.size → w'.heap[k]? = w.heap[k]?) (hz : w.heap.size ≤ w'.heap.size) : StepsAt w' v os := by
  obtain ⟨h1, ao, cap, h2, h3⟩ := h
  refine ⟨h1, ao, cap, h2, ?_⟩
  rcases h3 with h3 | ⟨b, o, e, hl, hc⟩
  · exact .inl h3
  · have hbb := hb b hl
    refine .inr ⟨b, o, e, Nat.lt_of_lt_of_le hl hz, fun j p hj => ?_⟩
    obtain ⟨c1, c2⟩ := hc j p hj
    exact ⟨by simpa only [World.cell?, hbb] using c1, by simpa only [World.cell?, hbb] using c2⟩

set_option maxRecDepth 100000 in
theorem open_step {H : Type} {enc : TypeId × Value → H} {W : World} {fuel : Nat} {cs : List Value} {x : DataW H × List MemPlace}
    (hf : DataW.trod enc Try.prog W 0 (fun _ => true) true fuel 45 cs = some x) :
    ∃ p : StepD, cs = [.int .i64 p.kind, .int .i64 p.n] := by
  obtain ⟨y0, y1, n, hx, hlen, h0, h1⟩ := Go.ChangeShapes.trod_struct2 Try.underlying45 hf
  have e2 : Try.prog.cellsOf 45 = 2 := by kernel_rfl
  have e1 : Try.prog.cellsOf 3 = 1 := by kernel_rfl
  rw [e2] at hlen
  obtain ⟨c0, c1, rfl⟩ : ∃ c0 c1, cs = [c0, c1] := by
    match cs, hlen with
    | [c0, c1], _ => exact ⟨c0, c1, rfl⟩
  simp only [e1, List.drop_zero, List.drop_succ_cons, List.take_succ_cons, List.take_zero] at h0 h1
  obtain ⟨k0, hk0, _, _⟩ := DataW.trod_int Try.underlying3 h0
  obtain ⟨k1, hk1, _, _⟩ := DataW.trod_int Try.underlying3 h1
  simp only [List.cons.injEq, and_true] at hk0 hk1
  subst hk0 hk1
  exact ⟨⟨k0, k1⟩, rfl⟩

set_option maxRecDepth 100000 in
theorem open_steps {H : Type} {enc : TypeId × Value → H} {W : World} {fuel : Nat} {v : Value} {x : DataW H × List MemPlace}
    (hf : DataW.trod enc Try.prog W 0 (fun _ => true) true fuel 37 [v] = some x) (_hw : ∀ m ∈ x.1.weights Try.prog 37, m ≤ reachBytes) :
    ∃ os, StepsAt W v os := by
  have e2 : Try.prog.cellsOf 45 = 2 := by kernel_rfl
  rcases Go.Deep.open_slice Try.underlying37 hf with ⟨hcs, _⟩ | ⟨a, len, cap, m, n, D, Pl, hcs, _, hl, hm, hmm, hx, hcell⟩
  · simp only [List.cons.injEq, and_true] at hcs
    subst hcs
    exact ⟨[], by simp, none, 0, rfl, .inl rfl⟩
  · simp only [List.cons.injEq, and_true] at hcs
    subst hcs
    simp only [if_true] at hmm
    rw [e2] at hcell
    have key : ∀ i, i < len → ∃ p : StepD, W.cells? 0 (a.add (i * 2)) 2 = some [.int .i64 p.kind, .int .i64 p.n] := by
      intro i hi
      obtain ⟨cs, h1, h2⟩ := hcell i (by omega)
      obtain ⟨p, rfl⟩ := open_step h2
      exact ⟨p, h1⟩
    obtain ⟨F, hF⟩ : ∃ F : Nat → StepD, ∀ i, i < len → W.cells? 0 (a.add (i * 2)) 2 = some [.int .i64 (F i).kind, .int .i64 (F i).n] :=
      ⟨fun i => if h : i < len then Classical.choose (key i h) else default, fun i hi => by simp only [hi, dif_pos]; exact Classical.choose_spec (key i hi)⟩
    have hvl : ((List.range len).map F).length = len := by simp
    refine ⟨(List.range len).map F, by rw [hvl]; unfold maxLen at hm; omega, some a, cap, by rw [hvl], ?_⟩
    by_cases h0 : len = 0
    · left; rw [h0]; rfl
    · right
      obtain ⟨b, off, spot⟩ := a
      have g1 := hF 0 (by omega)
      have g2 := (World.cells?_some g1).2.2 0 (by omega)
      have hspot : spot = none := by simpa [Addr.add] using World.cell?_spot g2
      subst hspot
      have hlt := World.block_lt_of_cell? W _ g2
      simp only [Go.WideShapes.add_plain] at hlt
      refine ⟨b, off, rfl, hlt, fun j p hj => ?_⟩
      have hj1 : j < len := by have := (List.getElem?_eq_some_iff.1 hj).1; rwa [hvl] at this
      rw [List.getElem?_map, List.getElem?_range hj1] at hj
      simp only [Option.map_some, Option.some.injEq] at hj
      subst hj
      have k4 := (World.cells?_some (hF j hj1)).2.2
      have q0 := k4 0 (by omega)
      have q1 := k4 1 (by omega)
      simp only [Go.WideShapes.add_plain, Nat.add_zero] at q0 q1
      exact ⟨q0, q1⟩
end Go.Proofs.Ytfocpjplokabgaa
