/- Arguments that are rows, and slices of rows, as the walks want them. -/
import Derived.Test.YtfocpjplokabgaaPAwake
import Derived.Deep.Slices
import Derived.OpenShut
import Derived.SizedLaws
namespace Go.Proofs.Ytfocpjplokabgaa
open Go.RowKit

theorem in64_of {n : Int} (h : (Lit.int .i64 n).wf = true) : in64 n := by
  simp only [Lit.wf, Bool.and_eq_true, decide_eq_true_eq] at h
  exact h

set_option maxRecDepth 100000 in
theorem open_row {H : Type} {enc : TypeId × Value → H} {W : World} {fuel : Nat} {cs : List Value} {x : DataW H × List MemPlace}
    (hf : DataW.trod enc Try.prog W 0 (fun _ => true) true fuel 23 cs = some x) :
    ∃ r : R3, cs = [.int .i64 r.a, .int .i64 r.b, .int .i64 r.c] ∧ r.wf := by
  obtain ⟨xs, m, _, _, hlen, hxl, hel⟩ := DataW.trod_array Try.underlying23 hf
  have e3 : Try.prog.cellsOf 23 = 3 := by kernel_rfl
  have e1 : Try.prog.cellsOf 3 = 1 := by kernel_rfl
  rw [e3] at hlen
  obtain ⟨c0, c1, c2, rfl⟩ : ∃ c0 c1 c2, cs = [c0, c1, c2] := by
    match cs, hlen with
    | [c0, c1, c2], _ => exact ⟨c0, c1, c2, rfl⟩
  rw [e1] at hel
  have h0 := hel 0 (by omega)
  have h1 := hel 1 (by omega)
  have h2 := hel 2 (by omega)
  rw [List.getElem?_eq_getElem (by omega)] at h0 h1 h2
  obtain ⟨k0, hk0, _, w0⟩ := DataW.trod_int Try.underlying3 h0
  obtain ⟨k1, hk1, _, w1⟩ := DataW.trod_int Try.underlying3 h1
  obtain ⟨k2, hk2, _, w2⟩ := DataW.trod_int Try.underlying3 h2
  simp at hk0 hk1 hk2
  subst hk0 hk1 hk2
  exact ⟨⟨k0, k1, k2⟩, rfl, in64_of w0, in64_of w1, in64_of w2⟩

theorem weights_all {H : Type} {P : Program} {e : TypeId} {d : DataW H} : ∀ {l : List (DataW H)}, d ∈ l → ∀ q ∈ d.weights P e, q ∈ DataW.weightsAll P e l
  | x :: l, h, q, hq => by
    unfold DataW.weightsAll
    rcases List.mem_cons.1 h with rfl | h
    · exact List.mem_append_left _ hq
    · exact List.mem_append_right _ (weights_all h q hq)

set_option maxRecDepth 100000 in
theorem open_rows {H : Type} {enc : TypeId × Value → H} {W : World} {fuel : Nat} {v : Value} {x : DataW H × List MemPlace}
    (hf : DataW.trod enc Try.prog W 0 (fun _ => true) true fuel 22 [v] = some x) (hw : ∀ m ∈ x.1.weights Try.prog 22, m ≤ reachBytes) :
    ∃ ls, RowsAt W v ls := by
  have e3 : Try.prog.cellsOf 23 = 3 := by kernel_rfl
  have e24 : Try.prog.bytesOf 23 = 24 := by kernel_rfl
  rcases Go.Deep.open_slice Try.underlying22 hf with ⟨hcs, _⟩ | ⟨a, len, cap, m, n, D, Pl, hcs, _, hl, hm, hmm, hx, hcell⟩
  · simp only [List.cons.injEq, and_true] at hcs
    subst hcs
    exact ⟨[], RowsS.nil _ _⟩
  · simp only [List.cons.injEq, and_true] at hcs
    subst hcs
    simp only [if_true] at hmm
    rw [e3] at hcell
    have hbig : len * 24 ≤ 140737488355328 := by
      have := hw _ (by
        rw [hx]
        simp only [DataW.weights, Try.underlying22]
        exact List.mem_cons_self ..)
      simp only [List.length_map, List.length_range, e24] at this
      unfold reachBytes at this
      omega
    have key : ∀ i, i < len → ∃ r : R3, W.cells? 0 (a.add (i * 3)) 3 = some [.int .i64 r.a, .int .i64 r.b, .int .i64 r.c] ∧ r.wf := by
      intro i hi
      obtain ⟨cs, h1, h2⟩ := hcell i (by omega)
      obtain ⟨r, rfl, h3⟩ := open_row h2
      exact ⟨r, h1, h3⟩
    obtain ⟨F, hF⟩ : ∃ F : Nat → R3, ∀ i, i < len → W.cells? 0 (a.add (i * 3)) 3 = some [.int .i64 (F i).a, .int .i64 (F i).b, .int .i64 (F i).c] ∧ (F i).wf :=
      ⟨fun i => if h : i < len then Classical.choose (key i h) else default, fun i hi => by simp only [hi, dif_pos]; exact Classical.choose_spec (key i hi)⟩
    have hvl : ((List.range len).map F).length = len := by simp
    refine ⟨(List.range len).map F, by rw [hvl]; exact hbig, ?_, some a, cap, by rw [hvl], ?_⟩
    · intro r hr
      obtain ⟨i, hi, rfl⟩ := List.mem_map.1 hr
      exact (hF i (List.mem_range.1 hi)).2
    by_cases h0 : len = 0
    · left; rw [h0]; rfl
    · right
      obtain ⟨b, off, spot⟩ := a
      obtain ⟨g1, _⟩ := hF 0 (by omega)
      have g2 := (World.cells?_some g1).2.2 0 (by omega)
      have hspot : spot = none := by simpa [Addr.add] using World.cell?_spot g2
      subst hspot
      have hlt := World.block_lt_of_cell? W _ g2
      simp only [Go.WideShapes.add_plain] at hlt
      refine ⟨b, off, rfl, trivial, hlt, fun j r hj => ?_⟩
      have hj1 : j < len := by have := (List.getElem?_eq_some_iff.1 hj).1; rwa [hvl] at this
      rw [List.getElem?_map, List.getElem?_range hj1] at hj
      simp only [Option.map_some, Option.some.injEq] at hj
      subst hj
      have k4 := (World.cells?_some (hF j hj1).1).2.2
      have q0 := k4 0 (by omega)
      have q1 := k4 1 (by omega)
      have q2 := k4 2 (by omega)
      simp only [Go.WideShapes.add_plain, Nat.add_zero] at q0 q1 q2
      exact ⟨q0, q1, q2⟩
end Go.Proofs.Ytfocpjplokabgaa
