/- An automaton, numbers as arguments. -/
import Derived.Test.YthdnpddfdlhlaaaQOpen
import Derived.Test.YthdnpddfdlhlaaaBSteps
namespace Go.Proofs.Ythdnpddfdlhlaaa
open Go.RowKit

theorem trod_struct5 {P : Program} {H : Type} {enc : TypeId × Value → H} {w : World} {base : Nat} {spare : TypeId → Bool} {held : Bool} {t : TypeId} {f0 f1 f2 f3 f4 : Field} {fuel : Nat} {cs : List Value} {x : DataW H × List MemPlace} (ht : P.underlying t = some (.struct #[f0, f1, f2, f3, f4])) (h : DataW.trod enc P w base spare held fuel t cs = some x) :
    ∃ y0 y1 y2 y3 y4 n, x = (.agg [y0.1, y1.1, y2.1, y3.1, y4.1], y0.2 ++ (y1.2 ++ (y2.2 ++ (y3.2 ++ y4.2)))) ∧ cs.length = P.cellsOf t ∧ DataW.trod enc P w base spare held n f0.type ((cs.drop f0.offset).take (P.cellsOf f0.type)) = some y0 ∧
      DataW.trod enc P w base spare held n f1.type ((cs.drop f1.offset).take (P.cellsOf f1.type)) = some y1 ∧ DataW.trod enc P w base spare held n f2.type ((cs.drop f2.offset).take (P.cellsOf f2.type)) = some y2 ∧ DataW.trod enc P w base spare held n f3.type ((cs.drop f3.offset).take (P.cellsOf f3.type)) = some y3 ∧ DataW.trod enc P w base spare held n f4.type ((cs.drop f4.offset).take (P.cellsOf f4.type)) = some y4 := by
  obtain ⟨xs, n, _, rfl, hl, hlen, hf⟩ := DataW.trod_struct ht h
  match xs, hlen with
  | [y0, y1, y2, y3, y4], _ => exact ⟨y0, y1, y2, y3, y4, n, by simp, hl, by simpa using hf 0 f0 rfl, by simpa using hf 1 f1 rfl, by simpa using hf 2 f2 rfl, by simpa using hf 3 f3 rfl, by simpa using hf 4 f4 rfl⟩
theorem cellsAU : Try.prog.cellsOf 31 = 5 := by kernel_rfl
theorem cellsLS : Try.prog.cellsOf 27 = 1 := by kernel_rfl
theorem cellsLI : Try.prog.cellsOf 28 = 1 := by kernel_rfl
theorem cellsLL : Try.prog.cellsOf 29 = 1 := by kernel_rfl
theorem open_ints {H : Type} {enc : TypeId × Value → H} {W : World} {fuel : Nat} {v : Value} {x : DataW H × List MemPlace}
    (hf : DataW.trod enc Try.prog W 0 (fun _ => true) true fuel 28 [v] = some x) (hw : ∀ m ∈ x.1.weights Try.prog 28, m ≤ reachBytes) :
    ∃ L : List Int, IntZ (fun _ => True) W v L ∧ L.length ≤ maxLen := by
  obtain ⟨L, h1, _, h3, _⟩ := open_slN (en := csZ) 0 csZ_len (by decide) Try.underlying28 cellsQI (fun _ => True) (fun _ cs y _ h _ => by
    obtain ⟨z, rfl, _, _⟩ := DataW.trod_int Try.underlying3 h
    exact ⟨z, rfl, trivial⟩) hf hw
  exact ⟨L, h1, h3⟩
set_option maxRecDepth 100000 in
theorem open_auto {H : Type} {enc : TypeId × Value → H} {W : World} {fuel : Nat} {cs : List Value} {x : DataW H × List MemPlace}
    (hf : DataW.trod enc Try.prog W 0 (fun _ => true) true fuel 31 cs = some x) (hw : ∀ m ∈ x.1.weights Try.prog 31, m ≤ reachBytes) :
    ∃ m : Mu, cs = [m.wv, m.fv, m.lv, m.ov, .bool m.em] ∧ UPre W m := by
  obtain ⟨y0, y1, y2, y3, y4, n, hx, hlen, h0, h1, h2, h3, h4⟩ := trod_struct5 Try.underlying31 hf
  rw [cellsAU] at hlen
  obtain ⟨c0, c1, c2, c3, c4, rfl⟩ : ∃ c0 c1 c2 c3 c4, cs = [c0, c1, c2, c3, c4] := by
    match cs, hlen with
    | [c0, c1, c2, c3, c4], _ => exact ⟨c0, c1, c2, c3, c4, rfl⟩
  simp only [cellsLS, cellsLI, cellsLL, cellsQB, List.drop_zero, List.drop_succ_cons, List.take_succ_cons, List.take_zero] at h0 h1 h2 h3 h4
  rw [hx] at hw
  simp only [DataW.weights, Try.underlying31, List.map_cons, List.map_nil, DataW.weightsEach, List.append_nil] at hw
  obtain ⟨em, k4, _⟩ := DataW.trod_bool Try.underlying4 h4
  simp only [List.cons.injEq, and_true] at k4
  subst k4
  obtain ⟨ws, g1, g2, g3, _⟩ := open_txts h0 (fun m hm => hw m (by simp [hm]))
  obtain ⟨fs, f1, f2⟩ := open_ints h1 (fun m hm => hw m (by simp [hm]))
  obtain ⟨ls, l1, l2⟩ := open_ints h2 (fun m hm => hw m (by simp [hm]))
  obtain ⟨os, o1, o2, o3, _⟩ := open_slN (en := csW) (.slice none 0 0, []) (fun _ => rfl) (by decide) Try.underlying29 cellsLI (fun p => IntZ (fun _ => True) W p.1 p.2 ∧ p.2.length ≤ maxLen) (fun fuel cs y _ h hq => by
    have hcs : ∃ c, cs = [c] := by
      rcases Go.Deep.open_slice Try.underlying28 h with ⟨hcs, _⟩ | ⟨a, len, cap, m, n, D, Pl, hcs, _⟩
      · exact ⟨_, hcs⟩
      · exact ⟨_, hcs⟩
    obtain ⟨c, rfl⟩ := hcs
    obtain ⟨L, p1, p2⟩ := open_ints h hq
    exact ⟨(c, L), rfl, p1, p2⟩) h3 (fun m hm => hw m (by simp [hm]))
  unfold maxLen at g3 f2 l2 o3
  refine ⟨⟨c0, ws, c1, fs, c2, ls, c3, os, em⟩, rfl, ⟨g1, fun s hs => by have := g2 s hs; omega, by dsimp only; omega, f1, by dsimp only; omega, l1, by dsimp only; omega, o1, fun p hp => ⟨(o2 p hp).1, by have := (o2 p hp).2; unfold maxLen at this; omega⟩, by dsimp only; omega⟩⟩
end Go.Proofs.Ythdnpddfdlhlaaa
