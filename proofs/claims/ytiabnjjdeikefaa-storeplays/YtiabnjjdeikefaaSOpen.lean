/- Arguments that are facts, batches, slices of batches, numbers, as the walks want them. -/
import Derived.Test.YtiabnjjdeikefaaSAwake
import Derived.Deep.Slices
import Derived.Deep.Strs
import Derived.ChangeSame
import Derived.OpenShut
import Derived.SizedLaws
import Derived.WideShapes
namespace Go.Proofs.Ytiabnjjdeikefaa
open Go.RowKit

theorem weights_all {H : Type} {P : Program} {e : TypeId} {d : DataW H} : ∀ {l : List (DataW H)}, d ∈ l → ∀ q ∈ d.weights P e, q ∈ DataW.weightsAll P e l
  | x :: l, h, q, hq => by
    unfold DataW.weightsAll
    rcases List.mem_cons.1 h with rfl | h
    · exact List.mem_append_left _ hq
    · exact List.mem_append_right _ (weights_all h q hq)

set_option maxRecDepth 100000 in
/-- A slice whose elements are opened one by one. -/
theorem open_sl {α : Type} {en : α → List Value} {k : Nat} (d0 : α) (hk : ∀ x, (en x).length = k) (hk0 : 0 < k) {t el : TypeId} (ht : Try.prog.underlying t = some (.slice el)) (hc : Try.prog.cellsOf el = k) (Pr : α → Prop)
    {H : Type} {enc : TypeId × Value → H} {W : World}
    (op : ∀ (fuel : Nat) (cs : List Value) (x : DataW H × List MemPlace), DataW.trod enc Try.prog W 0 (fun _ => true) true fuel el cs = some x → (∀ m ∈ x.1.weights Try.prog el, m ≤ reachBytes) → ∃ a : α, cs = en a ∧ Pr a)
    {fuel : Nat} {v : Value} {x : DataW H × List MemPlace} (hf : DataW.trod enc Try.prog W 0 (fun _ => true) true fuel t [v] = some x) (hw : ∀ m ∈ x.1.weights Try.prog t, m ≤ reachBytes) :
    ∃ L : List α, SlS en k (fun _ => True) W v L ∧ (∀ a ∈ L, Pr a) ∧ L.length ≤ maxLen := by
  rcases Go.Deep.open_slice ht hf with ⟨hcs, _⟩ | ⟨a, len, cap, m, n, D, Pl, hcs, _, hl, hm, hmm, hx, hcell⟩
  · simp only [List.cons.injEq, and_true] at hcs
    subst hcs
    exact ⟨[], SlS.nil _ _, by simp, by simp⟩
  · simp only [List.cons.injEq, and_true] at hcs
    subst hcs
    simp only [if_true] at hmm
    rw [hc] at hcell
    have key : ∀ i, i < len → ∃ r : α, W.cells? 0 (a.add (i * k)) k = some (en r) ∧ Pr r := by
      intro i hi
      obtain ⟨cs, h1, h2⟩ := hcell i (by omega)
      obtain ⟨r, rfl, h3⟩ := op _ _ _ h2 (fun q hq => hw q (by
        rw [hx]
        simp only [DataW.weights, ht]
        exact List.mem_cons_of_mem _ (List.mem_append_left _ (weights_all (List.mem_map.2 ⟨i, List.mem_range.2 hi, rfl⟩) q hq))))
      exact ⟨r, h1, h3⟩
    obtain ⟨F, hF⟩ : ∃ F : Nat → α, ∀ i, i < len → W.cells? 0 (a.add (i * k)) k = some (en (F i)) ∧ Pr (F i) :=
      ⟨fun i => if h : i < len then Classical.choose (key i h) else d0, fun i hi => by simp only [hi, dif_pos]; exact Classical.choose_spec (key i hi)⟩
    have hvl : ((List.range len).map F).length = len := by simp
    refine ⟨(List.range len).map F, ⟨some a, cap, by rw [hvl], ?_⟩, ?_, by rw [hvl]; omega⟩
    · by_cases h0 : len = 0
      · left; rw [h0]; rfl
      · right
        obtain ⟨b, off, spot⟩ := a
        obtain ⟨g1, _⟩ := hF 0 (by omega)
        have g2 := (World.cells?_some g1).2.2 0 (by omega)
        have hspot : spot = none := by
          have hz : (en (F 0))[0]? = some ((en (F 0))[0]'(by rw [hk]; exact hk0)) := List.getElem?_eq_getElem _
          rw [hz] at g2
          simpa [Addr.add] using World.cell?_spot g2
        subst hspot
        have hlt : b < W.heap.size := by
          have hz : (en (F 0))[0]? = some ((en (F 0))[0]'(by rw [hk]; exact hk0)) := List.getElem?_eq_getElem _
          rw [hz] at g2
          have := World.block_lt_of_cell? W _ g2
          simpa only [Go.WideShapes.add_plain] using this
        refine ⟨b, off, rfl, trivial, hlt, fun j r hj c u hu => ?_⟩
        have hj1 : j < len := by have := (List.getElem?_eq_some_iff.1 hj).1; rwa [hvl] at this
        rw [List.getElem?_map, List.getElem?_range hj1] at hj
        simp only [Option.map_some, Option.some.injEq] at hj
        subst hj
        have hck : c < k := by have := (List.getElem?_eq_some_iff.1 hu).1; rw [hk] at this; exact this
        have q := (World.cells?_some (hF j hj1).1).2.2 c hck
        simp only [Go.WideShapes.add_plain] at q
        rw [q, hu]
    · intro r hr
      obtain ⟨i, hi, rfl⟩ := List.mem_map.1 hr
      exact (hF i (List.mem_range.1 hi)).2

set_option maxRecDepth 100000 in
theorem open_tri {H : Type} {enc : TypeId × Value → H} {W : World} {fuel : Nat} {cs : List Value} {x : DataW H × List MemPlace}
    (hf : DataW.trod enc Try.prog W 0 (fun _ => true) true fuel 25 cs = some x) : ∃ t : Tri, cs = cs3 t ∧ FineT t := by
  obtain ⟨y0, y1, y2, n, hx, hlen, h0, h1, h2⟩ := Go.Deep.trod_struct3 Try.underlying25 hf
  rw [cellsT] at hlen
  obtain ⟨c0, c1, c2, rfl⟩ : ∃ c0 c1 c2, cs = [c0, c1, c2] := by
    match cs, hlen with
    | [c0, c1, c2], _ => exact ⟨c0, c1, c2, rfl⟩
  simp only [cellsS, List.drop_zero, List.drop_succ_cons, List.take_succ_cons, List.take_zero] at h0 h1 h2
  obtain ⟨s0, k0, _, l0⟩ := DataW.trod_string Try.underlying9 h0
  obtain ⟨s1, k1, _, l1⟩ := DataW.trod_string Try.underlying9 h1
  obtain ⟨s2, k2, _, l2⟩ := DataW.trod_string Try.underlying9 h2
  simp only [List.cons.injEq, and_true] at k0 k1 k2
  subst k0 k1 k2
  refine ⟨(s0.data.toList, s1.data.toList, s2.data.toList), rfl, ?_⟩
  simp only [FineT, data_len]
  exact ⟨l0, l1, l2⟩
set_option maxRecDepth 100000 in
theorem open_chg {H : Type} {enc : TypeId × Value → H} {W : World} {fuel : Nat} {cs : List Value} {x : DataW H × List MemPlace}
    (hf : DataW.trod enc Try.prog W 0 (fun _ => true) true fuel 54 cs = some x) : ∃ c : Chg, cs = cs4 c ∧ FineT c.2 := by
  obtain ⟨y0, y1, n, hx, hlen, h0, h1⟩ := Go.ChangeShapes.trod_struct2 Try.underlying54 hf
  have e4 : Try.prog.cellsOf 54 = 4 := by kernel_rfl
  have e1 : Try.prog.cellsOf 4 = 1 := by kernel_rfl
  rw [e4] at hlen
  obtain ⟨c0, c1, c2, c3, rfl⟩ : ∃ c0 c1 c2 c3, cs = [c0, c1, c2, c3] := by
    match cs, hlen with
    | [c0, c1, c2, c3], _ => exact ⟨c0, c1, c2, c3, rfl⟩
  simp only [e1, cellsT, List.drop_zero, List.drop_succ_cons, List.take_succ_cons, List.take_zero] at h0 h1
  obtain ⟨g, k0, _⟩ := DataW.trod_bool Try.underlying4 h0
  obtain ⟨t, k1, l1⟩ := open_tri h1
  simp only [List.cons.injEq, and_true] at k0
  subst k0
  simp only [cs3, List.cons.injEq, and_true] at k1
  obtain ⟨rfl, rfl, rfl⟩ := k1
  exact ⟨(g, t), rfl, l1⟩
/-- A batch as an argument. -/
def ChgsA (w : World) (v : Value) (bt : List Chg) : Prop := ChgsS (fun _ => True) w v bt ∧ (∀ c ∈ bt, FineT c.2) ∧ bt.length ≤ maxLen
theorem ChgsA.below {w w' : World} {v : Value} {bt : List Chg} (h : ChgsA w v bt) (hb : Below w.heap.size w w') : ChgsA w' v bt := ⟨h.1.below hb, h.2⟩
theorem ChgsA.len {w : World} {v : Value} {bt : List Chg} (h : ChgsA w v bt) : bt.length ≤ 9223372036854775807 := h.2.2
theorem open_chgs {H : Type} {enc : TypeId × Value → H} {W : World} {fuel : Nat} {v : Value} {x : DataW H × List MemPlace}
    (hf : DataW.trod enc Try.prog W 0 (fun _ => true) true fuel 33 [v] = some x) (hw : ∀ m ∈ x.1.weights Try.prog 33, m ≤ reachBytes) : ∃ bt, ChgsA W v bt :=
  open_sl (en := cs4) (false, ([], [], [])) cs4_len (by decide) Try.underlying33 (by kernel_rfl) (fun c => FineT c.2) (fun _ _ _ h _ => open_chg h) hf hw
/-- Batches as an argument: each with the value that it is. -/
abbrev csV (a : Value × List Chg) : List Value := [a.1]
def BatsA (w : World) (v : Value) (bs : List (Value × List Chg)) : Prop := SlS csV 1 (fun _ => True) w v bs ∧ (∀ a ∈ bs, ChgsA w a.1 a.2) ∧ bs.length ≤ maxLen
theorem BatsA.below {w w' : World} {v : Value} {bs : List (Value × List Chg)} (h : BatsA w v bs) (hb : Below w.heap.size w w') : BatsA w' v bs := ⟨h.1.below hb, fun a ha => (h.2.1 a ha).below hb, h.2.2⟩
theorem open_bats {H : Type} {enc : TypeId × Value → H} {W : World} {fuel : Nat} {v : Value} {x : DataW H × List MemPlace}
    (hf : DataW.trod enc Try.prog W 0 (fun _ => true) true fuel 22 [v] = some x) (hw : ∀ m ∈ x.1.weights Try.prog 22, m ≤ reachBytes) : ∃ bs, BatsA W v bs :=
  open_sl (en := csV) (.slice none 0 0, []) (fun _ => rfl) (by decide) Try.underlying22 (by kernel_rfl) (fun a => ChgsA W a.1 a.2) (fun _ cs _ h hw => by
    have hl : cs.length = 1 := by
      rcases Go.Deep.open_slice Try.underlying33 h with ⟨rfl, _⟩ | ⟨_, _, _, _, _, _, _, rfl, _⟩ <;> rfl
    obtain ⟨c, rfl⟩ : ∃ c, cs = [c] := by
      match cs, hl with
      | [c], _ => exact ⟨c, rfl⟩
    obtain ⟨bt, hbt⟩ := open_chgs h hw
    exact ⟨(c, bt), rfl, hbt⟩) hf hw
abbrev csI (z : Int) : List Value := [.int .i64 z]
def NumsA (w : World) (v : Value) (zs : List Int) : Prop := SlS csI 1 (fun _ => True) w v zs ∧ (∀ z ∈ zs, (Lit.int .i64 z).wf = true) ∧ zs.length ≤ maxLen
theorem open_numsA {H : Type} {enc : TypeId × Value → H} {W : World} {fuel : Nat} {v : Value} {x : DataW H × List MemPlace}
    (hf : DataW.trod enc Try.prog W 0 (fun _ => true) true fuel 23 [v] = some x) (hw : ∀ m ∈ x.1.weights Try.prog 23, m ≤ reachBytes) : ∃ zs, NumsA W v zs :=
  open_sl (en := csI) 0 (fun _ => rfl) (by decide) Try.underlying23 (by kernel_rfl) (fun z => (Lit.int .i64 z).wf = true) (fun _ cs _ h _ => by
    obtain ⟨z, rfl, _, hz⟩ := DataW.trod_int Try.underlying3 h
    exact ⟨z, rfl, hz⟩) hf hw
end Go.Proofs.Ytiabnjjdeikefaa
