/- Numbers, lists of numbers and of texts in memory, as arguments; lists held against one another. -/
import Derived.Test.YtojjepkmnifngaaQBase
import Derived.Test.YtojjepkmnifngaaCRSum
import Derived.Test.YtojjepkmnifngaaHMath2
import Derived.BigQuiet
import Derived.Deep.QuietTactic
import Derived.Deep.Slices
import Derived.Deep.Strs
import Derived.ChangeSame
import Derived.OpenShut
import Derived.SizedLaws
import Derived.WideShapes
import Derived.Lib.SmallJoins
namespace Go.Proofs.Ytojjepkmnifngaa
open Go.RowKit

theorem Hid.mk {p : Prop} (h : p) : Hid p := h
abbrev csZ (z : Int) : List Value := [.int .i64 z]
abbrev IntZ := SlS csZ 1
theorem getZ {w : World} {g o : Nat} {z : Int} (h : ∀ (c : Nat) u, (csZ z)[c]? = some u → w.cell? ⟨g, o + c, none⟩ = some u) : w.cell? ⟨g, o, none⟩ = some (.int .i64 z) := h 0 _ rfl
theorem infoZ : (Try.prog.info? 3).map (fun i => (i.zero, i.size, i.bytes)) = some (some (.int .i64 0), 1, 8) := by kernel_rfl
theorem info_parts {P : Program} {t : TypeId} {z : Value} {s b : Nat} (h : (P.info? t).map (fun i => (i.zero, i.size, i.bytes)) = some (some z, s, b)) : ∃ i, P.info? t = some i ∧ i.zero = some z ∧ i.size = s ∧ i.bytes = b := by
  cases hi : P.info? t with
  | none => rw [hi] at h; cases h
  | some i =>
    rw [hi] at h
    simp only [Option.map_some, Option.some.injEq, Prod.mk.injEq] at h
    exact ⟨i, rfl, h.1, h.2.1, h.2.2⟩
theorem below_drewN {B : Nat} {a w : World} (h : Below B a w) (n : Nat) : Below B a (w.drewN n) := ⟨h.os, h.tape, h.output, h.size, h.block⟩
theorem not_both {a b : Int} (h : a ≠ b) : ¬ a = b ∧ (a == b) = false := ⟨h, beq_eq_false_iff_ne.2 h⟩
abbrev csW (s : List UInt8) : List Value := [.string ⟨s.toArray⟩]
abbrev TxtW := SlS csW 1
theorem getW {w : World} {g o : Nat} {s : List UInt8} (h : ∀ (c : Nat) u, (csW s)[c]? = some u → w.cell? ⟨g, o + c, none⟩ = some u) : w.cell? ⟨g, o, none⟩ = some (.string ⟨s.toArray⟩) := h 0 _ rfl
/-- A list of numbers, with the value of its slice. -/
abbrev Vz := Value × List Int
abbrev csA (p : Vz) : List Value := [p.1]
theorem getA {w : World} {g o : Nat} {p : Vz} (h : ∀ (c : Nat) u, (csA p)[c]? = some u → w.cell? ⟨g, o + c, none⟩ = some u) : w.cell? ⟨g, o, none⟩ = some p.1 := h 0 _ rfl
def CapS (v : Value) (n : Nat) : Prop := ∃ ao cap, v = .slice ao n cap ∧ n ≤ cap
/-- Lists of numbers in memory, to be read. -/
structure AtmS (S : Nat → Prop) (w : World) (v : Value) (A : List Vz) : Prop where
  sl : SlS csA 1 S w v A
  el : ∀ p ∈ A, IntZ S w p.1 p.2
  le : ∀ p ∈ A, p.2.length ≤ 9223372036854775807 ∧ CapS p.1 p.2.length
theorem AtmS.below {S : Nat → Prop} {w w' : World} {v : Value} {A : List Vz} (h : AtmS S w v A) (hb : Below w.heap.size w w') : AtmS S w' v A := ⟨h.sl.below hb, fun p hp => (h.el p hp).below hb, h.le⟩
theorem AtmS.fr {S : Nat → Prop} {w w' : World} {v : Value} {A : List Vz} (h : AtmS S w v A) (hb : Fr S w w') : AtmS S w' v A := ⟨h.sl.fr hb, fun p hp => (h.el p hp).fr hb, h.le⟩

theorem weights_in {H : Type} {P : Program} {e : TypeId} {d : DataW H} : ∀ {l : List (DataW H)}, d ∈ l → ∀ q ∈ d.weights P e, q ∈ DataW.weightsAll P e l
  | x :: l, h, q, hq => by
    unfold DataW.weightsAll
    rcases List.mem_cons.1 h with rfl | h
    · exact List.mem_append_left _ hq
    · exact List.mem_append_right _ (weights_in h q hq)
set_option maxRecDepth 100000 in
/-- A slice whose elements are opened one by one; each is smaller than all. -/
theorem open_slN {α : Type} {en : α → List Value} {k : Nat} (d0 : α) (hk : ∀ x, (en x).length = k) (hk0 : 0 < k) {t el : TypeId} (ht : Try.prog.underlying t = some (.slice el)) (hc : Try.prog.cellsOf el = k) (Pr : α → Prop)
    {H : Type} {enc : TypeId × Value → H} {W : World} {fuel : Nat} {v : Value} {x : DataW H × List MemPlace}
    (op : ∀ (fuel : Nat) (cs : List Value) (y : DataW H × List MemPlace), SizeOf.sizeOf y.1 < SizeOf.sizeOf x.1 → DataW.trod enc Try.prog W 0 (fun _ => true) true fuel el cs = some y → (∀ m ∈ y.1.weights Try.prog el, m ≤ reachBytes) → ∃ a : α, cs = en a ∧ Pr a)
    (hf : DataW.trod enc Try.prog W 0 (fun _ => true) true fuel t [v] = some x) (hw : ∀ m ∈ x.1.weights Try.prog t, m ≤ reachBytes) :
    ∃ L : List α, SlS en k (fun _ => True) W v L ∧ (∀ a ∈ L, Pr a) ∧ L.length ≤ maxLen ∧ CapS v L.length := by
  rcases Go.Deep.open_slice ht hf with ⟨hcs, _⟩ | ⟨a, len, cap, m, n, D, Pl, hcs, _, hl, hm, hmm, hx, hcell⟩
  · simp only [List.cons.injEq, and_true] at hcs
    subst hcs
    exact ⟨[], SlS.nil _ _, by simp, by simp, none, 0, rfl, Nat.le_refl _⟩
  · simp only [List.cons.injEq, and_true] at hcs
    subst hcs
    simp only [if_true] at hmm
    rw [hc] at hcell
    have key : ∀ i, i < len → ∃ r : α, W.cells? 0 (a.add (i * k)) k = some (en r) ∧ Pr r := by
      intro i hi
      obtain ⟨cs, h1, h2⟩ := hcell i (by omega)
      obtain ⟨r, rfl, h3⟩ := op _ _ _ (by
        rw [hx]
        have h4 := List.sizeOf_lt_of_mem (show D i ∈ (List.range len).map D from List.mem_map.2 ⟨i, List.mem_range.2 hi, rfl⟩)
        simp only [DataW.slice.sizeOf_spec]
        omega) h2 (fun q hq => hw q (by
        rw [hx]
        simp only [DataW.weights, ht]
        exact List.mem_cons_of_mem _ (List.mem_append_left _ (weights_in (List.mem_map.2 ⟨i, List.mem_range.2 hi, rfl⟩) q hq))))
      exact ⟨r, h1, h3⟩
    obtain ⟨F, hF⟩ : ∃ F : Nat → α, ∀ i, i < len → W.cells? 0 (a.add (i * k)) k = some (en (F i)) ∧ Pr (F i) :=
      ⟨fun i => if h : i < len then Classical.choose (key i h) else d0, fun i hi => by simp only [hi, dif_pos]; exact Classical.choose_spec (key i hi)⟩
    have hvl : ((List.range len).map F).length = len := by simp
    refine ⟨(List.range len).map F, ⟨some a, cap, by rw [hvl], ?_⟩, ?_, by rw [hvl]; omega, some a, cap, by rw [hvl], by rw [hvl]; exact hl⟩
    · by_cases h0 : len = 0
      · left; rw [h0]; rfl
      · right
        obtain ⟨b, off, spot⟩ := a
        obtain ⟨g1, _⟩ := hF 0 (by omega)
        have g2 := (World.cells?_some g1).2.2 0 (by omega)
        have hspot : spot = none := by
          have hz : (en (F 0))[0]? = some ((en (F 0))[0]'(by rw [hk]; exact hk0)) := List.getElem?_eq_getElem _
          rw [hz] at g2
          simpa [Addr.add] using World.cell?_spot g2
        subst hspot
        have hlt : b < W.heap.size := by
          have hz : (en (F 0))[0]? = some ((en (F 0))[0]'(by rw [hk]; exact hk0)) := List.getElem?_eq_getElem _
          rw [hz] at g2
          have := World.block_lt_of_cell? W _ g2
          simpa only [Go.WideShapes.add_plain] using this
        refine ⟨b, off, rfl, trivial, hlt, fun j r hj c u hu => ?_⟩
        have hj1 : j < len := by have := (List.getElem?_eq_some_iff.1 hj).1; rwa [hvl] at this
        rw [List.getElem?_map, List.getElem?_range hj1] at hj
        simp only [Option.map_some, Option.some.injEq] at hj
        subst hj
        have hck : c < k := by have := (List.getElem?_eq_some_iff.1 hu).1; rw [hk] at this; exact this
        have q := (World.cells?_some (hF j hj1).1).2.2 c hck
        simp only [Go.WideShapes.add_plain] at q
        rw [q, hu]
    · intro r hr
      obtain ⟨i, hi, rfl⟩ := List.mem_map.1 hr
      exact (hF i (List.mem_range.1 hi)).2
theorem cellsQI : Try.prog.cellsOf 3 = 1 := by kernel_rfl
/-- Numbers as an argument. -/
theorem open_intsH {H : Type} {enc : TypeId × Value → H} {W : World} {fuel : Nat} {v : Value} {x : DataW H × List MemPlace}
    (hf : DataW.trod enc Try.prog W 0 (fun _ => true) true fuel 24 [v] = some x) (hw : ∀ m ∈ x.1.weights Try.prog 24, m ≤ reachBytes) :
    ∃ L : List Int, IntZ (fun _ => True) W v L ∧ (∀ z ∈ L, (Lit.int .i64 z).wf = true) ∧ L.length ≤ maxLen ∧ CapS v L.length :=
  open_slN (en := csZ) 0 (fun _ => rfl) (by decide) Try.underlying24 cellsQI (fun z => (Lit.int .i64 z).wf = true) (fun _ cs y _ h _ => by
    obtain ⟨z, rfl, _, hz⟩ := DataW.trod_int Try.underlying3 h
    exact ⟨z, rfl, hz⟩) hf hw
theorem cellsQL : Try.prog.cellsOf 24 = 1 := by kernel_rfl
/-- Lists of numbers as an argument. -/
theorem open_atms {H : Type} {enc : TypeId × Value → H} {W : World} {fuel : Nat} {v : Value} {x : DataW H × List MemPlace}
    (hf : DataW.trod enc Try.prog W 0 (fun _ => true) true fuel 23 [v] = some x) (hw : ∀ m ∈ x.1.weights Try.prog 23, m ≤ reachBytes) :
    ∃ A : List Vz, AtmS (fun _ => True) W v A ∧ A.length ≤ 9223372036854775807 := by
  obtain ⟨A, h1, h2, h3, _⟩ := open_slN (en := csA) (.slice none 0 0, []) (fun _ => rfl) (by decide) Try.underlying23 cellsQL (fun p => IntZ (fun _ => True) W p.1 p.2 ∧ p.2.length ≤ maxLen ∧ CapS p.1 p.2.length) (fun _ cs y _ h hq => by
    have hlen : cs.length = 1 := by
      rcases Go.Deep.open_slice Try.underlying24 h with ⟨e, _⟩ | ⟨_, _, _, _, _, _, _, e, _⟩ <;> rw [e] <;> rfl
    obtain ⟨c, rfl⟩ := List.length_eq_one_iff.1 hlen
    obtain ⟨L, g1, _, g3, g4⟩ := open_intsH h hq
    exact ⟨(c, L), rfl, g1, g3, g4⟩) hf hw
  exact ⟨A, ⟨h1, fun p hp => (h2 p hp).1, fun p hp => ⟨by have := (h2 p hp).2.1; unfold maxLen at this; omega, (h2 p hp).2.2⟩⟩, by unfold maxLen at h3; omega⟩

theorem okWide_two {w : World} {r : Reach} {base : Nat} {v : Value} (h : Value.okWide Try.prog w r base 22 v) : ∃ cs, v = .agg cs := by
  simp only [Value.okWide, Try.underlying22] at h
  obtain ⟨cs, h1, _⟩ := h
  exact ⟨cs, h1⟩
set_option maxRecDepth 100000 in
theorem open_two {H : Type} {enc : TypeId × Value → H} {W : World} {fuel : Nat} {cs : List Value} {x : DataW H × List MemPlace}
    (hf : DataW.trod enc Try.prog W 0 (fun _ => true) true fuel 22 cs = some x) :
    ∃ r : Int × Int, cs = [.int .i64 r.1, .int .i64 r.2] ∧ (Lit.int .i64 r.1).wf = true ∧ (Lit.int .i64 r.2).wf = true := by
  obtain ⟨xs, m, _, _, hlen, hxl, hel⟩ := DataW.trod_array Try.underlying22 hf
  have e3 : Try.prog.cellsOf 22 = 2 := by kernel_rfl
  have e1 : Try.prog.cellsOf 3 = 1 := by kernel_rfl
  rw [e3] at hlen
  obtain ⟨c0, c1, rfl⟩ : ∃ c0 c1, cs = [c0, c1] := by
    match cs, hlen with
    | [c0, c1], _ => exact ⟨c0, c1, rfl⟩
  rw [e1] at hel
  have h0 := hel 0 (by omega)
  have h1 := hel 1 (by omega)
  rw [List.getElem?_eq_getElem (by omega)] at h0 h1
  obtain ⟨k0, hk0, _, w0⟩ := DataW.trod_int Try.underlying3 h0
  obtain ⟨k1, hk1, _, w1⟩ := DataW.trod_int Try.underlying3 h1
  simp at hk0 hk1
  subst hk0 hk1
  exact ⟨(k0, k1), rfl, w0, w1⟩

theorem ext_takeZ {L1 L2 : List Int} (hl : L1.length = L2.length) (h : ∀ (j : Nat) x y, j < L1.length → L1[j]? = some x → L2[j]? = some y → x = y) : L1 = L2 := by
  apply List.ext_getElem hl
  intro i h1 h2
  exact h i _ _ h1 (List.getElem?_eq_getElem h1) (List.getElem?_eq_getElem h2)
set_option maxHeartbeats 1000000 in
set_option maxRecDepth 100000 in
theorem rSameZ_any {S T : Nat → Prop} {w : World} {v1 v2 : Value} {L1 L2 : List Int} (h1 : IntZ S w v1 L1) (h2 : IntZ T w v2 L2) (hl : L1.length ≤ 9223372036854775807) :
    Calls Try.prog 9 #[v1, v2] w fun e w' => e = .returned (.bool (decide (L1 = L2))) ∧ Below w.heap.size w w' := by
  obtain ⟨a1, c1, rfl⟩ := h1.slice
  obtain ⟨a2, c2, rfl⟩ := h2.slice
  have H1 := Hid.mk h1
  have H2 := Hid.mk h2
  clear h1 h2
  by_cases hne : L1.length = L2.length
  · obtain ⟨n, hn⟩ : ∃ n, n = L1.length := ⟨_, rfl⟩
    have hn2 : L2.length = n := by omega
    rw [hn2] at H2 ⊢
    rw [← hn] at H1 hl ⊢
    have HN := Hid.mk hn
    have HN2 := Hid.mk hn2
    obtain ⟨ans, hans⟩ : ∃ a, a = decide (L1 = L2) := ⟨_, rfl⟩
    rw [← hans]
    have HA := Hid.mk hans
    clear hne hn hn2 hans
    go_enter Try.func9, Try.ntmps9
    go_wp2_with fail
    go_loopw [5] (fun c wr => ∃ i : Nat, i ≤ n ∧ c = .int .i64 i ∧ (∀ (j : Nat) x y, j < i → L1[j]? = some x → L2[j]? = some y → x = y) ∧ ∃ k, wr = w.drewN k) (fun c _ => n - (intOf c).toNat)
    case atStart => exact ⟨0, Nat.zero_le _, rfl, fun j x y hj => absurd hj (by omega), 0, rfl⟩
    case round =>
      obtain ⟨i, hi, rfl, hall, kq, hkq⟩ := hrel
      have hbq : Below w.heap.size w wr := by rw [hkq]; exact below_drewN (Below.refl _ _) _
      have HKQ := Hid.mk hkq
      clear hkq
      have HAll := Hid.mk hall
      clear hall
      by_cases hlt : i < n
      · have hltI : (i : Int) < (n : Int) := by omega
        obtain ⟨x, hx⟩ : ∃ x, L1[i]? = some x := ⟨_, List.getElem?_eq_getElem (by rw [← HN.out]; exact hlt)⟩
        obtain ⟨y, hy⟩ : ∃ y, L2[i]? = some y := ⟨_, List.getElem?_eq_getElem (by rw [HN2.out]; exact hlt)⟩
        obtain ⟨g1, o1, rfl, _, _, hc1⟩ := (H1.out.below hbq).get hx
        obtain ⟨g2, o2, rfl, _, _, hc2⟩ := (H2.out.below hbq).get hy
        have p0 := getZ hc1
        have r0 := getZ hc2
        rw [Nat.mul_one] at p0 r0
        clear hc1 hc2 hbq
        by_cases hxy : x = y
        · have HAll2 : Hid (∀ (j : Nat) x y, j < i + 1 → L1[j]? = some x → L2[j]? = some y → x = y) := Hid.mk (fun j x' y' hj hx' hy' => by
            by_cases e : j = i
            · subst e
              rw [hx] at hx'; rw [hy] at hy'
              rw [← Option.some.inj hx', ← Option.some.inj hy']; exact hxy
            · exact HAll.out j x' y' (by omega) hx' hy')
          subst hxy
          clear hx hy
          go_wp2_with fail
          go_region
          go_wp2
          go_roundw
          case rel => exact ⟨i + 1, by omega, by go_num, HAll2.out, kq + 1, by rw [HKQ.out]; rfl⟩
          case measure => simp [intOf]; omega
        · have HF : Hid (ans = false) := Hid.mk (by
            rw [HA.out]
            refine decide_eq_false (fun e => hxy ?_)
            rw [e, hy] at hx
            exact (Option.some.inj hx).symm)
          have hd : (x != y) = true := by simpa using hxy
          clear hx hy
          go_wp2_with fail
          go_region
          go_wp2
          go_ret
          exact ⟨by rw [HF.out]; rfl, by rw [HKQ.out]; exact below_drewN (Below.refl _ _) (kq + 1)⟩
      · have hltI : ¬ (i : Int) < (n : Int) := by omega
        have HT : Hid (ans = true) := Hid.mk (by
          rw [HA.out]
          exact decide_eq_true (ext_takeZ (by rw [← HN.out, HN2.out]) (fun j x y hj => HAll.out j x y (by have := HN.out; omega))))
        go_wp2
        go_ret
        exact ⟨by rw [HT.out]; rfl, hbq⟩
  · have hd : decide (L1 = L2) = false := decide_eq_false (fun e => hne (by rw [e]))
    rw [hd]
    have hne2 : ((L1.length : Int) != (L2.length : Int)) = true := by simp; omega
    obtain ⟨n, hn⟩ : ∃ n, n = L1.length := ⟨_, rfl⟩
    obtain ⟨m, hm⟩ : ∃ m, m = L2.length := ⟨_, rfl⟩
    rw [← hn, ← hm] at hne2 ⊢
    clear hne hd hn hm
    go_enter Try.func9, Try.ntmps9
    go_wp2
    go_ret
    exact ⟨rfl, Below.refl _ _⟩
end Go.Proofs.Ytojjepkmnifngaa
