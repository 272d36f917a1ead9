/- Rows and maps of a call's own; what is kept of other blocks; numbers as an argument. -/
import Derived.Test.YtnkgbinogblemaaDMath
import Derived.Test.YtnkgbinogblemaaProg
import Derived.WalkKit
import Derived.LaidEqlPtr
import Derived.Carry
import Derived.BigQuiet
import Derived.Deep.QuietTactic
import Derived.Deep.AppendLies
import Derived.Maps.OwnSet
import Derived.Maps.AppendAt
import Derived.Deep.Slices
import Derived.Deep.Strs
import Derived.ChangeSame
import Derived.OpenShut
import Derived.SizedLaws
import Derived.WideShapes
namespace Go.Proofs.Ytnkgbinogblemaa
open Go.RowKit

theorem Hid.mk {p : Prop} (h : p) : Hid p := h
/-- The blocks of S are kept. -/
structure Fr (S : Nat → Prop) (w w' : World) : Prop where
  os : w'.os = w.os
  tape : w'.tape = w.tape
  output : w'.output = w.output
  size : w.heap.size ≤ w'.heap.size
  block : ∀ k, S k → w'.heap[k]? = w.heap[k]?
theorem Fr.refl (S : Nat → Prop) (w : World) : Fr S w w := ⟨rfl, rfl, rfl, Nat.le_refl _, fun _ _ => rfl⟩
theorem Fr.trans {S : Nat → Prop} {a b c : World} (h : Fr S a b) (k : Fr S b c) : Fr S a c :=
  ⟨k.os.trans h.os, k.tape.trans h.tape, k.output.trans h.output, Nat.le_trans h.size k.size, fun i hi => (k.block i hi).trans (h.block i hi)⟩
theorem Fr.sub {S T : Nat → Prop} {w w' : World} (h : Fr S w w') (hs : ∀ k, T k → S k) : Fr T w w' := ⟨h.os, h.tape, h.output, h.size, fun k hk => h.block k (hs k hk)⟩
theorem Fr.below {S : Nat → Prop} {w w' : World} {B : Nat} (h : Fr S w w') (hs : ∀ k, k < B → S k) : Below B w w' := ⟨h.os, h.tape, h.output, h.size, fun k hk => h.block k (hs k hk)⟩
/-- S names blocks of the world alone. -/
def Low (S : Nat → Prop) (w : World) : Prop := ∀ k, S k → k < w.heap.size
theorem Low.fr {S T : Nat → Prop} {w w' : World} (h : Low S w) (hf : Fr T w w') : Low S w' := fun k hk => Nat.lt_of_lt_of_le (h k hk) hf.size
theorem Low.below {S : Nat → Prop} {w w' : World} {B : Nat} (h : Low S w) (hf : Below B w w') : Low S w' := fun k hk => Nat.lt_of_lt_of_le (h k hk) hf.size
theorem Low.size {S : Nat → Prop} {w w' : World} (h : Low S w) (hf : w.heap.size ≤ w'.heap.size) : Low S w' := fun k hk => Nat.lt_of_lt_of_le (h k hk) hf
theorem fr_below {S : Nat → Prop} {w w' : World} (hS : Low S w) (h : Below w.heap.size w w') : Fr S w w' := ⟨h.os, h.tape, h.output, h.size, fun k hk => h.block k (hS k hk)⟩
theorem Fr.next {S : Nat → Prop} {w w1 w2 : World} (h : Fr S w w1) (hS : Low S w) (hb : Below w1.heap.size w1 w2) : Fr S w w2 := h.trans (fr_below (hS.fr h) hb)
theorem Fr.setCell {S : Nat → Prop} {w w' : World} {b i : Nat} (h : Fr S w w') (hb : ¬ S b) (v : Value) : Fr S w (w'.setCell ⟨b, i, none⟩ v) :=
  ⟨h.os, h.tape, h.output, by simpa using h.size, fun k hk => (Below.heap_setCell w' ⟨b, i, none⟩ v k (fun e => hb (by rw [← show k = b from e]; exact hk))).trans (h.block k hk)⟩
theorem Fr.grown {S : Nat → Prop} {w w1 w2 : World} {row : Option Nat} (h : Fr S w w1) (hS : Low S w) (hg : w1.grownBy w2 row) (hr : ∀ g, row = some g → ¬ S g) : Fr S w w2 :=
  ⟨hg.os.trans h.os, hg.tape.trans h.tape, hg.output.trans h.output, Nat.le_trans h.size hg.size, fun k hk => (hg.block k (Nat.lt_of_lt_of_le (hS k hk) h.size) (fun e => hr k e.symm hk)).trans (h.block k hk)⟩

/-- What was made since may be kept too. -/
def Plus (S : Nat → Prop) (lo hi : Nat) : Nat → Prop := fun k => S k ∨ (lo ≤ k ∧ k < hi)
theorem Low.plus {S : Nat → Prop} {w w' : World} (h : Low S w) (hs : w.heap.size ≤ w'.heap.size) : Low (Plus S w.heap.size w'.heap.size) w' := fun k hk => by
  rcases hk with hk | hk
  · have := h k hk; omega
  · exact hk.2
theorem below_grown {w w' : World} (hb : Below w.heap.size w w') : w.grownBy w' none := ⟨hb.os, hb.tape, hb.output, hb.size, fun k hk _ => hb.block k hk⟩
theorem box_at (w : World) (o : Obj) : (w.alloc o).heap[w.heap.size]? = some o := heap_alloc_new w o
theorem own_slice {w : World} {B n : Nat} {e : TypeId} {size : Nat} {v : Value} {xs : List Value} (h : w.ownsRow B e size v n xs) : ∃ ao cap, v = .slice ao n cap := by
  rcases h.2 with ⟨rfl, rfl⟩ | ⟨g, cap, cur, rfl, _⟩
  · exact ⟨none, 0, rfl⟩
  · exact ⟨_, cap, rfl⟩
theorem own_lt {w : World} {B n g : Nat} {e : TypeId} {size : Nat} {v : Value} {xs : List Value} (h : w.ownsRow B e size v n xs) (hg : v.ownBlock = some g) : g < w.heap.size := (h.lt g hg).2
theorem owns_key {w w' : World} {B n : Nat} {e : TypeId} {size : Nat} {v : Value} {xs : List Value} (h : w.ownsRow B e size v n xs) (key : ∀ g o, v.ownBlock = some g → w.heap[g]? = some o → w'.heap[g]? = some o) : w'.ownsRow B e size v n xs := by
  refine ⟨h.1, ?_⟩
  rcases h.2 with h0 | ⟨g, cap, cur, e1, e2, e3, e4⟩
  · exact .inl h0
  · exact .inr ⟨g, cap, cur, e1, e2, key g _ (by rw [e1]; rfl) e3, e4⟩
theorem owns_below {w w' : World} {B n : Nat} {e : TypeId} {size : Nat} {v : Value} {xs : List Value} (h : w.ownsRow B e size v n xs) (hb : Below w.heap.size w w') : w'.ownsRow B e size v n xs :=
  owns_key h (fun g _ _ ho => (hb.block g (lt_of_block ho)).trans ho)

/-! Slices whose elements have k cells each. -/
section
variable {α : Type} {enc : α → List Value} {k : Nat}
/-- A slice whose elements lie in a block of S. -/
def SlS (enc : α → List Value) (k : Nat) (S : Nat → Prop) (w : World) (v : Value) (L : List α) : Prop :=
  ∃ ao cap, v = .slice ao L.length cap ∧ (L = [] ∨ ∃ g off, ao = some ⟨g, off, none⟩ ∧ S g ∧ g < w.heap.size ∧ ∀ (j : Nat) x, L[j]? = some x → ∀ (c : Nat) u, (enc x)[c]? = some u → w.cell? ⟨g, off + j * k + c, none⟩ = some u)
theorem SlS.keep {S T : Nat → Prop} {w w' : World} {v : Value} {L : List α} (h : SlS enc k S w v L) (hz : w.heap.size ≤ w'.heap.size) (hk : ∀ b, S b → b < w.heap.size → T b ∧ w'.heap[b]? = w.heap[b]?) : SlS enc k T w' v L := by
  obtain ⟨ao, cap, e, h⟩ := h
  refine ⟨ao, cap, e, ?_⟩
  rcases h with h | ⟨g, off, e1, hs, hl, hc⟩
  · exact .inl h
  · obtain ⟨ht, hb⟩ := hk g hs hl
    exact .inr ⟨g, off, e1, ht, Nat.lt_of_lt_of_le hl hz, fun j x hx c u hu => by simpa only [World.cell?, hb] using hc j x hx c u hu⟩
theorem SlS.below {S : Nat → Prop} {w w' : World} {v : Value} {L : List α} (h : SlS enc k S w v L) (hb : Below w.heap.size w w') : SlS enc k S w' v L :=
  h.keep hb.size (fun b hs hl => ⟨hs, hb.block b hl⟩)
theorem SlS.sub {S T : Nat → Prop} {w : World} {v : Value} {L : List α} (h : SlS enc k S w v L) (hs : ∀ b, S b → b < w.heap.size → T b) : SlS enc k T w v L :=
  h.keep (Nat.le_refl _) (fun b hb hl => ⟨hs b hb hl, rfl⟩)
theorem SlS.nil (S : Nat → Prop) (w : World) : SlS enc k S w (.slice none 0 0) [] := ⟨none, 0, rfl, .inl rfl⟩
theorem SlS.get {S : Nat → Prop} {w : World} {ao : Option Addr} {n cap : Nat} {L : List α} (h : SlS enc k S w (.slice ao n cap) L) {j : Nat} {x : α} (hx : L[j]? = some x) :
    ∃ g off, ao = some ⟨g, off, none⟩ ∧ S g ∧ g < w.heap.size ∧ ∀ (c : Nat) u, (enc x)[c]? = some u → w.cell? ⟨g, off + j * k + c, none⟩ = some u := by
  obtain ⟨ao', cap', e, h⟩ := h
  injection e with e1 e2 e3
  subst e1
  rcases h with rfl | ⟨g, off, e1, hs, hl, hc⟩
  · simp at hx
  · exact ⟨g, off, e1, hs, hl, hc j x hx⟩
theorem SlS.slice {S : Nat → Prop} {w : World} {v : Value} {L : List α} (h : SlS enc k S w v L) : ∃ ao cap, v = .slice ao L.length cap := by
  obtain ⟨ao, cap, e, _⟩ := h
  exact ⟨ao, cap, e⟩
theorem flat_len (hk : ∀ x, (enc x).length = k) (L : List α) : (L.flatMap enc).length = L.length * k := by
  induction L with
  | nil => simp
  | cons x l ih => rw [List.flatMap_cons, List.length_append, ih, hk, List.length_cons, Nat.succ_mul]; omega
theorem flat_at (hk : ∀ x, (enc x).length = k) : ∀ (L : List α) (j c : Nat) (x : α), L[j]? = some x → c < k → (L.flatMap enc)[j * k + c]? = (enc x)[c]?
  | [], j, c, x, h, _ => by simp at h
  | y :: l, 0, c, x, h, hc => by
    simp at h
    subst h
    rw [List.flatMap_cons, Nat.zero_mul, Nat.zero_add, List.getElem?_append_left (by rw [hk]; exact hc)]
  | y :: l, j + 1, c, x, h, hc => by
    rw [List.flatMap_cons, List.getElem?_append_right (by rw [hk, Nat.succ_mul]; omega), hk, show (j + 1) * k + c - k = j * k + c by rw [Nat.succ_mul]; omega]
    exact flat_at hk l j c x (by simpa using h) hc
theorem own_sl (hk : ∀ x, (enc x).length = k) {w : World} {B n : Nat} {e : TypeId} {v : Value} {L : List α} (h : w.ownsRow B e k v n (L.flatMap enc)) (hn : n = L.length) : SlS enc k (fun g => v.ownBlock = some g) w v L := by
  have h0 := h
  rcases h.2 with ⟨rfl, h1⟩ | ⟨g, cap, cur, rfl, _⟩
  · have : L = [] := List.length_eq_zero_iff.1 (by omega)
    subst this
    exact SlS.nil _ _
  · subst hn
    refine ⟨_, cap, rfl, .inr ⟨g, 0, rfl, rfl, (h.lt g rfl).2, fun j x hx c u hu => ?_⟩⟩
    have hc : c < k := by have := (List.getElem?_eq_some_iff.1 hu).1; rw [hk] at this; exact this
    have hj := (List.getElem?_eq_some_iff.1 hx).1
    have hlt : j * k + c < (L.flatMap enc).length := by
      rw [flat_len hk]
      have : (j + 1) * k ≤ L.length * k := Nat.mul_le_mul_right k hj
      rw [Nat.succ_mul] at this
      omega
    rw [Nat.zero_add, h0.cellAt (j * k + c) (by rw [flat_len hk] at hlt; exact hlt), flat_at hk L j c x hx hc, hu]
end

abbrev csZ (z : Int) : List Value := [.int .i64 z]
abbrev IntZ := SlS csZ 1
theorem getZ {w : World} {g o : Nat} {z : Int} (h : ∀ (c : Nat) u, (csZ z)[c]? = some u → w.cell? ⟨g, o + c, none⟩ = some u) : w.cell? ⟨g, o, none⟩ = some (.int .i64 z) := h 0 _ rfl
theorem infoZ : (Try.prog.info? 3).map (fun i => (i.zero, i.size, i.bytes)) = some (some (.int .i64 0), 1, 8) := by kernel_rfl
theorem info_parts {P : Program} {t : TypeId} {z : Value} {s b : Nat} (h : (P.info? t).map (fun i => (i.zero, i.size, i.bytes)) = some (some z, s, b)) : ∃ i, P.info? t = some i ∧ i.zero = some z ∧ i.size = s ∧ i.bytes = b := by
  cases hi : P.info? t with
  | none => rw [hi] at h; cases h
  | some i =>
    rw [hi] at h
    simp only [Option.map_some, Option.some.injEq, Prod.mk.injEq] at h
    exact ⟨i, rfl, h.1, h.2.1, h.2.2⟩
theorem below_drewN {B : Nat} {a w : World} (h : Below B a w) (n : Nat) : Below B a (w.drewN n) := ⟨h.os, h.tape, h.output, h.size, h.block⟩
def CapS (v : Value) (n : Nat) : Prop := ∃ ao cap, v = .slice ao n cap ∧ n ≤ cap
theorem weights_in {H : Type} {P : Program} {e : TypeId} {d : DataW H} : ∀ {l : List (DataW H)}, d ∈ l → ∀ q ∈ d.weights P e, q ∈ DataW.weightsAll P e l
  | x :: l, h, q, hq => by
    unfold DataW.weightsAll
    rcases List.mem_cons.1 h with rfl | h
    · exact List.mem_append_left _ hq
    · exact List.mem_append_right _ (weights_in h q hq)
set_option maxRecDepth 100000 in
/-- A slice whose elements are opened one by one; each is smaller than all. -/
theorem open_slN {α : Type} {en : α → List Value} {k : Nat} (d0 : α) (hk : ∀ x, (en x).length = k) (hk0 : 0 < k) {t el : TypeId} (ht : Try.prog.underlying t = some (.slice el)) (hc : Try.prog.cellsOf el = k) (Pr : α → Prop)
    {H : Type} {enc : TypeId × Value → H} {W : World} {fuel : Nat} {v : Value} {x : DataW H × List MemPlace}
    (op : ∀ (fuel : Nat) (cs : List Value) (y : DataW H × List MemPlace), SizeOf.sizeOf y.1 < SizeOf.sizeOf x.1 → DataW.trod enc Try.prog W 0 (fun _ => true) true fuel el cs = some y → (∀ m ∈ y.1.weights Try.prog el, m ≤ reachBytes) → ∃ a : α, cs = en a ∧ Pr a)
    (hf : DataW.trod enc Try.prog W 0 (fun _ => true) true fuel t [v] = some x) (hw : ∀ m ∈ x.1.weights Try.prog t, m ≤ reachBytes) :
    ∃ L : List α, SlS en k (fun _ => True) W v L ∧ (∀ a ∈ L, Pr a) ∧ L.length ≤ maxLen ∧ CapS v L.length := by
  rcases Go.Deep.open_slice ht hf with ⟨hcs, _⟩ | ⟨a, len, cap, m, n, D, Pl, hcs, _, hl, hm, hmm, hx, hcell⟩
  · simp only [List.cons.injEq, and_true] at hcs
    subst hcs
    exact ⟨[], SlS.nil _ _, by simp, by simp, none, 0, rfl, Nat.le_refl _⟩
  · simp only [List.cons.injEq, and_true] at hcs
    subst hcs
    simp only [if_true] at hmm
    rw [hc] at hcell
    have key : ∀ i, i < len → ∃ r : α, W.cells? 0 (a.add (i * k)) k = some (en r) ∧ Pr r := by
      intro i hi
      obtain ⟨cs, h1, h2⟩ := hcell i (by omega)
      obtain ⟨r, rfl, h3⟩ := op _ _ _ (by
        rw [hx]
        have h4 := List.sizeOf_lt_of_mem (show D i ∈ (List.range len).map D from List.mem_map.2 ⟨i, List.mem_range.2 hi, rfl⟩)
        simp only [DataW.slice.sizeOf_spec]
        omega) h2 (fun q hq => hw q (by
        rw [hx]
        simp only [DataW.weights, ht]
        exact List.mem_cons_of_mem _ (List.mem_append_left _ (weights_in (List.mem_map.2 ⟨i, List.mem_range.2 hi, rfl⟩) q hq))))
      exact ⟨r, h1, h3⟩
    obtain ⟨F, hF⟩ : ∃ F : Nat → α, ∀ i, i < len → W.cells? 0 (a.add (i * k)) k = some (en (F i)) ∧ Pr (F i) :=
      ⟨fun i => if h : i < len then Classical.choose (key i h) else d0, fun i hi => by simp only [hi, dif_pos]; exact Classical.choose_spec (key i hi)⟩
    have hvl : ((List.range len).map F).length = len := by simp
    refine ⟨(List.range len).map F, ⟨some a, cap, by rw [hvl], ?_⟩, ?_, by rw [hvl]; omega, some a, cap, by rw [hvl], by rw [hvl]; exact hl⟩
    · by_cases h0 : len = 0
      · left; rw [h0]; rfl
      · right
        obtain ⟨b, off, spot⟩ := a
        obtain ⟨g1, _⟩ := hF 0 (by omega)
        have g2 := (World.cells?_some g1).2.2 0 (by omega)
        have hspot : spot = none := by
          have hz : (en (F 0))[0]? = some ((en (F 0))[0]'(by rw [hk]; exact hk0)) := List.getElem?_eq_getElem _
          rw [hz] at g2
          simpa [Addr.add] using World.cell?_spot g2
        subst hspot
        have hlt : b < W.heap.size := by
          have hz : (en (F 0))[0]? = some ((en (F 0))[0]'(by rw [hk]; exact hk0)) := List.getElem?_eq_getElem _
          rw [hz] at g2
          have := World.block_lt_of_cell? W _ g2
          simpa only [Go.WideShapes.add_plain] using this
        refine ⟨b, off, rfl, trivial, hlt, fun j r hj c u hu => ?_⟩
        have hj1 : j < len := by have := (List.getElem?_eq_some_iff.1 hj).1; rwa [hvl] at this
        rw [List.getElem?_map, List.getElem?_range hj1] at hj
        simp only [Option.map_some, Option.some.injEq] at hj
        subst hj
        have hck : c < k := by have := (List.getElem?_eq_some_iff.1 hu).1; rw [hk] at this; exact this
        have q := (World.cells?_some (hF j hj1).1).2.2 c hck
        simp only [Go.WideShapes.add_plain] at q
        rw [q, hu]
    · intro r hr
      obtain ⟨i, hi, rfl⟩ := List.mem_map.1 hr
      exact (hF i (List.mem_range.1 hi)).2
theorem cellsQI : Try.prog.cellsOf 3 = 1 := by kernel_rfl
/-- Numbers as an argument. -/
theorem open_intsH {H : Type} {enc : TypeId × Value → H} {W : World} {fuel : Nat} {v : Value} {x : DataW H × List MemPlace}
    (hf : DataW.trod enc Try.prog W 0 (fun _ => true) true fuel 50 [v] = some x) (hw : ∀ m ∈ x.1.weights Try.prog 50, m ≤ reachBytes) :
    ∃ L : List Int, IntZ (fun _ => True) W v L ∧ (∀ z ∈ L, (Lit.int .i64 z).wf = true) ∧ L.length ≤ maxLen ∧ CapS v L.length :=
  open_slN (en := csZ) 0 (fun _ => rfl) (by decide) Try.underlying50 cellsQI (fun z => (Lit.int .i64 z).wf = true) (fun _ cs y _ h _ => by
    obtain ⟨z, rfl, _, hz⟩ := DataW.trod_int Try.underlying3 h
    exact ⟨z, rfl, hz⟩) hf hw
/-- 'append(v, list...)': the list may be nil, empty or of any length. -/
theorem run_append_many {w : World} {B n k : Nat} {v : Value} {xs : List Value} {t e : TypeId} {i0 : TypeInfo} {z : Value} {bytes : Nat} (ht : Try.prog.underlying t = some (.slice e)) (hi : Try.prog.info? e = some i0) (hz0 : i0.zero = some z) (hz1 : i0.size = k) (hz2 : i0.bytes = bytes) (hz3 : z.cells.size = k) (hk : 0 < k)
    (hown : w.ownsRow B e k v n xs) (ao : Option Addr) (us : List Value) (m cap : Nat) (hm : us.length = m * k) (hnone : ao = none → m = 0 ∧ cap = 0) (hc : ∀ ad, ao = some ad → ∀ j u, us[j]? = some u → w.cell? (ad.add j) = some u) (h1 : ∀ u ∈ us, u.oneCell' = true)
    (h63 : n + m ≤ maxLen) (hb : (n + m) * bytes ≤ 140737488355328) (hB : B ≤ w.heap.size) (ty : TypeId) :
    ∃ v' w', (Builtin.append_ #[t, t] ty #[v, .slice ao m cap]).run Try.prog w = .ok v' w' ∧ w'.ownsRow B e k v' (n + m) (xs ++ us) ∧ w.grownBy w' v.ownBlock := by
  cases ao with
  | some ad =>
    obtain ⟨v', w', hr, h2, h3, _, _⟩ := run_append_own_at (P := Try.prog) w B t ty e i0 z k bytes ht hi hz0 hz1 hz2 hz3 hk v n xs hown ad m cap us hm (hc ad rfl) h1 h63 hb hB
    exact ⟨v', w', hr, h2, h3⟩
  | none =>
    obtain ⟨rfl, rfl⟩ := hnone rfl
    have e0 : us = [] := List.length_eq_zero_iff.1 (by omega)
    subst e0
    have hrun := run_append_owned_none (P := Try.prog) w B t ty e i0 k ht hi v n xs hown
    exact ⟨v, w, hrun, by simpa using hown, World.grownBy.refl _ _⟩
/-- The operation, for a walk. -/
theorem wpList_append_many {w : World} {ops : Array Oper} {rest : List Oper} {o : Oper} {a : Act} {Q : Exit → Act → World → Prop} (hgd : o.guard = none) (sl x : Operand) {t : TypeId}
    (ho : o.op = .call { callee := .builtin .append, args := #[sl, x], argTypes := #[t, t] })
    {B n k : Nat} {v : Value} {xs : List Value} {e : TypeId} {i0 : TypeInfo} {z : Value} {bytes : Nat} (ht : Try.prog.underlying t = some (.slice e)) (hi : Try.prog.info? e = some i0) (hz0 : i0.zero = some z) (hz1 : i0.size = k) (hz2 : i0.bytes = bytes) (hz3 : z.cells.size = k) (hk : 0 < k)
    (hs : a.eval sl = v) (hown : w.ownsRow B e k v n xs) (ao : Option Addr) (us : List Value) (m cap : Nat) (hx : a.eval x = .slice ao m cap) (hm : us.length = m * k) (hnone : ao = none → m = 0 ∧ cap = 0) (hc : ∀ ad, ao = some ad → ∀ j u, us[j]? = some u → w.cell? (ad.add j) = some u) (h1 : ∀ u ∈ us, u.oneCell' = true)
    (h63 : n + m ≤ maxLen) (hb : (n + m) * bytes ≤ 140737488355328) (hB : B ≤ w.heap.size)
    (h : ∀ v' w', w'.ownsRow B e k v' (n + m) (xs ++ us) → w.grownBy w' v.ownBlock → wpList Try.prog ops Q rest (a.put o.dst v') w') : wpList Try.prog ops Q (o :: rest) a w := by
  refine wpList_plain hgd fun K hK => ?_
  obtain ⟨v', w', hr, h2, h3⟩ := run_append_many ht hi hz0 hz1 hz2 hz3 hk hown ao us m cap hm hnone hc h1 h63 hb hB o.type
  unfold Oper.wp execOp
  simp only [ho, resolve, invoke, builtin, Sem.run_bind, Sem.run_pure, Result.andThen_ok, List.map_toArray, List.map_cons, List.map_nil, hs, hx, hr]
  exact hK _ _ (h v' w' h2 h3)

theorem ownsRow_base {w : World} {B C n k : Nat} {e : TypeId} {v : Value} {xs : List Value} (h : w.ownsRow B e k v n xs) (hC : C ≤ B) : w.ownsRow C e k v n xs := by
  refine ⟨h.1, ?_⟩
  rcases h.2 with h0 | ⟨g, cap, cur, e1, e2, e3⟩
  · exact .inl h0
  · exact .inr ⟨g, cap, cur, e1, Nat.le_trans hC e2, e3⟩
theorem ownsRow_below {w w' : World} {B n k : Nat} {e : TypeId} {v : Value} {xs : List Value} (h : w.ownsRow B e k v n xs) (hb : Below w.heap.size w w') : w'.ownsRow B e k v n xs :=
  owns_key h (fun g _ hg ho => (hb.block g (h.lt g hg).2).trans ho)

/-- A part of a row that is owned: what can be read of it. -/
structure Cut (w : World) (k : Nat) (us : List Value) (aa : Option Addr) (m cc : Nat) : Prop where
  len : us.length = m * k
  none_ : aa = none → m = 0 ∧ cc = 0
  cell : ∀ ad, aa = some ad → ∀ j u, us[j]? = some u → w.cell? (ad.add j) = some u ∧ ad.block < w.heap.size
theorem addr_add (g i j : Nat) : (⟨g, i, none⟩ : Addr).add j = ⟨g, i + j, none⟩ := by
  unfold Addr.add
  split <;> simp_all
theorem Cut.below {w w' : World} {k m cc : Nat} {us : List Value} {aa : Option Addr} (h : Cut w k us aa m cc) (hb : Below w.heap.size w w') : Cut w' k us aa m cc :=
  ⟨h.len, h.none_, fun ad e j u hu => by
    obtain ⟨h1, h2⟩ := h.cell ad e j u hu
    refine ⟨?_, Nat.lt_of_lt_of_le h2 hb.size⟩
    rw [hb.cell (p := ad.add j) (by rw [show (ad.add j).block = ad.block by unfold Addr.add; split <;> rfl]; exact h2)]
    exact h1⟩
theorem Cut.reads {w : World} {k m cc : Nat} {us : List Value} {aa : Option Addr} (h : Cut w k us aa m cc) : ∀ ad, aa = some ad → ∀ j u, us[j]? = some u → w.cell? (ad.add j) = some u := fun ad e j u hu => (h.cell ad e j u hu).1


/-- A row that is owned, cut: 'x[:k]' and 'x[k:]'. -/
theorem row_cut {w : World} {B kk : Nat} {ao : Option Addr} {n cap : Nat} {xs : List Value} {t e : TypeId} (helem : Try.prog.elem t = e) (hu : Try.prog.underlying t = some (.slice e)) (hs : ∀ w', (Go.sizeOf e).run Try.prog w' = .ok kk w') (h : w.ownsRow B e kk (.slice ao n cap) n xs) {k : Nat} (hk : k ≤ n) :
    (∃ aa cc, (∀ w', (Instr.slice t (.slice ao n cap) none (some (.int .i64 (k : Int))) none).run Try.prog w' = .ok (.slice aa k cc) w') ∧ Cut w kk (xs.take (k * kk)) aa k cc) ∧
    (∃ aa cc, (∀ w', (Instr.slice t (.slice ao n cap) (some (.int .i64 (k : Int))) none none).run Try.prog w' = .ok (.slice aa (n - k) cc) w') ∧ Cut w kk (xs.drop (k * kk)) aa (n - k) cc) := by
  have ht : Try.prog.underlying t = some (.slice (Try.prog.elem t)) := by rw [helem]; exact hu
  have hsz : ∀ w', (Go.sizeOf (Try.prog.elem t)).run Try.prog w' = .ok kk w' := fun w' => by rw [helem]; exact hs w'
  have hxl := h.1
  have hle : k * kk ≤ n * kk := Nat.mul_le_mul_right _ hk
  have e2 : xs = xs.take (k * kk) ++ xs.drop (k * kk) := (List.take_append_drop _ _).symm
  have l1 : (xs.take (k * kk)).length = k * kk := by rw [List.length_take, Nat.min_eq_left (by omega)]
  have l2 : (xs.drop (k * kk)).length = (n - k) * kk := by rw [List.length_drop, hxl, Nat.sub_mul]
  rcases h.2 with ⟨e0, h0⟩ | ⟨g, cap2, cur, e0, hg, hgb, hcap, _⟩
  · injection e0 with e1 _ e3
    subst e1 e3 h0
    have hk0 : k = 0 := by omega
    subst hk0
    refine ⟨⟨none, 0, fun w' => ?_, l1, fun _ => ⟨rfl, rfl⟩, fun ad e => by cases e⟩, ⟨none, 0, fun w' => ?_, l2, fun _ => ⟨rfl, rfl⟩, fun ad e => by cases e⟩⟩
    · rw [run_slice_h w' _ none 0 0 ht .i64 ((0 : Nat) : Int) (by omega) (by omega), hsz]
      simp [sliced, Result.andThen]
    · rw [run_slice_l w' _ none 0 0 ht .i64 ((0 : Nat) : Int) (by omega) (by omega), hsz]
      simp [sliced, Result.andThen]
  · injection e0 with e1 _ e3
    subst e1 e3
    have hgl := lt_of_block hgb
    have rd : ∀ j u, xs[j]? = some u → w.cell? ⟨g, j, none⟩ = some u := fun j u hu => by
      have hj := (List.getElem?_eq_some_iff.1 hu).1
      rw [h.cellAt j (by omega)]
      exact hu
    refine ⟨⟨some ⟨g, 0, none⟩, cap, fun w' => ?_, l1, (fun e => by cases e), fun ad e j u hu => ?_⟩, ⟨some (if cap = k then ⟨g, 0, none⟩ else ⟨g, k * kk, none⟩), cap - k, fun w' => ?_, l2, (fun e => by cases e), fun ad e j u hu => ?_⟩⟩
    · rw [run_slice_h w' _ _ n cap ht .i64 (k : Int) (by omega) (by omega), hsz]
      simp [sliced, Result.andThen, addr_add]
    · obtain rfl := Option.some.inj e
      refine ⟨?_, hgl⟩
      rw [addr_add, Nat.zero_add]
      refine rd j u ?_
      rw [e2, List.getElem?_append_left (List.getElem?_eq_some_iff.1 hu).1]
      exact hu
    · rw [run_slice_l w' _ _ n cap ht .i64 (k : Int) (by omega) (by omega), hsz]
      by_cases hc : cap = k
      · simp [sliced, Result.andThen, hc]
      · simp [sliced, Result.andThen, hc, addr_add]
    · obtain rfl := Option.some.inj e
      have hj := (List.getElem?_eq_some_iff.1 hu).1
      rw [l2] at hj
      have hkn : k < n := by
        rcases Nat.lt_or_ge k n with h1 | h1
        · exact h1
        · rw [Nat.sub_eq_zero_of_le h1, Nat.zero_mul] at hj; omega
      rw [if_neg (by omega)]
      refine ⟨?_, hgl⟩
      rw [addr_add]
      refine rd _ u ?_
      rw [e2, List.getElem?_append_right (by omega), l1, Nat.add_sub_cancel_left]
      exact hu
/-- A row that grew: the blocks that are not its own are kept. -/
structure Grew (w w2 : World) (v v2 : Value) : Prop where
  os : w2.os = w.os
  tape : w2.tape = w.tape
  output : w2.output = w.output
  size : w.heap.size ≤ w2.heap.size
  block : ∀ k, k < w.heap.size → v.ownBlock ≠ some k → w2.heap[k]? = w.heap[k]?
  at_ : ∀ g, v2.ownBlock = some g → v.ownBlock = some g ∨ w.heap.size ≤ g
theorem Grew.lies {w w1 w2 : World} {v : Value} {g n cap : Nat} (hb : Below w.heap.size w w1) (hg : w1.grownBy w2 v.ownBlock) (hat : v.ownBlock = some g ∨ g = w1.heap.size) : Grew w w2 v (.slice (some ⟨g, 0, none⟩) n cap) := by
  have := hb.size
  refine ⟨hg.os.trans hb.os, hg.tape.trans hb.tape, hg.output.trans hb.output, Nat.le_trans hb.size hg.size, fun k hk hne => (hg.block k (by omega) (fun e => hne e.symm)).trans (hb.block k hk), fun g' e => ?_⟩
  have e : g = g' := by simpa [Value.ownBlock] using e
  subst e
  rcases hat with h | h
  · exact .inl h
  · exact .inr (by omega)
theorem Grew.anew {w w2 : World} {v v2 : Value} {e : TypeId} {kk n : Nat} {xs : List Value} (hb : Below w.heap.size w w2) (ho : w2.ownsRow w.heap.size e kk v2 n xs) : Grew w w2 v v2 :=
  ⟨hb.os, hb.tape, hb.output, hb.size, fun k hk _ => hb.block k hk, fun g hg => .inr (ho.lt g hg).1⟩
theorem own_ty {w : World} {B n g : Nat} {e : TypeId} {size : Nat} {v : Value} {xs : List Value} (h : w.ownsRow B e size v n xs) (hg : v.ownBlock = some g) : B ≤ g ∧ ∃ cur, w.heap[g]? = some (.cells cur e (0, 0)) := by
  refine ⟨(h.lt g hg).1, ?_⟩
  rcases h.2 with ⟨h0, _⟩ | ⟨g', cap, cur, hv, hb, hgb, _⟩
  · rw [h0] at hg; cases hg
  · rw [hv] at hg
    have : g' = g := by simpa [Value.ownBlock] using hg
    subst this
    exact ⟨cur, hgb⟩
theorem own_ne {w : World} {B n g b : Nat} {e t : TypeId} {size : Nat} {v : Value} {xs : List Value} {cs : Array Value} (h : w.ownsRow B e size v n xs) (hg : v.ownBlock = some g) (hb : w.heap[b]? = some (.cells cs t (0, 0))) (hne : e ≠ t) : g ≠ b := by
  rintro rfl
  obtain ⟨_, cur, hc⟩ := own_ty h hg
  rw [hb] at hc
  simp only [Option.some.injEq, Obj.cells.injEq] at hc
  exact hne hc.2.1.symm
theorem own_ne2 {w : World} {B n g B2 n2 : Nat} {e e2 : TypeId} {size size2 : Nat} {v v2 : Value} {xs xs2 : List Value} (h : w.ownsRow B e size v n xs) (hg : v.ownBlock = some g) (h2 : w.ownsRow B2 e2 size2 v2 n2 xs2) (hne : e ≠ e2) : v2.ownBlock ≠ some g := by
  intro h3
  obtain ⟨_, cur, hc⟩ := own_ty h2 h3
  exact own_ne h hg hc hne rfl
/-- One number of a row is written. -/
theorem set_row {w : World} {B g n cap : Nat} {xs : List Value} {e : TypeId} {j : Nat} {x : Value} (h : w.ownsRow B e 1 (.slice (some ⟨g, 0, none⟩) n cap) n xs) : (w.setCell ⟨g, j, none⟩ x).ownsRow B e 1 (.slice (some ⟨g, 0, none⟩) n cap) n (xs.set j x) := by
  obtain ⟨hl, h2⟩ := h
  refine ⟨by simpa using hl, ?_⟩
  rcases h2 with ⟨h0, _⟩ | ⟨g', cap', cur, hv, hb, hg, hnc, hcm, hcs, htk⟩
  · cases h0
  · injection hv with e1 e2 e3
    injection e1 with e1
    injection e1 with e1
    subst e1 e3
    refine .inr ⟨g, cap, cur.setIfInBounds j x, rfl, hb, ?_, hnc, hcm, by simpa using hcs, ?_⟩
    · simp [World.setCell, Array.getElem?_modify, hg]
    · rw [← htk, Array.toList_setIfInBounds, List.take_set]
theorem map_key {w w' : World} {k : TypeId} {R : Value → Option (DataW Unit × List MemPlace)} {b n : Nat} {D : DataW Unit} (h : w.ownsMap Try.prog k R b n D) (key : ∀ o, w.heap[b]? = some o → w'.heap[b]? = some o) : w'.ownsMap Try.prog k R b n D := by
  obtain ⟨es, clock, h1, h2⟩ := h
  exact ⟨es, clock, key _ h1, h2⟩

theorem own_neb {w : World} {B n b : Nat} {e t : TypeId} {size : Nat} {v : Value} {xs : List Value} {cs : Array Value} {fz : Nat × Nat} (h : w.ownsRow B e size v n xs) (hb : w.heap[b]? = some (.cells cs t fz)) (hne : e ≠ t) : v.ownBlock ≠ some b := by
  intro hv
  rcases h.2 with ⟨rfl, _⟩ | ⟨g, cap, cur, rfl, _, e3, _⟩
  · simp [Value.ownBlock] at hv
  · have : g = b := by simpa [Value.ownBlock] using hv
    subst this
    rw [hb] at e3
    simp only [Option.some.injEq, Obj.cells.injEq] at e3
    exact hne e3.2.1.symm
theorem own_ne_map {w : World} {B n b m : Nat} {e k : TypeId} {size : Nat} {v : Value} {xs : List Value} {R : Value → Option (DataW Unit × List MemPlace)} {D : DataW Unit} (h : w.ownsRow B e size v n xs) (hb : w.ownsMap Try.prog k R b m D) : v.ownBlock ≠ some b := by
  obtain ⟨es, clock, hb, _⟩ := hb
  intro hv
  rcases h.2 with ⟨rfl, _⟩ | ⟨g, cap, cur, rfl, _, e3, _⟩
  · simp [Value.ownBlock] at hv
  · have : g = b := by simpa [Value.ownBlock] using hv
    subst this
    rw [hb] at e3
    cases e3
theorem blk_ne_map {w : World} {b c m : Nat} {k t : TypeId} {cs : Array Value} {fz : Nat × Nat} {R : Value → Option (DataW Unit × List MemPlace)} {D : DataW Unit} (h : w.heap[c]? = some (.cells cs t fz)) (hb : w.ownsMap Try.prog k R b m D) : b ≠ c := by
  obtain ⟨es, clock, hb, _⟩ := hb
  intro hv
  subst hv
  rw [hb] at h
  cases h
theorem owns_setAt {w : World} {B n b i : Nat} {e t : TypeId} {size : Nat} {v u : Value} {xs : List Value} {cs : Array Value} {fz : Nat × Nat} (h : w.ownsRow B e size v n xs) (hb : w.heap[b]? = some (.cells cs t fz)) (hne : e ≠ t) : (w.setCell ⟨b, i, none⟩ u).ownsRow B e size v n xs := by
  have hv := own_neb h hb hne
  refine owns_key h (fun g _ hg ho => (Below.heap_setCell w ⟨b, i, none⟩ u g (fun e => hv ?_)).trans ho)
  rw [hg]
  exact congrArg some e
theorem blk_grown {w w' : World} {b : Nat} {o : Obj} {row : Option Nat} (h : w.heap[b]? = some o) (hg : w.grownBy w' row) (hne : row ≠ some b) : w'.heap[b]? = some o :=
  (hg.block b (lt_of_block h) (fun e => hne e.symm)).trans h
theorem owns_grown {w w' : World} {B n : Nat} {e : TypeId} {size : Nat} {v : Value} {xs : List Value} {row : Option Nat} (h : w.ownsRow B e size v n xs) (hg : w.grownBy w' row) (hne : ∀ g, row = some g → v.ownBlock ≠ some g) : w'.ownsRow B e size v n xs :=
  owns_key h (fun g _ hg2 ho => (hg.block g (lt_of_block ho) (fun e => hne g e.symm hg2)).trans ho)


end Go.Proofs.Ytnkgbinogblemaa
