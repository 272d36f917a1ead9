/- Frames; maps of facts: has, turn, fits of the program. -/
import Derived.Test.YtiabnjjdeikefaaSTri
import Derived.Deep.AppendLies
namespace Go.Proofs.Ytiabnjjdeikefaa
open Go.RowKit

/-- The blocks of S are kept. -/
structure Fr (S : Nat → Prop) (w w' : World) : Prop where
  os : w'.os = w.os
  tape : w'.tape = w.tape
  output : w'.output = w.output
  size : w.heap.size ≤ w'.heap.size
  block : ∀ k, S k → w'.heap[k]? = w.heap[k]?
theorem Fr.refl (S : Nat → Prop) (w : World) : Fr S w w := ⟨rfl, rfl, rfl, Nat.le_refl _, fun _ _ => rfl⟩
theorem Fr.trans {S : Nat → Prop} {a b c : World} (h : Fr S a b) (k : Fr S b c) : Fr S a c :=
  ⟨k.os.trans h.os, k.tape.trans h.tape, k.output.trans h.output, Nat.le_trans h.size k.size, fun i hi => (k.block i hi).trans (h.block i hi)⟩
theorem Fr.sub {S T : Nat → Prop} {w w' : World} (h : Fr S w w') (hs : ∀ k, T k → S k) : Fr T w w' := ⟨h.os, h.tape, h.output, h.size, fun k hk => h.block k (hs k hk)⟩
theorem Fr.below {S : Nat → Prop} {w w' : World} {B : Nat} (h : Fr S w w') (hs : ∀ k, k < B → S k) : Below B w w' := ⟨h.os, h.tape, h.output, h.size, fun k hk => h.block k (hs k hk)⟩
/-- S names blocks of the world alone. -/
def Low (S : Nat → Prop) (w : World) : Prop := ∀ k, S k → k < w.heap.size
theorem Low.fr {S T : Nat → Prop} {w w' : World} (h : Low S w) (hf : Fr T w w') : Low S w' := fun k hk => Nat.lt_of_lt_of_le (h k hk) hf.size
theorem Low.below {S : Nat → Prop} {w w' : World} {B : Nat} (h : Low S w) (hf : Below B w w') : Low S w' := fun k hk => Nat.lt_of_lt_of_le (h k hk) hf.size
theorem Low.size {S : Nat → Prop} {w w' : World} (h : Low S w) (hf : w.heap.size ≤ w'.heap.size) : Low S w' := fun k hk => Nat.lt_of_lt_of_le (h k hk) hf
theorem fr_below {S : Nat → Prop} {w w' : World} (hS : Low S w) (h : Below w.heap.size w w') : Fr S w w' := ⟨h.os, h.tape, h.output, h.size, fun k hk => h.block k (hS k hk)⟩
theorem Fr.next {S : Nat → Prop} {w w1 w2 : World} (h : Fr S w w1) (hS : Low S w) (hb : Below w1.heap.size w1 w2) : Fr S w w2 := h.trans (fr_below (hS.fr h) hb)
theorem Fr.setCell {S : Nat → Prop} {w w' : World} {b i : Nat} (h : Fr S w w') (hb : ¬ S b) (v : Value) : Fr S w (w'.setCell ⟨b, i, none⟩ v) :=
  ⟨h.os, h.tape, h.output, by simpa using h.size, fun k hk => (Below.heap_setCell w' ⟨b, i, none⟩ v k (fun e => hb (by rw [← show k = b from e]; exact hk))).trans (h.block k hk)⟩
theorem Fr.grown {S : Nat → Prop} {w w1 w2 : World} {row : Option Nat} (h : Fr S w w1) (hS : Low S w) (hg : w1.grownBy w2 row) (hr : ∀ g, row = some g → ¬ S g) : Fr S w w2 :=
  ⟨hg.os.trans h.os, hg.tape.trans h.tape, hg.output.trans h.output, Nat.le_trans h.size hg.size, fun k hk => (hg.block k (Nat.lt_of_lt_of_le (hS k hk) h.size) (fun e => hr k e.symm hk)).trans (h.block k hk)⟩

/-- What was made since may be kept too. -/
def Plus (S : Nat → Prop) (lo hi : Nat) : Nat → Prop := fun k => S k ∨ (lo ≤ k ∧ k < hi)
theorem Low.plus {S : Nat → Prop} {w w' : World} (h : Low S w) (hs : w.heap.size ≤ w'.heap.size) : Low (Plus S w.heap.size w'.heap.size) w' := fun k hk => by
  rcases hk with hk | hk
  · have := h k hk; omega
  · exact hk.2
theorem below_grown {w w' : World} (hb : Below w.heap.size w w') : w.grownBy w' none := ⟨hb.os, hb.tape, hb.output, hb.size, fun k hk _ => hb.block k hk⟩
theorem box_at (w : World) (o : Obj) : (w.alloc o).heap[w.heap.size]? = some o := heap_alloc_new w o
theorem own_slice {w : World} {B n : Nat} {e : TypeId} {size : Nat} {v : Value} {xs : List Value} (h : w.ownsRow B e size v n xs) : ∃ ao cap, v = .slice ao n cap := by
  rcases h.2 with ⟨rfl, rfl⟩ | ⟨g, cap, cur, rfl, _⟩
  · exact ⟨none, 0, rfl⟩
  · exact ⟨_, cap, rfl⟩
theorem own_lt {w : World} {B n g : Nat} {e : TypeId} {size : Nat} {v : Value} {xs : List Value} (h : w.ownsRow B e size v n xs) (hg : v.ownBlock = some g) : g < w.heap.size := (h.lt g hg).2
theorem owns_key {w w' : World} {B n : Nat} {e : TypeId} {size : Nat} {v : Value} {xs : List Value} (h : w.ownsRow B e size v n xs) (key : ∀ g o, v.ownBlock = some g → w.heap[g]? = some o → w'.heap[g]? = some o) : w'.ownsRow B e size v n xs := by
  refine ⟨h.1, ?_⟩
  rcases h.2 with h0 | ⟨g, cap, cur, e1, e2, e3, e4⟩
  · exact .inl h0
  · exact .inr ⟨g, cap, cur, e1, e2, key g _ (by rw [e1]; rfl) e3, e4⟩
theorem owns_below {w w' : World} {B n : Nat} {e : TypeId} {size : Nat} {v : Value} {xs : List Value} (h : w.ownsRow B e size v n xs) (hb : Below w.heap.size w w') : w'.ownsRow B e size v n xs :=
  owns_key h (fun g _ _ ho => (hb.block g (lt_of_block ho)).trans ho)
theorem map_key {w w' : World} {k : TypeId} {R : Value → Option (DataW Unit × List MemPlace)} {b n : Nat} {D : DataW Unit} (h : w.ownsMap Try.prog k R b n D) (key : ∀ o, w.heap[b]? = some o → w'.heap[b]? = some o) : w'.ownsMap Try.prog k R b n D := by
  obtain ⟨es, clock, h1, h2⟩ := h
  exact ⟨es, clock, key _ h1, h2⟩

theorem own_ne {w : World} {B n b : Nat} {e t : TypeId} {size : Nat} {v : Value} {xs : List Value} {cs : Array Value} {fz : Nat × Nat} (h : w.ownsRow B e size v n xs) (hb : w.heap[b]? = some (.cells cs t fz)) (hne : e ≠ t) : v.ownBlock ≠ some b := by
  intro hv
  rcases h.2 with ⟨rfl, _⟩ | ⟨g, cap, cur, rfl, _, e3, _⟩
  · simp [Value.ownBlock] at hv
  · have : g = b := by simpa [Value.ownBlock] using hv
    subst this
    rw [hb] at e3
    simp only [Option.some.injEq, Obj.cells.injEq] at e3
    exact hne e3.2.1.symm
theorem own_ne_map {w : World} {B n b m : Nat} {e k : TypeId} {size : Nat} {v : Value} {xs : List Value} {R : Value → Option (DataW Unit × List MemPlace)} {D : DataW Unit} (h : w.ownsRow B e size v n xs) (hb : w.ownsMap Try.prog k R b m D) : v.ownBlock ≠ some b := by
  obtain ⟨es, clock, hb, _⟩ := hb
  intro hv
  rcases h.2 with ⟨rfl, _⟩ | ⟨g, cap, cur, rfl, _, e3, _⟩
  · simp [Value.ownBlock] at hv
  · have : g = b := by simpa [Value.ownBlock] using hv
    subst this
    rw [hb] at e3
    cases e3
theorem blk_ne_map {w : World} {b c m : Nat} {k t : TypeId} {cs : Array Value} {fz : Nat × Nat} {R : Value → Option (DataW Unit × List MemPlace)} {D : DataW Unit} (h : w.heap[c]? = some (.cells cs t fz)) (hb : w.ownsMap Try.prog k R b m D) : b ≠ c := by
  obtain ⟨es, clock, hb, _⟩ := hb
  intro hv
  subst hv
  rw [hb] at h
  cases h
theorem owns_setAt {w : World} {B n b i : Nat} {e t : TypeId} {size : Nat} {v u : Value} {xs : List Value} {cs : Array Value} {fz : Nat × Nat} (h : w.ownsRow B e size v n xs) (hb : w.heap[b]? = some (.cells cs t fz)) (hne : e ≠ t) : (w.setCell ⟨b, i, none⟩ u).ownsRow B e size v n xs := by
  have hv := own_ne h hb hne
  refine owns_key h (fun g _ hg ho => (Below.heap_setCell w ⟨b, i, none⟩ u g (fun e => hv ?_)).trans ho)
  rw [hg]
  exact congrArg some e
theorem blk_grown {w w' : World} {b : Nat} {o : Obj} {row : Option Nat} (h : w.heap[b]? = some o) (hg : w.grownBy w' row) (hne : row ≠ some b) : w'.heap[b]? = some o :=
  (hg.block b (lt_of_block h) (fun e => hne e.symm)).trans h
theorem owns_grown {w w' : World} {B n : Nat} {e : TypeId} {size : Nat} {v : Value} {xs : List Value} {row : Option Nat} (h : w.ownsRow B e size v n xs) (hg : w.grownBy w' row) (hne : ∀ g, row = some g → v.ownBlock ≠ some g) : w'.ownsRow B e size v n xs :=
  owns_key h (fun g _ hg2 ho => (hg.block g (lt_of_block ho) (fun e => hne g e.symm hg2)).trans ho)


theorem zeroU (w : World) : (zeroValue 79).run Try.prog w = .ok (.agg #[]) w := by kernel_rfl
theorem own_tight {w : World} {k : TypeId} {R : Value → Option (DataW Unit × List MemPlace)} {b n : Nat} {D : DataW Unit} (h : w.ownsMap Try.prog k R b n D) : w.ownsMap Try.prog k R b (Maps.size D) D := by
  obtain ⟨es, clock, h1, h2, h3, h4⟩ := h
  exact ⟨es, clock, h1, h2, by rw [h4, Maps.size_eq, length_read]; exact Nat.le_refl _, h4⟩

/-- The block b is a map whose keys are the facts l. -/
def MSet (w : World) (b : Nat) (l : List Tri) : Prop :=
  ∃ D : DataW Unit, w.ownsMap Try.prog 25 (unitElem (H := Unit)) b l.length D ∧ (∀ t, FineT t → Maps.has D (kT t) = decide (t ∈ l)) ∧ l.Nodup ∧ (∀ t ∈ l, isTW t = true) ∧ Maps.size D = l.length
theorem MSet.nodup {w : World} {b : Nat} {l : List Tri} (h : MSet w b l) : l.Nodup := by obtain ⟨D, _, _, h, _⟩ := h; exact h
theorem MSet.word {w : World} {b : Nat} {l : List Tri} (h : MSet w b l) : ∀ t ∈ l, isTW t = true := by obtain ⟨D, _, _, _, h, _⟩ := h; exact h
theorem MSet.lt {w : World} {b : Nat} {l : List Tri} (h : MSet w b l) : b < w.heap.size := by obtain ⟨D, h, _⟩ := h; exact h.lt
theorem MSet.key {w w' : World} {b : Nat} {l : List Tri} (h : MSet w b l) (key : ∀ o, w.heap[b]? = some o → w'.heap[b]? = some o) : MSet w' b l := by
  obtain ⟨D, h, r⟩ := h
  exact ⟨D, map_key h key, r⟩
theorem MSet.below {w w' : World} {b : Nat} {l : List Tri} (h : MSet w b l) (hb : Below w.heap.size w w') : MSet w' b l :=
  h.key (fun _ ho => (hb.block b (lt_of_block ho)).trans ho)
theorem MSet.perm {w : World} {b : Nat} {l l' : List Tri} (h : MSet w b l) (hn : l'.Nodup) (he : ∀ t, t ∈ l' ↔ t ∈ l) : MSet w b l' := by
  obtain ⟨D, h1, h2, h3, h4, h5⟩ := h
  have hlen : l'.length = l.length := len_same hn h3 he
  refine ⟨D, by rw [hlen]; exact h1, fun t ht => ?_, hn, fun t ht => h4 t ((he t).1 ht), by rw [hlen]; exact h5⟩
  rw [h2 t ht]
  exact decide_eq_decide.2 (he t).symm
theorem mset_made (w : World) : MSet (w.alloc (.map #[] 0)) w.heap.size [] :=
  ⟨.map [], World.ownsMap_made w Try.prog 25 unitElem, fun t _ => by simp [Maps.has], List.nodup_nil, by simp, rfl⟩
/-- A fact is put that is not there. -/
theorem mset_put {w' : World} {b n : Nat} {l : List Tri} {D : DataW Unit} {t : Tri} (hm : Maps.Tidy D) (h2 : ∀ t, FineT t → Maps.has D (kT t) = decide (t ∈ l)) (h3 : l.Nodup) (h4 : ∀ t ∈ l, isTW t = true) (h5 : Maps.size D = l.length)
    (ht : isTW t = true) (hn : t ∉ l) (hown : w'.ownsMap Try.prog 25 (unitElem (H := Unit)) b n (D.put (kT t) (.agg []))) : MSet w' b (t :: l) := by
  have hf := h2 t (fine_word ht)
  have hs : Maps.size (D.put (kT t) (.agg [])) = (t :: l).length := by
    rw [Maps.size_put hm, hf, decide_eq_false hn, h5]; rfl
  refine ⟨_, by rw [← hs]; exact own_tight hown, fun x hx => ?_, List.nodup_cons.2 ⟨hn, h3⟩, ?_, hs⟩
  · by_cases e : x = t
    · subst e
      rw [Maps.has_put_same hm.isMap (kT_key x)]; simp
    · rw [Maps.has_put_other (fun h => e (kT_inj hx (fine_word ht) h)), h2 x hx]
      simp [e]
  · intro x hx
    rcases List.mem_cons.1 hx with rfl | hx
    · exact ht
    · exact h4 x hx
/-- .. or one that is. -/
theorem mset_put_same {w' : World} {b n : Nat} {l : List Tri} {D : DataW Unit} {t : Tri} (hm : Maps.Tidy D) (h2 : ∀ t, FineT t → Maps.has D (kT t) = decide (t ∈ l)) (h3 : l.Nodup) (h4 : ∀ t ∈ l, isTW t = true) (h5 : Maps.size D = l.length)
    (ht : isTW t = true) (hn : t ∈ l) (hown : w'.ownsMap Try.prog 25 (unitElem (H := Unit)) b n (D.put (kT t) (.agg []))) : MSet w' b l := by
  have hf := h2 t (fine_word ht)
  have hs : Maps.size (D.put (kT t) (.agg [])) = l.length := by
    rw [Maps.size_put hm, hf, decide_eq_true hn, h5]; rfl
  refine ⟨_, by rw [← hs]; exact own_tight hown, fun x hx => ?_, h3, h4, hs⟩
  by_cases e : x = t
  · subst e
    rw [Maps.has_put_same hm.isMap (kT_key x)]; simp [hn]
  · rw [Maps.has_put_other (fun h => e (kT_inj hx (fine_word ht) h)), h2 x hx]
theorem nodup_drop {l : List Tri} (h : l.Nodup) (t : Tri) : (dropT l t).Nodup := h.filter _
theorem len_drop {l : List Tri} (h : l.Nodup) (t : Tri) : (dropT l t).length + (if t ∈ l then 1 else 0) = l.length := by
  induction l with
  | nil => simp [dropT]
  | cons a l ih =>
    obtain ⟨h1, h2⟩ := List.nodup_cons.1 h
    have ih := ih h2
    by_cases e : a = t
    · subst e
      rw [if_neg h1] at ih
      simp [dropT] at ih ⊢
      exact ih
    · have e2 : (t ∈ a :: l) ↔ t ∈ l := by simp [Ne.symm e]
      have e3 : (dropT (a :: l) t).length = (dropT l t).length + 1 := by simp [dropT, e]
      rw [e3]
      by_cases hm : t ∈ l
      · rw [if_pos hm] at ih; rw [if_pos (e2.2 hm)]; simp; omega
      · rw [if_neg hm] at ih; rw [if_neg (fun h => hm (e2.1 h))]; simp; omega
/-- A fact goes. -/
theorem mset_del {w' : World} {b n : Nat} {l : List Tri} {D : DataW Unit} {t : Tri} (hm : Maps.Tidy D) (h2 : ∀ t, FineT t → Maps.has D (kT t) = decide (t ∈ l)) (h3 : l.Nodup) (h4 : ∀ t ∈ l, isTW t = true) (h5 : Maps.size D = l.length)
    (ht : isTW t = true) (hown : w'.ownsMap Try.prog 25 (unitElem (H := Unit)) b n (D.del (kT t))) : MSet w' b (dropT l t) := by
  have hf := h2 t (fine_word ht)
  have hs : Maps.size (D.del (kT t)) = (dropT l t).length := by
    have e1 := Maps.size_del (k := kT t) hm
    have e2 := len_drop h3 t
    rw [hf, h5] at e1
    by_cases q : t ∈ l
    · simp [q] at e1 e2; omega
    · simp [q] at e1 e2; omega
  refine ⟨_, by rw [← hs]; exact own_tight hown, fun x hx => ?_, nodup_drop h3 t, fun x hx => h4 x (mem_dropT.1 hx).2, hs⟩
  by_cases e : x = t
  · subst e
    rw [Maps.has_del_same]; simp [mem_dropT]
  · rw [Maps.has_del_other (fun h => e (kT_inj hx (fine_word ht) h)), h2 x hx]
    exact decide_eq_decide.2 (by simp [mem_dropT, e])

set_option maxRecDepth 100000 in
set_option maxHeartbeats 1000000 in
theorem has_any {w : World} {b : Nat} {l : List Tri} (h : MSet w b l) {t : Tri} (ht : FineT t) :
    Calls Try.prog 43 #[.map (some b), encT t] w fun e w' => e = .returned (.bool (decide (t ∈ l))) ∧ Below w.heap.size w w' := by
  obtain ⟨D, h1, h2, _⟩ := h
  have H1 := Hid.mk h1
  have H2 := Hid.mk (h2 t ht)
  have HK := Hid.mk (keyT ht)
  clear h1 h2
  go_enter Try.func43, Try.ntmps43
  go_wp2_with (at_lookup; refine wpList_lookup_own_unit _ rfl _ _ 59 rfl 25 79 lawT Try.underlying59 (zeroU _) b _ D rfl (H1.out.alloc _) _ _ rfl HK.out ?_; rw [H2.out])
  go_ret
  exact ⟨rfl, ((Below.refl _ w).alloc (Nat.le_refl _) _).alloc (by simp) _⟩

/-- A block that holds a fact. -/
theorem box3 {w : World} {t : Tri} {b : Nat} {y : TypeId} (h : w.heap[b]? = some (.cells #[strV t.1, strV t.2.1, strV t.2.2] y (0, 0))) :
    (w.cell? ⟨b, 0, none⟩ = some (strV t.1) ∧ w.cell? ⟨b, 1, none⟩ = some (strV t.2.1) ∧ w.cell? ⟨b, 2, none⟩ = some (strV t.2.2)) ∧
    (w.frozen? ⟨b, 0, none⟩ = false ∧ w.frozen? ⟨b, 1, none⟩ = false ∧ w.frozen? ⟨b, 2, none⟩ = false) := by
  simp [World.cell?, World.frozen?, h]
/-- A fact goes that is there, and comes if it is not. -/
def turnL (l : List Tri) (t : Tri) : List Tri := if t ∈ l then dropT l t else t :: l
theorem mem_turnL {l : List Tri} {t x : Tri} : x ∈ turnL l t ↔ (if x = t then x ∉ l else x ∈ l) := by
  unfold turnL
  by_cases h : t ∈ l
  · rw [if_pos h, mem_dropT]
    by_cases e : x = t
    · subst e; simp [h]
    · simp [e]
  · rw [if_neg h, List.mem_cons]
    by_cases e : x = t
    · subst e; simp [h]
    · simp [e]
theorem turnL_len (l : List Tri) (t : Tri) : (turnL l t).length ≤ l.length + 1 := by
  unfold turnL
  split
  · have := List.length_filter_le (fun x => decide (x ≠ t)) l
    simp only [dropT]; omega
  · simp
theorem mem_turnL_dec (l : List Tri) (t x : Tri) : decide (x ∈ turnL l t) = (decide (x ∈ l) ^^ decide (t = x)) := by
  by_cases e : x = t
  · subst e
    by_cases h : x ∈ l <;> simp [mem_turnL, h]
  · have e2 : ¬ t = x := fun h => e h.symm
    by_cases h : x ∈ l <;> simp [mem_turnL, h, e, e2]
theorem grown_below {w w' : World} (h : Below w.heap.size w w') (row : Option Nat) : w.grownBy w' row := ⟨h.os, h.tape, h.output, h.size, fun k hk _ => h.block k hk⟩

set_option maxRecDepth 100000 in
set_option maxHeartbeats 1000000 in
theorem turn_any {w : World} {b : Nat} {l : List Tri} (h : MSet w b l) {t : Tri} (ht : isTW t = true) (hl : l.length < 1000000000) :
    Calls Try.prog 35 #[.map (some b), encT t] w fun e w' => e = .returned (.tuple #[]) ∧ MSet w' b (turnL l t) ∧ w.grownBy w' (some b) := by
  obtain ⟨W0, hW0⟩ : ∃ W0, W0 = w.alloc (.cells #[strV t.1, strV t.2.1, strV t.2.2] 25) := ⟨_, rfl⟩
  have B0 : Below w.heap.size w W0 := by rw [hW0]; exact (Below.refl _ _).alloc (Nat.le_refl _) _
  have b0 : W0.heap[w.heap.size]? = some (.cells #[strV t.1, strV t.2.1, strV t.2.2] 25) := by rw [hW0]; exact box_at w _
  have h0 := h.below B0
  have C := Hid.mk (has_any h0 (fine_word ht))
  obtain ⟨⟨q0, q1, q2⟩, _⟩ := box3 b0
  rw [hW0] at q0 q1 q2
  have HW0 := Hid.mk hW0
  have HB0 := Hid.mk B0
  have Hb0 := Hid.mk b0
  have H0 := Hid.mk h0
  have HT := Hid.mk ht
  have HK := Hid.mk (keyT (fine_word ht))
  have hb0 : w.heap.size < W0.heap.size := lt_of_block b0
  clear hW0 B0 b0 h0 h ht
  by_cases hm : t ∈ l
  · rw [decide_eq_true hm] at C
    have HM := Hid.mk hm
    clear hm
    go_enter Try.func35, Try.ntmps35
    go_wp2_with fail
    rw [← HW0.out]
    clear q0 q1 q2
    refine C.out.mono ?_
    rintro e w1 ⟨rfl, hb1⟩
    have Hb1 := (hb1.block _ hb0).trans Hb0.out
    obtain ⟨⟨q0, q1, q2⟩, _⟩ := box3 Hb1
    have H1 := Hid.mk (H0.out.below hb1)
    have HB1 := Hid.mk (HB0.out.trans (hb1.mono HB0.out.size))
    clear hb1 Hb1 hb0
    obtain ⟨D, h1, h2, h3, h4, h5⟩ := H1.out
    have T1 := Hid.mk (h1.tidy lawT)
    have H1o := Hid.mk h1
    have H25 := Hid.mk (And.intro h2 (And.intro h3 (And.intro h4 h5)))
    clear h1 h2 h3 h4 h5
    go_wp2_with (at_delete; refine wpList_delete_own _ rfl _ _ 59 25 rfl 79 lawT Try.underlying59 _ b _ D rfl H1o.out _ _ rfl HK.out ?_; intro w2 hown2 hturn2)
    go_end0
    refine ⟨rfl, ?_, ?_⟩
    · unfold turnL
      rw [if_pos HM.out]
      exact mset_del T1.out H25.out.1 H25.out.2.1 H25.out.2.2.1 H25.out.2.2.2 HT.out hown2
    · exact (grown_below HB1.out _).trans hturn2.grown
  · rw [decide_eq_false hm] at C
    have HM := Hid.mk hm
    clear hm
    go_enter Try.func35, Try.ntmps35
    go_wp2_with fail
    rw [← HW0.out]
    clear q0 q1 q2
    refine C.out.mono ?_
    rintro e w1 ⟨rfl, hb1⟩
    have Hb1 := (hb1.block _ hb0).trans Hb0.out
    obtain ⟨⟨q0, q1, q2⟩, _⟩ := box3 Hb1
    have H1 := Hid.mk (H0.out.below hb1)
    have HB1 := Hid.mk (HB0.out.trans (hb1.mono HB0.out.size))
    clear hb1 Hb1 hb0
    obtain ⟨D, h1, h2, h3, h4, h5⟩ := H1.out
    have T1 := Hid.mk (h1.tidy lawT)
    have H1o := Hid.mk h1
    have H25 := Hid.mk (And.intro h2 (And.intro h3 (And.intro h4 h5)))
    clear h1 h2 h3 h4 h5
    go_wp2_with (at_mapUpdate; refine wpList_mapUpdate_own _ rfl _ _ _ 59 rfl 25 79 lawT Try.underlying59 _ b _ D rfl H1o.out ?m1 _ _ _ rfl rfl HK.out _ [] unitElem_mk ?_)
    case m1 => unfold maxLen; omega
    intro w2 hown2 hgrow2
    go_wp2
    go_end0
    refine ⟨rfl, ?_, ?_⟩
    · unfold turnL
      rw [if_neg HM.out]
      exact mset_put T1.out H25.out.1 H25.out.2.1 H25.out.2.2.1 H25.out.2.2.2 HT.out HM.out hown2
    · exact (grown_below HB1.out _).trans hgrow2

def fitsB (asked word : List UInt8) : Bool := decide (asked = []) || decide (asked = word)
set_option maxRecDepth 100000 in
theorem fits_any (a s : List UInt8) (w : World) : Calls Try.prog 47 #[strV a, strV s] w fun e w' => e = .returned (.bool (fitsB a s)) ∧ w' = w := by
  unfold fitsB
  by_cases h1 : a = []
  · subst h1
    go_enter Try.func47, Try.ntmps47
    go_wp2
    go_ret
    exact ⟨rfl, rfl⟩
  · have h2 : a.isEmpty = false := by cases a with
      | nil => exact absurd rfl h1
      | cons => rfl
    by_cases h3 : a = s
    · subst h3
      rw [decide_eq_false h1]
      go_enter Try.func47, Try.ntmps47
      go_wp2
      go_ret
      exact ⟨by simp, rfl⟩
    · have h4 : (a == s) = false := by simpa using h3
      rw [decide_eq_false h1, decide_eq_false h3]
      go_enter Try.func47, Try.ntmps47
      go_wp2
      go_ret
      exact ⟨by simp, rfl⟩
end Go.Proofs.Ytiabnjjdeikefaa
