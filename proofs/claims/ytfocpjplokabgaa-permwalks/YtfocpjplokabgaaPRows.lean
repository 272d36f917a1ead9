/- Rows that a call owns: slices.Clone, slices.SortFunc of rows. -/
import Derived.Test.YtfocpjplokabgaaPSort
import Derived.Lib.OwnBridge
import Derived.Lib.AppendIntMem
namespace Go.Proofs.Ytfocpjplokabgaa
open Go.RowKit Go.Sort Go.Lib Go.Shelf

/-- The block g holds the rows d, at its head; none is frozen. -/
def GRow (w : World) (g : Nat) (d : List R3) : Prop := g < w.heap.size ∧ ∀ (j : Nat) r, d[j]? = some r → ∀ c, c < 3 → w.cell? ⟨g, j * 3 + c, none⟩ = some (.int .i64 (r.at c)) ∧ w.frozen? ⟨g, j * 3 + c, none⟩ = false
theorem GRow.row {w : World} {g : Nat} {d : List R3} (h : GRow w g d) {j : Nat} {r : R3} (hr : d[j]? = some r) : RowAt w g (0 + j * 3) r := by
  rw [Nat.zero_add]
  exact ⟨(h.2 j r hr 0 (by omega)).1, (h.2 j r hr 1 (by omega)).1, (h.2 j r hr 2 (by omega)).1⟩
theorem GRow.key {w w' : World} {g : Nat} {d : List R3} (h : GRow w g d) (hs : w.heap.size ≤ w'.heap.size) (hk : w'.heap[g]? = w.heap[g]?) : GRow w' g d :=
  ⟨Nat.lt_of_lt_of_le h.1 hs, fun j r hr c hc => by
    obtain ⟨h1, h2⟩ := h.2 j r hr c hc
    exact ⟨by simpa only [World.cell?, hk] using h1, by simpa only [World.frozen?, hk] using h2⟩⟩
theorem GRow.below {w w' : World} {g : Nat} {d : List R3} (h : GRow w g d) (hb : Below w.heap.size w w') : GRow w' g d := h.key hb.size (hb.block g h.1)

theorem enc3_get (r : R3) {c : Nat} (hc : c < 3) : (enc3 r)[c]! = .int .i64 (r.at c) := by
  match c, hc with
  | 0, _ => rfl
  | 1, _ => rfl
  | 2, _ => rfl
theorem GRow.holds {w : World} {g : Nat} {d : List R3} (h : GRow w g d) : HoldsK enc3 3 w g 0 d.toArray := fun t ht => by
  rw [size_flatK] at ht
  have hsz : d.toArray.size = d.length := by simp
  rw [hsz] at ht
  have hj : t / 3 < d.length := by omega
  rw [get_flatK _ _ _ _ (by rw [hsz]; exact ht)]
  have e1 : d.toArray[t / 3]! = d[t / 3] := by
    rw [getElem!_pos _ _ (by rw [hsz]; exact hj)]
    simp
  have := h.2 (t / 3) d[t / 3] (List.getElem?_eq_getElem hj) (t % 3) (by omega)
  rw [show t / 3 * 3 + t % 3 = t by omega] at this
  rw [e1, enc3_get _ (by omega), Nat.zero_add]
  exact this
theorem GRow.of_holds {w : World} {g : Nat} {d : Array R3} (hl : g < w.heap.size) (h : HoldsK enc3 3 w g 0 d) : GRow w g d.toList := by
  refine ⟨hl, fun j r hr c hc => ?_⟩
  have hj : j < d.size := by have := (List.getElem?_eq_some_iff.1 hr).1; simpa using this
  have := h (j * 3 + c) (by rw [size_flatK]; omega)
  rw [get_flatK _ _ _ _ (by omega), Nat.zero_add] at this
  have e1 : d[(j * 3 + c) / 3]! = r := by
    rw [show (j * 3 + c) / 3 = j by omega, getElem!_pos d j hj]
    have := (List.getElem?_eq_some_iff.1 hr).2
    simpa using this
  rw [e1, show (j * 3 + c) % 3 = c by omega, enc3_get _ hc] at this
  exact this

/-- A slice of rows that a call owns, in a block from B on. -/
def LRow (B : Nat) (w : World) (v : Value) (d : List R3) : Prop :=
  (v = .slice none 0 0 ∧ d = []) ∨ ∃ g cap, v = .slice (some ⟨g, 0, none⟩) d.length cap ∧ d.length ≤ cap ∧ B ≤ g ∧ GRow w g d
theorem LRow.below {B : Nat} {w w' : World} {v : Value} {d : List R3} (h : LRow B w v d) (hb : Below w.heap.size w w') : LRow B w' v d := by
  rcases h with h | ⟨g, cap, h1, h2, h3, h4⟩
  · exact .inl h
  · exact .inr ⟨g, cap, h1, h2, h3, h4.below hb⟩
theorem LRow.rows {B : Nat} {S : Nat → Prop} {w : World} {v : Value} {d : List R3} (h : LRow B w v d) (hl : d.length * 24 ≤ 140737488355328) (hw : ∀ r ∈ d, r.wf) (hS : ∀ k, B ≤ k → k < w.heap.size → S k) : RowsS S w v d := by
  refine ⟨hl, hw, ?_⟩
  rcases h with ⟨rfl, rfl⟩ | ⟨g, cap, h1, h2, h3, h4⟩
  · exact ⟨none, 0, rfl, .inl rfl⟩
  · exact ⟨_, cap, h1, .inr ⟨g, 0, rfl, hS g h3 h4.1, h4.1, fun j r hr => h4.row hr⟩⟩

def rowCs (d : List R3) : List Value := d.flatMap enc3
theorem rowCs_len (d : List R3) : (rowCs d).length = d.length * 3 := by
  induction d with
  | nil => rfl
  | cons x l ih =>
    have : rowCs (x :: l) = enc3 x ++ rowCs l := rfl
    rw [this, List.length_append, ih]
    simp [enc3]
    omega
theorem rowCs_at : ∀ (d : List R3) (j c : Nat) (r : R3), d[j]? = some r → c < 3 → (rowCs d)[j * 3 + c]? = some (.int .i64 (r.at c))
  | [], j, c, r => fun h => by simp at h
  | x :: l, 0, c, r => fun h hc => by
    have e : rowCs (x :: l) = enc3 x ++ rowCs l := rfl
    simp at h
    subst h
    rw [e, Nat.zero_mul, Nat.zero_add, List.getElem?_append_left (by simp [enc3]; omega)]
    match c, hc with
    | 0, _ => rfl
    | 1, _ => rfl
    | 2, _ => rfl
  | x :: l, j + 1, c, r => fun h hc => by
    have e : rowCs (x :: l) = enc3 x ++ rowCs l := rfl
    rw [e, List.getElem?_append_right (by simp [enc3]; omega), show (j + 1) * 3 + c - (enc3 x).length = j * 3 + c by simp [enc3]; omega]
    exact rowCs_at l j c r (by simpa using h) hc
theorem rowCs_one (d : List R3) : ∀ u ∈ rowCs d, u.oneCell' = true := by
  intro u hu
  obtain ⟨r, _, hr⟩ := List.mem_flatMap.1 hu
  simp [enc3] at hr
  rcases hr with rfl | rfl | rfl <;> rfl

theorem sizeR (w : World) : (Go.sizeOf 23).run Try.prog w = .ok 3 w := by kernel_rfl
theorem aggR (w : World) : (isAgg 23).run Try.prog w = .ok true w := by kernel_rfl
theorem infoR : (Try.prog.info? 23).map (fun i => (i.zero, i.size, i.bytes)) = some (some (agg3 ⟨0, 0, 0⟩), 3, 24) := by kernel_rfl
theorem grow_of_own {w : World} {B n g cap : Nat} {d : List R3} (h : w.ownsRow B 23 3 (.slice (some ⟨g, 0, none⟩) n cap) n (rowCs d)) (hn : n = d.length) : GRow w g d := by
  refine ⟨(h.lt g rfl).2, fun j r hr c hc => ⟨?_, h.frozenAt _⟩⟩
  have hj := (List.getElem?_eq_some_iff.1 hr).1
  rw [h.cellAt (j * 3 + c) (by omega)]
  exact rowCs_at d j c r hr hc

set_option maxHeartbeats 2000000 in
set_option maxRecDepth 100000 in
theorem clone_zero (a : Addr) (c : Nat) (w : World) :
    Calls Try.prog 29 #[.slice (some a) 0 c] w fun e w' => ∃ v', e = .returned v' ∧ w'.ownsRow w.heap.size 23 3 v' 0 [] ∧ v' ≠ .slice none 0 0 ∧ Below w.heap.size w w' := by
  obtain ⟨i0, hi, hz0, hz1, hz2⟩ := info_parts infoR
  have q22 : ∀ (w : World) (a : Option Addr) (n c n' c' : Nat), (binOp .eql 22 (.slice a n c) (.slice none n' c')).run Try.prog w = .ok (.bool a.isNone) w := fun w a n c n' c' => Lib.run_eql_slice_nil w _ _ a n c n' c' Try.underlying22
  go_enter Try.func29, Try.ntmps29
  go_wp2_with (at_builtin; refine wpList_append_own _ rfl _ _ 22 rfl w.heap.size 23 i0 (agg3 ⟨0, 0, 0⟩) 3 24 Try.underlying22 hi hz0 hz1 hz2 rfl (by decide) _ _ _ rfl (World.ownsRow_made w #[] 0 (Nat.le_refl _) (Nat.zero_le _) rfl) a 0 c [] rfl rfl (by intro j u hj; simp at hj) (by intro u hu; cases hu) (by unfold maxLen; omega) (by omega) (by simp) ?_)
  intro v' w1 hown hgrow hnil
  go_wp2
  go_ret
  refine ⟨v', rfl, by simpa using hown, ?_, ?_⟩
  · exact hnil
  · exact ((Below.refl _ w).alloc (Nat.le_refl _) _).grown hgrow (by simp) (by intro k hk; simp [Value.ownBlock] at hk; omega)
set_option maxRecDepth 100000 in
theorem clone_any {S : Nat → Prop} {w : World} {v : Value} {d : List R3} (h : RowsS S w v d) :
    Calls Try.prog 29 #[v] w fun e w' => ∃ v', e = .returned v' ∧ LRow w.heap.size w' v' d ∧ Below w.heap.size w w' := by
  obtain ⟨hl, hw, ao, cap, rfl, hc⟩ := h
  cases ao with
  | none =>
    refine (Try.slices_Clone_nil _ _ w).mono ?_
    rintro e w' ⟨rfl, rfl⟩
    rcases hc with rfl | ⟨g, off, h, _⟩
    · exact ⟨_, rfl, .inl ⟨rfl, rfl⟩, Below.refl _ _⟩
    · cases h
  | some ad =>
    obtain ⟨i0, hi0, hz0, hz1, hz2⟩ := info_parts infoR
    rcases hc with rfl | ⟨g, off, h, _, hg, hc⟩
    · refine (clone_zero ad cap w).mono ?_
      rintro e w' ⟨v', rfl, hown, hnil, hb⟩
      refine ⟨v', rfl, ?_, hb⟩
      have hown2 := hown
      rcases hown.2 with ⟨rfl, h0⟩ | ⟨g2, cap2, cur, rfl, h2⟩
      · exact absurd rfl hnil
      · exact .inr ⟨g2, cap2, rfl, h2.2.2.1, (hown.lt g2 rfl).1, grow_of_own hown2 rfl⟩
    · cases h
      refine (Try.slices_Clone i0 _ 3 24 hi0 hz0 hz1 hz2 rfl (by decide) sizeR g off d.length cap (rowCs d) w (rowCs_len d) (by unfold maxLen; omega) (by omega) (fun j u hu => ?_) (rowCs_one d)).mono ?_
      · have hj : j < d.length * 3 := by have := (List.getElem?_eq_some_iff.1 hu).1; rw [rowCs_len] at this; exact this
        have hd : d[j / 3]? = some (d[j / 3]'(by omega)) := List.getElem?_eq_getElem (by omega)
        have := rowCs_at d (j / 3) (j % 3) _ hd (by omega)
        rw [show j / 3 * 3 + j % 3 = j by omega, hu] at this
        have h2 := (hc (j / 3) _ hd).at (k := j % 3) (by omega)
        rw [show off + j / 3 * 3 + j % 3 = off + j by omega] at h2
        rw [h2]
        exact this.symm
      · rintro e w' ⟨v', rfl, hown, hnil, hb⟩
        refine ⟨v', rfl, ?_, hb⟩
        have hown2 := hown
        rcases hown.2 with ⟨rfl, h0⟩ | ⟨g2, cap2, cur, rfl, h2⟩
        · exact absurd rfl hnil
        · exact .inr ⟨g2, cap2, rfl, h2.2.2.1, (hown.lt g2 rfl).1, grow_of_own hown2 rfl⟩

theorem below_sorted {B : Nat} {w0 w : World} {g q : Nat} {d : Array R3} {os : Array Obj} (h : Below B w0 w) (hg : B ≤ g) (hB : B ≤ w.heap.size) : Below B w0 (sortWorldK enc3 3 w g 0 q d os) := by
  have h1 := below_putRow (enc := (id : Value → Value)) (q := q) (d := flatK enc3 3 d) h hg
  have h2 := below_grow B (putRow (id : Value → Value) (Sort.ahead w q) g 0 (flatK enc3 3 d)) (by simpa [putRow, mapBlock, Sort.ahead] using hB) 0 os
  exact h1.trans h2

theorem ltR (o : Od) (x y : R3) : ltOf (cf o) x y = true ↔ lt o x y := by
  unfold ltOf cf lt
  rw [decide_eq_true_eq]
  exact cmpL_neg _ _
theorem ltR_f (o : Od) (x y : R3) : ltOf (cf o) x y = false ↔ ¬ lt o x y := by
  rw [← ltR]; simp
theorem swoR {o : Od} (ho : o.ok) : SWO (ltOf (cf o)) where
  irrefl x := by rw [ltR_f]; exact lt_irrefl o x
  trans x y z h1 h2 := by rw [ltR] at *; exact lt_trans h1 h2
  ntrans x y z h1 h2 := by
    rw [ltR_f] at *
    intro h
    rcases lt_cases ho x y with h3 | h3 | h3
    · exact h1 h3
    · subst h3; exact h2 h
    · exact h2 (lt_trans h3 h)
theorem totR {o : Od} (ho : o.ok) (x y : R3) (h1 : ltOf (cf o) x y = false) (h2 : ltOf (cf o) y x = false) : x = y := by
  rw [ltR_f] at h1 h2
  rcases lt_cases ho x y with h | h | h
  · exact absurd h h1
  · exact h
  · exact absurd h h2
/-- Rows that do not fall. -/
def Rises (o : Od) (l : List R3) : Prop := l.Pairwise (fun x y => ¬ lt o y x)
def sortR (o : Od) (d : List R3) : List R3 := d.mergeSort fun x y => !(ltOf (cf o)) y x
theorem sortR_rises {o : Od} (ho : o.ok) (d : List R3) : Rises o (sortR o d) := by
  have : (sortR o d).Pairwise (fun x y => (!(ltOf (cf o)) y x) = true) := by
    unfold sortR
    apply List.pairwise_mergeSort
    · intro a b c h1 h2
      simp only [Bool.not_eq_true'] at *
      exact (swoR ho).ntrans _ _ _ h2 h1
    · intro a b
      cases h1 : ltOf (cf o) b a with
      | false => simp
      | true =>
        have : ltOf (cf o) a b = false := by
          rw [ltR_f]; rw [ltR] at h1; intro h; exact lt_irrefl o a (lt_trans h h1)
        rw [this]; rfl
  refine this.imp (fun {a b} h => ?_)
  rw [Bool.not_eq_true', ltR_f] at h
  exact h
theorem sortR_perm (o : Od) (d : List R3) : (sortR o d).Perm d := List.mergeSort_perm _ _

/-- The sort. -/
theorem sort_any {o : Od} (ho : o.ok) {B p : Nat} {w : World} {v : Value} {d : List R3} (hp : RowAt w p 0 o.r3) (hpB : p < B) (hB : B ≤ w.heap.size) (h : LRow B w v d) (hl : d.length * 24 ≤ 140737488355328) :
    Calls Try.prog 30 #[v, .func (.func 31) #[] #[.pointer (some ⟨p, 0, none⟩)]] w fun e w' => e = .returned (.tuple #[]) ∧ LRow B w' v (sortR o d) ∧ Below B w w' := by
  rcases h with ⟨rfl, rfl⟩ | ⟨g, cap, rfl, hcap, hBg, hG⟩
  · refine (Try.slices_SortFunc_none (α := Nat) _ _ _ _).mono ?_
    rintro e w' ⟨rfl, rfl⟩
    exact ⟨rfl, .inl ⟨rfl, by simp [sortR]⟩, Below.refl _ _⟩
  · have hcmp : CmpLays Try.prog 31 #[.pointer (some ⟨p, 0, none⟩)] enc3 3 (cf o) g 0 d.toArray.size w := fun m os dk _ x y => by
      have hb := below_sorted (q := m) (d := dk) (os := os) (Below.refl B w) hBg hB
      exact cmp_any ho x y p _ (hp.key (hb.block p hpB))
    have eg : ∀ args w, (callFunc 31 args).run Try.prog w = .ok (.enter 31 args) w := enters_of Try.func31 (by kernel_rfl) rfl
    have hsz : d.toArray.size = d.length := by simp
    have hS := Try.slices_SortFunc_total 3 aggR sizeR enc3 (fun _ => rfl) (fun r u hu => by simp [enc3] at hu; rcases hu with rfl | rfl | rfl <;> rfl) (cf o) (swoR ho) 31 #[.pointer (some ⟨p, 0, none⟩)] g 0 cap d.toArray w eg hcmp hG.holds hG.1 (by rw [hsz]; omega) (totR ho)
    rw [hsz] at hS
    refine hS.mono ?_
    rintro e w' ⟨rfl, q, os, rfl⟩
    have hlen : (sortR o d).length = d.length := (sortR_perm o d).length_eq
    change _ ∧ LRow B (sortWorldK enc3 3 w g 0 q (sortR o d).toArray os) _ _ ∧ _
    refine ⟨rfl, .inr ⟨g, cap, by rw [hlen], by omega, hBg, ?_⟩, below_sorted (Below.refl B w) hBg hB⟩
    have hsw : SWK enc3 3 w g 0 (sortR o d).toArray (sortWorldK enc3 3 w g 0 q (sortR o d).toArray os) := ⟨q, os, rfl⟩
    have hh := hsw.holds hG.1 hG.holds (by simp [hlen])
    have := GRow.of_holds (lt_sortWorldK enc3 3 w g 0 q (sortR o d).toArray os hG.1) hh
    simpa using this
end Go.Proofs.Ytfocpjplokabgaa
