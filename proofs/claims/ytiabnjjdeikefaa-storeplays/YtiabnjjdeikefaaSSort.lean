/- The facts of a map, sorted: the closure that compares, the sort, sorted of the program. -/
import Derived.Test.YtiabnjjdeikefaaSAppl2
import Derived.Lib.OwnBridge
import Derived.Lib.AppendIntMem
namespace Go.Proofs.Ytiabnjjdeikefaa
open Go.RowKit Go.Sort Go.Lib Go.Shelf

theorem cmp_eq : ∀ (a b : List UInt8), compareBytes a b = 0 ↔ a = b
  | [], [] => by simp [compareBytes]
  | [], b :: bs => by simp [compareBytes]
  | a :: xs, [] => by simp [compareBytes]
  | a :: xs, b :: bs => by
    have ih := cmp_eq xs bs
    unfold compareBytes
    by_cases h1 : a < b
    · have : a ≠ b := fun e => by subst e; rw [UInt8.lt_iff_toNat_lt] at h1; omega
      simp [h1, this]
    · by_cases h2 : b < a
      · have : a ≠ b := fun e => by subst e; exact h1 h2
        simp [h1, h2, this]
      · have hab : a = b := by
          rw [UInt8.lt_iff_toNat_lt] at h1 h2
          exact UInt8.toNat_inj.1 (by omega)
        subst hab
        simp [h1, ih]
/-- The first that is not nought. -/
def or3 (a b c : Int) : Int := if a = 0 then (if b = 0 then c else b) else a
def cfT (x y : Tri) : Int := or3 (compareBytes x.1 y.1) (compareBytes x.2.1 y.2.1) (compareBytes x.2.2 y.2.2)
theorem ltT (x y : Tri) : ltOf cfT x y = lessT x y := by
  obtain ⟨a1, a2, a3⟩ := x
  obtain ⟨b1, b2, b3⟩ := y
  unfold ltOf cfT or3 lessT
  simp only
  by_cases e1 : a1 = b1
  · rw [if_pos ((cmp_eq a1 b1).2 e1), if_pos e1]
    by_cases e2 : a2 = b2
    · rw [if_pos ((cmp_eq a2 b2).2 e2), if_pos e2]; exact cmp_less _ _
    · rw [if_neg (fun h => e2 ((cmp_eq a2 b2).1 h)), if_neg e2]; exact cmp_less _ _
  · rw [if_neg (fun h => e1 ((cmp_eq a1 b1).1 h)), if_neg e1]; exact cmp_less _ _
theorem swoT : SWO (ltOf cfT) where
  irrefl x := by rw [ltT]; exact lessT_irrefl _
  trans x y z h1 h2 := by rw [ltT] at *; exact lessT_trans _ _ _ h1 h2
  ntrans x y z h1 h2 := by rw [ltT] at *; exact lessT_ntrans _ _ _ h1 h2
theorem totT (x y : Tri) (h1 : ltOf cfT x y = false) (h2 : ltOf cfT y x = false) : x = y := by
  rw [ltT] at h1 h2
  exact lessT_cases _ _ h1 h2
def sortT (d : List Tri) : List Tri := d.mergeSort fun x y => !(ltOf cfT) y x
theorem sortT_perm (d : List Tri) : (sortT d).Perm d := List.mergeSort_perm _ _
theorem sortT_rise {d : List Tri} (hd : d.Nodup) : Rise (sortT d) := by
  have hs : (sortT d).Pairwise (fun x y => (!(ltOf cfT) y x) = true) := by
    unfold sortT
    apply List.pairwise_mergeSort
    · intro a b c h1 h2
      simp only [Bool.not_eq_true'] at *
      exact swoT.ntrans _ _ _ h2 h1
    · intro a b
      rw [ltT, ltT]
      cases h1 : lessT b a with
      | false => simp
      | true => rw [lessT_asymm h1]; rfl
  have hn : (sortT d).Nodup := (sortT_perm d).nodup_iff.2 hd
  refine (hs.and hn).imp ?_
  rintro a b ⟨h1, h2⟩
  rw [Bool.not_eq_true', ltT] at h1
  cases h : lessT a b with
  | true => rfl
  | false => exact absurd (lessT_cases a b h h1) h2
/-- Sorted, it is the one list that has just these. -/
theorem sortT_is {d L : List Tri} (hd : d.Nodup) (hL : Rise L) (h : ∀ t, t ∈ L ↔ t ∈ d) : sortT d = L :=
  rise_ext (sortT_rise hd) hL (fun t => ((sortT_perm d).mem_iff).trans (h t).symm)

set_option maxRecDepth 100000 in
set_option maxHeartbeats 1000000 in
theorem or_any (a b c : Int) (g : Nat) (w : World) (c0 : w.cell? ⟨g, 0, none⟩ = some (.int .i64 a)) (c1 : w.cell? ⟨g, 1, none⟩ = some (.int .i64 b)) (c2 : w.cell? ⟨g, 2, none⟩ = some (.int .i64 c)) :
    Calls Try.prog 50 #[.slice (some ⟨g, 0, none⟩) 3 3] w fun e w' => e = .returned (.int .i64 (or3 a b c)) ∧ w' = w := by
  unfold or3
  have key : ∀ (i : Nat), i < 3 → ∃ z, w.cell? ⟨g, i, none⟩ = some (.int .i64 z) ∧ ((i = 0 ∧ z = a) ∨ (i = 1 ∧ z = b) ∨ (i = 2 ∧ z = c)) := fun i hi => by
    match i, hi with
    | 0, _ => exact ⟨a, c0, .inl ⟨rfl, rfl⟩⟩
    | 1, _ => exact ⟨b, c1, .inr (.inl ⟨rfl, rfl⟩)⟩
    | 2, _ => exact ⟨c, c2, .inr (.inr ⟨rfl, rfl⟩)⟩
  obtain ⟨R, hR⟩ : ∃ R, R = (if a = 0 then (if b = 0 then c else b) else a) := ⟨_, rfl⟩
  rw [← hR]
  have HR := Hid.mk hR
  have HK := Hid.mk key
  clear hR key c0 c1 c2
  go_enter Try.func50, Try.ntmps50
  go_wp2_with fail
  go_loopw [8] (fun v wr => ∃ i : Nat, i ≤ 3 ∧ v = .int .i64 i ∧ (1 ≤ i → a = 0) ∧ (2 ≤ i → b = 0) ∧ (3 ≤ i → c = 0) ∧ wr = w) (fun v _ => 3 - (intOf v).toNat)
  case atStart => exact ⟨0, by omega, rfl, by omega, by omega, by omega, rfl⟩
  case round =>
    obtain ⟨i, hi, rfl, ha, hb, hc, rfl⟩ := hrel
    have HA := Hid.mk ha
    have HB := Hid.mk hb
    have HC := Hid.mk hc
    clear ha hb hc
    by_cases hlt : i < 3
    · have hltI : (i : Int) < 3 := by omega
      obtain ⟨z, hz, hzz⟩ := HK.out i hlt
      have HZ := Hid.mk hzz
      clear hzz
      by_cases h0 : z = 0
      · have HN : Hid ((1 ≤ i + 1 → a = 0) ∧ (2 ≤ i + 1 → b = 0) ∧ (3 ≤ i + 1 → c = 0)) := Hid.mk (by
          rcases HZ.out with ⟨rfl, rfl⟩ | ⟨rfl, rfl⟩ | ⟨rfl, rfl⟩
          · exact ⟨fun _ => h0, by omega, by omega⟩
          · exact ⟨fun _ => HA.out (by omega), fun _ => h0, by omega⟩
          · exact ⟨fun _ => HA.out (by omega), fun _ => HB.out (by omega), fun _ => h0⟩)
        subst h0
        clear HZ
        go_wp2
        go_roundw
        case rel => exact ⟨i + 1, by omega, by go_num, HN.out.1, HN.out.2.1, HN.out.2.2, by first | rfl | trivial⟩
        case measure => simp [intOf]; omega
      · have h1 : (z != 0) = true := by simpa using h0
        have HE : Hid (R = z) := Hid.mk (by
          rw [HR.out]
          rcases HZ.out with ⟨rfl, rfl⟩ | ⟨rfl, rfl⟩ | ⟨rfl, rfl⟩
          · rw [if_neg h0]
          · rw [if_pos (HA.out (by omega)), if_neg h0]
          · rw [if_pos (HA.out (by omega)), if_pos (HB.out (by omega))])
        clear HZ
        go_wp2
        go_ret
        exact ⟨by rw [HE.out]; rfl, rfl⟩
    · have hltI : ¬ (i : Int) < 3 := by omega
      have HE : Hid (R = 0) := Hid.mk (by rw [HR.out, if_pos (HA.out (by omega)), if_pos (HB.out (by omega)), HC.out (by omega)])
      go_wp2
      go_ret
      exact ⟨by rw [HE.out]; rfl, rfl⟩

theorem cell_new_at (w : World) {cs : Array Value} {y : TypeId} (j : Nat) {u : Value} (h : cs[j]? = some u) : (w.alloc (.cells cs y)).cell? ⟨w.heap.size, j, none⟩ = some u := by
  have := box_at w (.cells cs y)
  simp only [World.cell?, this]
  simpa using h
set_option maxHeartbeats 4000000 in
set_option maxRecDepth 100000 in
/-- The closure. -/
theorem cmpT_any (x y : Tri) (W : World) :
    Calls Try.prog 49 #[encT x, encT y] W fun e w' => e = .returned (.int .i64 (cfT x y)) ∧ ∃ q os', w' = grow (W.drewN q) os' := by
  obtain ⟨a1, a2, a3⟩ := x
  obtain ⟨b1, b2, b3⟩ := y
  obtain ⟨W2, hW2⟩ : ∃ W2, W2 = (W.alloc (.cells #[strV a1, strV a2, strV a3] 25)).alloc (.cells #[strV b1, strV b2, strV b3] 25) := ⟨_, rfl⟩
  have HG : Hid (∃ os', W2 = grow W os') := Hid.mk ⟨_, by rw [hW2, alloc_eq_grow, alloc_eq_grow, grow_grow]⟩
  have bx1 : W2.heap[W.heap.size]? = some (.cells #[strV a1, strV a2, strV a3] 25) := by
    rw [hW2]
    exact (((Below.refl (W.alloc (.cells #[strV a1, strV a2, strV a3] 25)).heap.size _).alloc (Nat.le_refl _) _).block W.heap.size (by simp)).trans (box_at W _)
  have bx2 : W2.heap[W.heap.size + 1]? = some (.cells #[strV b1, strV b2, strV b3] 25) := by
    rw [hW2]
    have := box_at (W.alloc (.cells #[strV a1, strV a2, strV a3] 25)) (.cells #[strV b1, strV b2, strV b3] 25)
    simpa using this
  obtain ⟨⟨p0, p1, p2⟩, _⟩ := box3 (t := (a1, a2, a3)) bx1
  obtain ⟨⟨q0, q1, q2⟩, _⟩ := box3 (t := (b1, b2, b3)) bx2
  simp only at p0 p1 p2 q0 q1 q2
  have HW2 := Hid.mk hW2
  obtain ⟨c1, hc1⟩ : ∃ c, c = compareBytes a1 b1 := ⟨_, rfl⟩
  obtain ⟨c2, hc2⟩ : ∃ c, c = compareBytes a2 b2 := ⟨_, rfl⟩
  obtain ⟨c3, hc3⟩ : ∃ c, c = compareBytes a3 b3 := ⟨_, rfl⟩
  have C1 : Hid (∀ w, Calls Try.prog 51 #[strV a1, strV b1] w fun e w' => e = .returned (.int .i64 c1) ∧ w' = w) := Hid.mk (fun w => by
    have := Try.strings_Compare ⟨a1.toArray⟩ ⟨b1.toArray⟩ w
    rw [hc1]; simpa using this)
  have C2 : Hid (∀ w, Calls Try.prog 51 #[strV a2, strV b2] w fun e w' => e = .returned (.int .i64 c2) ∧ w' = w) := Hid.mk (fun w => by
    have := Try.strings_Compare ⟨a2.toArray⟩ ⟨b2.toArray⟩ w
    rw [hc2]; simpa using this)
  have C3 : Hid (∀ w, Calls Try.prog 51 #[strV a3, strV b3] w fun e w' => e = .returned (.int .i64 c3) ∧ w' = w) := Hid.mk (fun w => by
    have := Try.strings_Compare ⟨a3.toArray⟩ ⟨b3.toArray⟩ w
    rw [hc3]; simpa using this)
  have hcf : cfT (a1, a2, a3) (b1, b2, b3) = or3 c1 c2 c3 := by rw [hc1, hc2, hc3]; rfl
  rw [hcf]
  have HCO : Hid (∀ (g : Nat) (w : World), w.cell? ⟨g, 0, none⟩ = some (.int .i64 c1) → w.cell? ⟨g, 1, none⟩ = some (.int .i64 c2) → w.cell? ⟨g, 2, none⟩ = some (.int .i64 c3) → Calls Try.prog 50 #[.slice (some ⟨g, 0, none⟩) 3 3] w fun e w' => e = .returned (.int .i64 (or3 c1 c2 c3)) ∧ w' = w) := Hid.mk (fun g w h0 h1 h2 => or_any c1 c2 c3 g w h0 h1 h2)
  obtain ⟨R, hR⟩ : ∃ R, R = or3 c1 c2 c3 := ⟨_, rfl⟩
  rw [← hR] at HCO ⊢
  have HC2 := Hid.mk (HCO.out W2.heap.size (W2.alloc (.cells #[.int .i64 c1, .int .i64 c2, .int .i64 c3] 3)).drew (cell_new_at W2 0 rfl) (cell_new_at W2 1 rfl) (cell_new_at W2 2 rfl))
  clear hW2 bx1 bx2 hc1 hc2 hc3 hcf hR
  go_enter Try.func49, Try.ntmps49
  go_wp2_with fail
  rw [← HW2.out]
  go_region_held3 (fun w' => (w'.cell? ⟨W.heap.size, 0, none⟩ = some (strV a1) ∧ w'.cell? ⟨W.heap.size, 1, none⟩ = some (strV a2) ∧ w'.cell? ⟨W.heap.size, 2, none⟩ = some (strV a3)) ∧ (w'.cell? ⟨W.heap.size + 1, 0, none⟩ = some (strV b1) ∧ w'.cell? ⟨W.heap.size + 1, 1, none⟩ = some (strV b2) ∧ w'.cell? ⟨W.heap.size + 1, 2, none⟩ = some (strV b3)))
    (first | exact ⟨⟨p0, p1, p2⟩, ⟨q0, q1, q2⟩⟩ | exact ⟨⟨Lib.cell?_alloc_some _ p0, Lib.cell?_alloc_some _ p1, Lib.cell?_alloc_some _ p2⟩, ⟨Lib.cell?_alloc_some _ q0, Lib.cell?_alloc_some _ q1, Lib.cell?_alloc_some _ q2⟩⟩)
    (first | (go_at_call_of 51 a1; refine (C1.out _).mono ?_; rintro e w4 ⟨rfl, rfl⟩) | (go_at_call_of 51 a2; refine (C2.out _).mono ?_; rintro e w4 ⟨rfl, rfl⟩) | (go_at_call_of 51 a3; refine (C3.out _).mono ?_; rintro e w4 ⟨rfl, rfl⟩) | (go_at_call 50; refine HC2.out.mono ?_; rintro e w4 ⟨rfl, rfl⟩))
  go_wp2
  go_ret
  obtain ⟨os', hos⟩ := HG.out
  refine ⟨rfl, 1, os' ++ #[.cells #[.int .i64 c1, .int .i64 c2, .int .i64 c3] 3], ?_⟩
  rw [alloc_eq_grow, hos, grow_grow]
  rfl

/-- The block g holds the facts d, at its head; none is frozen. -/
def GTri (w : World) (g : Nat) (d : List Tri) : Prop := g < w.heap.size ∧ ∀ (j : Nat) r, d[j]? = some r → ∀ c, c < 3 → w.cell? ⟨g, j * 3 + c, none⟩ = some ((cs3 r)[c]!) ∧ w.frozen? ⟨g, j * 3 + c, none⟩ = false
theorem GTri.key {w w' : World} {g : Nat} {d : List Tri} (h : GTri w g d) (hs : w.heap.size ≤ w'.heap.size) (hk : w'.heap[g]? = w.heap[g]?) : GTri w' g d :=
  ⟨Nat.lt_of_lt_of_le h.1 hs, fun j r hr c hc => by
    obtain ⟨h1, h2⟩ := h.2 j r hr c hc
    exact ⟨by simpa only [World.cell?, hk] using h1, by simpa only [World.frozen?, hk] using h2⟩⟩
theorem GTri.below {w w' : World} {g : Nat} {d : List Tri} (h : GTri w g d) (hb : Below w.heap.size w w') : GTri w' g d := h.key hb.size (hb.block g h.1)
theorem GTri.holds {w : World} {g : Nat} {d : List Tri} (h : GTri w g d) : HoldsK cs3 3 w g 0 d.toArray := fun t ht => by
  rw [size_flatK] at ht
  have hsz : d.toArray.size = d.length := by simp
  rw [hsz] at ht
  have hj : t / 3 < d.length := by omega
  rw [get_flatK _ _ _ _ (by rw [hsz]; exact ht)]
  have e1 : d.toArray[t / 3]! = d[t / 3] := by
    rw [getElem!_pos _ _ (by rw [hsz]; exact hj)]
    simp
  have := h.2 (t / 3) d[t / 3] (List.getElem?_eq_getElem hj) (t % 3) (by omega)
  rw [show t / 3 * 3 + t % 3 = t by omega] at this
  rw [e1, Nat.zero_add]
  exact this
theorem GTri.of_holds {w : World} {g : Nat} {d : Array Tri} (hl : g < w.heap.size) (h : HoldsK cs3 3 w g 0 d) : GTri w g d.toList := by
  refine ⟨hl, fun j r hr c hc => ?_⟩
  have hj : j < d.size := by have := (List.getElem?_eq_some_iff.1 hr).1; simpa using this
  have := h (j * 3 + c) (by rw [size_flatK]; omega)
  rw [get_flatK _ _ _ _ (by omega), Nat.zero_add] at this
  have e1 : d[(j * 3 + c) / 3]! = r := by
    rw [show (j * 3 + c) / 3 = j by omega, getElem!_pos d j hj]
    have := (List.getElem?_eq_some_iff.1 hr).2
    simpa using this
  rw [e1, show (j * 3 + c) % 3 = c by omega] at this
  exact this


/-- A slice of facts that a call owns, in a block from B on. -/
def LTri (B : Nat) (w : World) (v : Value) (d : List Tri) : Prop :=
  (v = .slice none 0 0 ∧ d = []) ∨ ∃ g cap, v = .slice (some ⟨g, 0, none⟩) d.length cap ∧ B ≤ g ∧ GTri w g d
theorem LTri.below {B : Nat} {w w' : World} {v : Value} {d : List Tri} (h : LTri B w v d) (hb : Below w.heap.size w w') : LTri B w' v d := by
  rcases h with h | ⟨g, cap, h1, h3, h4⟩
  · exact .inl h
  · exact .inr ⟨g, cap, h1, h3, h4.below hb⟩
theorem LTri.tris {B : Nat} {w : World} {v : Value} {d : List Tri} (h : LTri B w v d) : TrisS (fun k => B ≤ k ∧ k < w.heap.size) w v d := by
  rcases h with ⟨rfl, rfl⟩ | ⟨g, cap, rfl, h3, h4⟩
  · exact SlS.nil _ _
  · refine ⟨_, cap, rfl, .inr ⟨g, 0, rfl, ⟨h3, h4.1⟩, h4.1, fun j x hx c u hu => ?_⟩⟩
    have hc : c < 3 := (List.getElem?_eq_some_iff.1 hu).1
    have := (h4.2 j x hx c hc).1
    rw [Nat.zero_add, this, getElem!_pos _ c hc]
    exact congrArg some (List.getElem?_eq_some_iff.1 hu).2
theorem LTri.slice {B : Nat} {w : World} {v : Value} {d : List Tri} (h : LTri B w v d) : ∃ ao cap, v = .slice ao d.length cap := by
  rcases h with ⟨rfl, rfl⟩ | ⟨g, cap, rfl, h3, h4⟩
  · exact ⟨none, 0, rfl⟩
  · exact ⟨_, cap, rfl⟩
theorem ltri_own {w : World} {B : Nat} {v : Value} {n : Nat} {d : List Tri} (h : w.ownsRow B 25 3 v n (d.flatMap cs3)) (hn : n = d.length) : LTri B w v d := by
  have h0 := h
  rcases h.2 with ⟨rfl, h1⟩ | ⟨g, cap, cur, rfl, _⟩
  · exact .inl ⟨rfl, List.length_eq_zero_iff.1 (by omega)⟩
  · subst hn
    refine .inr ⟨g, cap, rfl, (h0.lt g rfl).1, (h0.lt g rfl).2, fun j r hr c hc => ⟨?_, h0.frozenAt _⟩⟩
    have hj := (List.getElem?_eq_some_iff.1 hr).1
    rw [h0.cellAt (j * 3 + c) (by omega), flat_at cs3_len d j c r hr hc, getElem!_pos (cs3 r) c hc]
    exact List.getElem?_eq_getElem hc

theorem sizeT (w : World) : (Go.sizeOf 25).run Try.prog w = .ok 3 w := by kernel_rfl
theorem aggT (w : World) : (isAgg 25).run Try.prog w = .ok true w := by kernel_rfl
theorem infoT : (Try.prog.info? 25).map (fun i => (i.zero, i.size, i.bytes)) = some (some (.agg #[.string ⟨#[]⟩, .string ⟨#[]⟩, .string ⟨#[]⟩]), 3, 48) := by kernel_rfl
theorem below_sorted {B : Nat} {w0 w : World} {g q : Nat} {d : Array Tri} {os : Array Obj} (h : Below B w0 w) (hg : B ≤ g) (hB : B ≤ w.heap.size) : Below B w0 (sortWorldK cs3 3 w g 0 q d os) := by
  have h1 := below_putRow (enc := (id : Value → Value)) (q := q) (d := flatK cs3 3 d) h hg
  have h2 := below_grow B (putRow (id : Value → Value) (Sort.ahead w q) g 0 (flatK cs3 3 d)) (by simpa [putRow, mapBlock, Sort.ahead] using hB) 0 os
  exact h1.trans h2


/-- The sort. -/
theorem sort_any {B : Nat} {w : World} {v : Value} {d : List Tri} (hB : B ≤ w.heap.size) (h : LTri B w v d) (hl : d.length ≤ 1000000) :
    Calls Try.prog 48 #[v, .func (.func 49) #[] #[]] w fun e w' => e = .returned (.tuple #[]) ∧ LTri B w' v (sortT d) ∧ Below B w w' := by
  rcases h with ⟨rfl, rfl⟩ | ⟨g, cap, rfl, hBg, hG⟩
  · refine (Try.slices_SortFunc_none (α := Nat) _ _ _ _).mono ?_
    rintro e w' ⟨rfl, rfl⟩
    exact ⟨rfl, .inl ⟨rfl, by simp [sortT]⟩, Below.refl _ _⟩
  · have hcmp : CmpLays Try.prog 49 #[] cs3 3 cfT g 0 d.toArray.size w := fun m os dk _ x y => by
      exact cmpT_any x y _
    have eg : ∀ args w, (callFunc 49 args).run Try.prog w = .ok (.enter 49 args) w := enters_of Try.func49 (by kernel_rfl) rfl
    have hsz : d.toArray.size = d.length := by simp
    have hS := Try.slices_SortFunc_total 3 aggT sizeT cs3 (fun _ => rfl) (fun r u hu => by simp [cs3] at hu; rcases hu with rfl | rfl | rfl <;> rfl) cfT swoT 49 #[] g 0 cap d.toArray w eg hcmp hG.holds hG.1 (by rw [hsz]; omega) totT
    rw [hsz] at hS
    refine hS.mono ?_
    rintro e w' ⟨rfl, q, os, rfl⟩
    have hlen : (sortT d).length = d.length := (sortT_perm d).length_eq
    change _ ∧ LTri B (sortWorldK cs3 3 w g 0 q (sortT d).toArray os) _ _ ∧ _
    refine ⟨rfl, .inr ⟨g, cap, by rw [hlen], hBg, ?_⟩, below_sorted (Below.refl B w) hBg hB⟩
    have hsw : SWK cs3 3 w g 0 (sortT d).toArray (sortWorldK cs3 3 w g 0 q (sortT d).toArray os) := ⟨q, os, rfl⟩
    have hh := hsw.holds hG.1 hG.holds (by simp [hlen])
    have := GTri.of_holds (lt_sortWorldK cs3 3 w g 0 q (sortT d).toArray os hG.1) hh
    simpa using this
end Go.Proofs.Ytiabnjjdeikefaa
