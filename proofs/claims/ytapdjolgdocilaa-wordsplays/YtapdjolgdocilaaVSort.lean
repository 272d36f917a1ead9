/- Sorted of the program: the closure that compares, the sort by it, all numbers in the order of their words. -/
import Derived.Test.YtapdjolgdocilaaVPut
import Derived.Lib.OwnBridge
import Derived.Lib.AppendIntMem
namespace Go.Proofs.Ytapdjolgdocilaa
open Go.RowKit Go.Sort Go.Lib Go.Shelf

theorem infoI : (Try.prog.info? 3).map (fun i => (i.zero, i.size, i.bytes)) = some (some (.int .i64 0), 1, 8) := by kernel_rfl

/-- The block g holds the numbers l. -/
def IRow (w : World) (g : Nat) (l : List Nat) : Prop := g < w.heap.size ∧ ∀ (j x : Nat), l[j]? = some x → w.cell? ⟨g, j, none⟩ = some (.int .i64 (x : Int)) ∧ w.frozen? ⟨g, j, none⟩ = false
theorem IRow.key {w w' : World} {g : Nat} {l : List Nat} (h : IRow w g l) (hs : g < w'.heap.size) (hk : w'.heap[g]? = w.heap[g]?) : IRow w' g l :=
  ⟨hs, fun j x hx => by
    obtain ⟨h1, h2⟩ := h.2 j x hx
    exact ⟨by simpa only [World.cell?, hk] using h1, by simpa only [World.frozen?, hk] using h2⟩⟩
theorem IRow.below {w w' : World} {g : Nat} {l : List Nat} (h : IRow w g l) (hb : Below w.heap.size w w') : IRow w' g l :=
  h.key (Nat.lt_of_lt_of_le h.1 hb.size) (hb.block g h.1)
theorem IRow.fr {S : Nat → Prop} {w w' : World} {g : Nat} {l : List Nat} (h : IRow w g l) (hf : Fr S w w') (hg : S g) : IRow w' g l :=
  h.key (Nat.lt_of_lt_of_le h.1 hf.size) (hf.block g hg)

/-- The numbers when i of n are written. -/
def fillI (n i : Nat) : List Nat := List.range i ++ List.replicate (n - i) 0
theorem fillI_end (n : Nat) : fillI n n = List.range n := by simp [fillI]
theorem fillI_step (n i : Nat) (hi : i < n) : (fillI n i).set i i = fillI n (i + 1) := by
  unfold fillI
  rw [List.set_append, if_neg (by simp), List.length_range, Nat.sub_self, show n - i = (n - (i + 1)) + 1 by omega, List.replicate_succ, List.range_succ, List.append_assoc]
  rfl
theorem fillI_len (n i : Nat) (hi : i ≤ n) : (fillI n i).length = n := by simp [fillI]; omega
theorem irow_made {w1 : World} {base g n : Nat} (hown : w1.ownsRow base 3 1 (.slice (some ⟨g, 0, none⟩) n n) n (madeCells #[Value.int IntKind.i64 0] n).toList) : IRow w1 g (fillI n 0) := by
  have hlt := (hown.lt g rfl).2
  refine ⟨hlt, fun j x hx => ?_⟩
  simp only [fillI, List.range_zero, List.nil_append, Nat.sub_zero] at hx
  have hj : j < n := by have := (List.getElem?_eq_some_iff.1 hx).1; simpa using this
  have hx0 : x = 0 := by rw [List.getElem?_replicate, if_pos hj] at hx; exact (Option.some.inj hx).symm
  subst hx0
  refine ⟨?_, hown.frozenAt j⟩
  rw [hown.cellAt j (by omega), toList_madeCells_one, List.getElem?_replicate, if_pos (by omega)]
  rfl
theorem IRow.set {w : World} {g i : Nat} {l : List Nat} (h : IRow w g l) (hi : i < l.length) (x : Nat) : IRow (w.setCell ⟨g, i, none⟩ (.int .i64 (x : Int))) g (l.set i x) := by
  refine ⟨by simpa using h.1, fun j y hy => ?_⟩
  by_cases e : i = j
  · subst e
    rw [List.getElem?_set_self hi] at hy
    obtain ⟨z, hz⟩ : ∃ z, l[i]? = some z := ⟨_, List.getElem?_eq_getElem hi⟩
    obtain ⟨h1, h2⟩ := h.2 i z hz
    rw [← Option.some.inj hy]
    exact ⟨World.cell?_setCell_same _ _ _ h1, by simpa using h2⟩
  · rw [List.getElem?_set_ne e] at hy
    obtain ⟨h1, h2⟩ := h.2 j y hy
    exact ⟨(World.cell?_setCell_other _ _ _ _ (by intro e'; simp only [Addr.mk.injEq] at e'; omega)).trans h1, by simpa using h2⟩

set_option maxHeartbeats 2000000 in
set_option maxRecDepth 100000 in
/-- The closure. -/
theorem cmp_any (p b r n cap x y : Nat) (sx sy : List UInt8) (W : World) (hp : W.cell? ⟨p, 0, none⟩ = some (.pointer (some ⟨b, 0, none⟩))) (h2 : W.cell? ⟨b, 2, none⟩ = some (.slice (some ⟨r, 0, none⟩) n cap))
    (hx : x < n) (hy : y < n) (cx : W.cell? ⟨r, x, none⟩ = some (.string ⟨sx.toArray⟩)) (cy : W.cell? ⟨r, y, none⟩ = some (.string ⟨sy.toArray⟩)) :
    Calls Try.prog 25 #[.int .i64 (x : Int), .int .i64 (y : Int), .pointer (some ⟨p, 0, none⟩)] W fun e w' => e = .returned (.int .i64 (compareBytes sx sy)) ∧ ∃ q, w' = W.drewN q := by
  have C : Hid (∀ w, Calls Try.prog 26 #[.string ⟨sx.toArray⟩, .string ⟨sy.toArray⟩] w fun e w' => e = .returned (.int .i64 (compareBytes sx sy)) ∧ w' = w) := Hid.mk (fun w => by
    have := Try.strings_Compare ⟨sx.toArray⟩ ⟨sy.toArray⟩ w
    simpa using this)
  obtain ⟨c, hc⟩ : ∃ c, c = compareBytes sx sy := ⟨_, rfl⟩
  rw [← hc] at C ⊢
  clear hc
  go_enter Try.func25, Try.ntmps25
  go_wp2_with fail
  go_quiet ((go_at_call 26; refine Calls.quiet_of_same (C.out _)))
  go_wp2
  go_ret
  exact ⟨rfl, nq, rfl⟩

/-! Numbers below n, compared by their words. -/
abbrev Idx (n : Nat) := { i : Nat // i < n }
def encI {n : Nat} (x : Idx n) : Value := .int .i64 (x.1 : Int)
def cfI (ws : List (List UInt8)) (x y : Idx ws.length) : Int := compareBytes (wordAt ws x.1) (wordAt ws y.1)
theorem ltI (ws : List (List UInt8)) (x y : Idx ws.length) : ltOf (cfI ws) x y = less (wordAt ws x.1) (wordAt ws y.1) := cmp_less _ _
theorem less_ntrans (a b c : List UInt8) (h1 : less a b = false) (h2 : less b c = false) : less a c = false := by
  cases h : less a c with
  | false => rfl
  | true =>
    cases h3 : less c b with
    | true => rw [less_trans a c b h h3] at h1; cases h1
    | false =>
      have := less_cases b c h2 h3
      subst this
      rw [h] at h1; cases h1
theorem swoI (ws : List (List UInt8)) : SWO (ltOf (cfI ws)) where
  irrefl x := by rw [ltI]; exact less_irrefl _
  trans x y z h1 h2 := by rw [ltI] at *; exact less_trans _ _ _ h1 h2
  ntrans x y z h1 h2 := by rw [ltI] at *; exact less_ntrans _ _ _ h1 h2
theorem totI {ws : List (List UInt8)} (ho : Once ws) (x y : Idx ws.length) (h1 : ltOf (cfI ws) x y = false) (h2 : ltOf (cfI ws) y x = false) : x = y := by
  rw [ltI] at h1 h2
  have e := less_cases _ _ h1 h2
  exact Subtype.ext (ho x.1 y.1 _ (at_wordAt x.2) (by rw [e]; exact at_wordAt y.2))
def allI (n : Nat) : List (Idx n) := (List.range n).pmap Subtype.mk (fun _ hi => List.mem_range.1 hi)
theorem allI_map (n : Nat) : (allI n).map (fun x => x.1) = List.range n := by
  rw [allI, List.map_pmap, List.pmap_eq_map]; simp
theorem allI_len (n : Nat) : (allI n).length = n := by simp [allI]
def sortI (ws : List (List UInt8)) : List (Idx ws.length) := (allI ws.length).mergeSort fun x y => !(ltOf (cfI ws)) y x
theorem sortI_len (ws : List (List UInt8)) : (sortI ws).length = ws.length := by
  unfold sortI; rw [List.length_mergeSort, allI_len]
theorem sortI_sorts {ws : List (List UInt8)} (ho : Once ws) : Sorts ws ((sortI ws).map (fun x => x.1)) := by
  have hp : (sortI ws).Perm (allI ws.length) := List.mergeSort_perm _ _
  have hp2 := hp.map (fun x => x.1)
  rw [allI_map] at hp2
  refine ⟨hp2, ?_⟩
  have hs : (sortI ws).Pairwise (fun x y => (!(ltOf (cfI ws)) y x) = true) := by
    unfold sortI
    apply List.pairwise_mergeSort
    · intro a b c h1 h2
      rw [ltI] at *
      simp only [Bool.not_eq_true'] at *
      exact less_ntrans _ _ _ h2 h1
    · intro a b
      rw [ltI, ltI]
      cases h1 : less (wordAt ws b.1) (wordAt ws a.1) with
      | false => simp
      | true => rw [less_asymm h1]; rfl
  have hn : ((sortI ws).map (fun x => x.1)).Nodup := hp2.nodup_iff.2 List.nodup_range
  rw [List.pairwise_map]
  have hn2 : (sortI ws).Pairwise (fun x y => x.1 ≠ y.1) := List.pairwise_map.1 hn
  refine (hs.and hn2).imp ?_
  rintro a b ⟨h1, h2⟩
  rw [ltI] at h1
  cases h : less (wordAt ws a.1) (wordAt ws b.1) with
  | true => rfl
  | false =>
    simp only [Bool.not_eq_true'] at h1
    have := totI ho a b (by rw [ltI]; exact h) (by rw [ltI]; exact h1)
    exact absurd (congrArg (fun x => x.1) this) h2

theorem below_sorted {n : Nat} [Inhabited (Idx n)] {B : Nat} {w0 w : World} {g q : Nat} {d : Array (Idx n)} {os : Array Obj} (h : Below B w0 w) (hg : B ≤ g) (hB : B ≤ w.heap.size) : Below B w0 (sortWorld encI w g 0 q d os) := by
  have h1 := below_putRow (enc := encI) (q := q) (d := d) h hg
  have h2 := below_grow B (putRow encI (Sort.ahead w q) g 0 d) (by simpa [putRow, mapBlock, Sort.ahead] using hB) 0 os
  exact h1.trans h2

/-- The sort, of all numbers. -/
theorem sort_any {S : Nat → Prop} {w wr : World} {b mb p g : Nat} {ao : Option Addr} {cap : Nat} {D : DataW Unit} {ws : List (List UInt8)} (H : DAt S w b mb (.slice ao ws.length cap) D ws) (hl : ws.length ≤ 1000000) (hp : w.cell? ⟨p, 0, none⟩ = some (.pointer (some ⟨b, 0, none⟩)))
    (hg : g = w.heap.size) (hB : RowKit.Below g w wr) (hR : IRow wr g (List.range ws.length)) :
    Calls Try.prog 24 #[.slice (some ⟨g, 0, none⟩) ws.length ws.length, .func (.func 25) #[] #[.pointer (some ⟨p, 0, none⟩)]] wr fun e w' => e = .returned (.tuple #[]) ∧ ∃ is : List Nat, is.length = ws.length ∧ IRow w' g is ∧ Sorts ws is ∧ RowKit.Below g w w' := by
  by_cases h0 : ws.length = 0
  · rw [h0]
    refine (Try.slices_SortFunc_none (α := Nat) _ _ _ _).mono ?_
    rintro e w' ⟨rfl, rfl⟩
    have hn : ws = [] := List.length_eq_zero_iff.1 h0
    subst hn
    exact ⟨rfl, [], rfl, hR, ⟨List.Perm.refl _, List.Pairwise.nil⟩, hB⟩
  · letI : Inhabited (Idx ws.length) := ⟨⟨0, by omega⟩⟩
    have hsz : (allI ws.length).toArray.size = ws.length := by simp [allI_len]
    have hcells : ∀ j (hj : j < ws.length), ((allI ws.length).toArray)[j]! = ⟨j, hj⟩ := fun j hj => by
      rw [getElem!_pos _ j (by rw [hsz]; exact hj)]
      simp [allI]
    have hH : Holds (encI (n := ws.length)) wr g 0 (allI ws.length).toArray := fun j hj => by
      rw [hsz] at hj
      rw [hcells j hj, Nat.zero_add]
      exact hR.2 j j (List.getElem?_range hj)
    have hgs : g ≤ wr.heap.size := by rw [hg]; exact hB.size
    have hcmp : CmpReads Try.prog 25 #[.pointer (some ⟨p, 0, none⟩)] encI (cfI ws) g 0 (allI ws.length).toArray.size wr := fun m os dk _ x y => by
      have hb := below_sorted (q := m) (d := dk) (os := os) hB (Nat.le_refl g) hgs
      have h2 := H.blk
      obtain ⟨r, c, e1, cx⟩ := owns_at H.ow (at_wordAt x.2)
      obtain ⟨r2, c2, e2, cy⟩ := owns_at H.ow (at_wordAt y.2)
      rw [e1] at e2
      injection e2 with e2 _ _
      injection e2 with e2
      injection e2 with e2 _ _
      subst e2
      have hrl : r < w.heap.size := own_lt H.ow (by rw [e1]; rfl)
      rw [e1] at h2
      obtain ⟨⟨_, _, g2⟩, _⟩ := three_cells h2
      have hbl : b < w.heap.size := lt_of_block H.blk
      have hpl : p < w.heap.size := World.block_lt_of_cell? _ _ hp
      exact cmp_any p b r ws.length c x.1 y.1 _ _ _ ((hb.cell (p := ⟨p, 0, none⟩) (by rw [hg]; exact hpl)).trans hp) ((hb.cell (p := ⟨b, 2, none⟩) (by rw [hg]; exact hbl)).trans g2) x.2 y.2
        ((hb.cell (p := ⟨r, x.1, none⟩) (by rw [hg]; exact hrl)).trans cx) ((hb.cell (p := ⟨r, y.1, none⟩) (by rw [hg]; exact hrl)).trans cy)
    have eg : ∀ args w, (callFunc 25 args).run Try.prog w = .ok (.enter 25 args) w := enters_of Try.func25 (by kernel_rfl) rfl
    have hS := Try.slices_SortFunc_total (encI (n := ws.length)) (fun _ => rfl) (cfI ws) (swoI ws) 25 #[.pointer (some ⟨p, 0, none⟩)] g 0 ws.length (allI ws.length).toArray wr eg hcmp.lays hH hR.1 (by rw [hsz]; omega) (totI H.once)
    rw [hsz] at hS
    refine hS.mono ?_
    rintro e w' ⟨rfl, q, os, rfl⟩
    have hlen : ((sortI ws).map (fun x => x.1)).length = ws.length := by rw [List.length_map, sortI_len]
    refine ⟨rfl, (sortI ws).map (fun x => x.1), hlen, ?_, sortI_sorts H.once, below_sorted hB (Nat.le_refl g) hgs⟩
    have hsw : SW (encI (n := ws.length)) wr g 0 (sortI ws).toArray (sortWorld encI wr g 0 q (sortI ws).toArray os) := ⟨q, os, rfl⟩
    have hh := hsw.holds hR.1 hH (by rw [hsz]; simp [sortI_len])
    refine ⟨hsw.lt hR.1, fun j x hx => ?_⟩
    rw [List.getElem?_map] at hx
    obtain ⟨y, hy, rfl⟩ := Option.map_eq_some_iff.1 hx
    have hj := (List.getElem?_eq_some_iff.1 hy).1
    have := hh j (by simpa using hj)
    rw [Nat.zero_add, getElem!_pos _ j (by simpa using hj)] at this
    have ey : (sortI ws).toArray[j]'(by simpa using hj) = y := by
      have := List.getElem?_eq_some_iff.1 hy
      simpa using this.2
    rw [ey] at this
    exact this

/-- What Sorted answers. -/
def SEnd (w : World) (ws : List (List UInt8)) (e : Ending) (w' : World) : Prop :=
  ∃ (g cap : Nat) (is : List Nat), e = .returned (.slice (some ⟨g, 0, none⟩) is.length cap) ∧ IRow w' g is ∧ w.heap.size ≤ g ∧ Sorts ws is ∧ Below w.heap.size w w'

set_option maxHeartbeats 2000000 in
set_option maxRecDepth 100000 in
theorem sorted_any {S : Nat → Prop} {w : World} {b : Nat} {ws : List (List UInt8)} (hV : V S w b ws) (hl : ws.length ≤ 1000000) :
    Calls Try.prog 17 #[.pointer (some ⟨b, 0, none⟩)] w (SEnd w ws) := by
  obtain ⟨mb, vw, D, h⟩ := hV
  obtain ⟨W0, hW0⟩ : ∃ W0, W0 = w.alloc (.cells #[.pointer (some ⟨b, 0, none⟩)] 24) := ⟨_, rfl⟩
  have B0 : Below w.heap.size w W0 := by rw [hW0]; exact (Below.refl _ _).alloc (Nat.le_refl _) _
  have z0 : W0.heap.size = w.heap.size + 1 := by rw [hW0]; simp
  have hp : W0.cell? ⟨w.heap.size, 0, none⟩ = some (.pointer (some ⟨b, 0, none⟩)) := by
    have e := box_at w (.cells #[.pointer (some ⟨b, 0, none⟩)] 24)
    rw [hW0]
    simp only [World.cell?, e]; rfl
  have H := Hid.mk (h.below B0)
  obtain ⟨ao, cap, rfl⟩ := own_slice h.ow
  obtain ⟨⟨g0, g1, g2⟩, _⟩ := three_cells H.out.blk
  have C := Hid.mk (given_any b W0 g0)
  obtain ⟨i0, hi0, hz0, hz1, hz2⟩ := info_parts infoI
  have HW0 := Hid.mk hW0
  have HB0 := Hid.mk B0
  have HZ0 := Hid.mk z0
  clear h hW0 B0 z0
  go_enter Try.func17, Try.ntmps17
  go_wp2_with fail
  rw [← HW0.out]
  refine C.out.mono ?_
  rintro e w1 ⟨rfl, hw⟩
  subst hw
  go_wp2_with (at_make; refine wpList_make_full _ rfl _ _ 34 rfl w1.heap.size 3 i0 (.int .i64 0) 1 Try.underlying34 hi0 hz0 hz1 _ _ _ _ ws.length rfl rfl rfl rfl (by rw [hz2]; omega) (by unfold maxLen; omega) (Nat.le_refl _) ?_)
  intro w2 hown hgrow
  have R0 := Hid.mk (irow_made (by simpa using hown))
  have HB2 : Hid (Below w1.heap.size w1 w2) := Hid.mk ((Below.refl _ _).grown hgrow (Nat.le_refl _) (by simp))
  clear hown hgrow hz0 hz1 hz2 hi0
  obtain ⟨g, hg⟩ : ∃ g, g = w1.heap.size := ⟨_, rfl⟩
  rw [← hg] at R0 HB2 ⊢
  have HG := Hid.mk hg
  clear hg
  go_wp2_with fail
  obtain ⟨n, hn⟩ : ∃ n, n = ws.length := ⟨_, rfl⟩
  rw [← hn] at R0 hl ⊢
  have HN := Hid.mk hn
  clear hn
  go_loopw [16] (fun c wr => ∃ i : Nat, i ≤ n ∧ c = .int .i64 i ∧ IRow wr g (fillI n i) ∧ Below g w1 wr) (fun c _ => n - (intOf c).toNat)
  case atStart => exact ⟨0, Nat.zero_le _, rfl, R0.out, HB2.out⟩
  case round =>
    obtain ⟨i, hi, rfl, hR, hB⟩ := hrel
    have HR := Hid.mk hR
    have HB := Hid.mk hB
    clear hR hB
    by_cases hlt : i < n
    · have hltI : (i : Int) < (n : Int) := by omega
      obtain ⟨z, hz⟩ : ∃ z, (fillI n i)[i]? = some z := ⟨_, List.getElem?_eq_getElem (by rw [fillI_len n i hi]; exact hlt)⟩
      obtain ⟨c1, c2⟩ := HR.out.2 i z hz
      clear hz
      have HR2 := Hid.mk (HR.out.set (i := i) (by rw [fillI_len n i hi]; exact hlt) i)
      rw [fillI_step n i hlt] at HR2
      go_wp2
      go_roundw
      case rel => exact ⟨i + 1, by omega, by go_num, HR2.out, HB.out.setCell (p := ⟨g, i, none⟩) (Nat.le_refl _) _⟩
      case measure => simp [intOf]; omega
    · obtain rfl : i = n := by omega
      have C2 : Hid (Calls Try.prog 24 #[.slice (some ⟨g, 0, none⟩) i i, .func (.func 25) #[] #[.pointer (some ⟨w.heap.size, 0, none⟩)]] wr fun e w' => e = .returned (.tuple #[]) ∧ ∃ is : List Nat, is.length = i ∧ IRow w' g is ∧ Sorts ws is ∧ RowKit.Below g w1 w') := Hid.mk (by
        have hR := HR.out
        rw [fillI_end] at hR
        have HH := H.out
        rw [HN.out] at hR hl ⊢
        exact sort_any HH hl hp HG.out HB.out hR)
      clear R0 HR HB2 HB
      go_wp2_with fail
      refine C2.out.mono ?_
      rintro e w3 ⟨rfl, is, hlen, hrow, hsorts, hbel⟩
      have HF : Hid (RowKit.Below w.heap.size w w3) := Hid.mk (HB0.out.trans (hbel.mono (by rw [HG.out]; exact HB0.out.size)))
      subst hlen
      go_wp2
      go_ret
      exact ⟨g, is.length, is, rfl, hrow, by rw [HG.out]; exact HB0.out.size, hsorts, HF.out⟩
end Go.Proofs.Ytapdjolgdocilaa
