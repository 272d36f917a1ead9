/- cross of the document: all pairs of two lists. -/
import Derived.Test.YthdnpddfdlhlaaaABoth
import Derived.Deep.RegionLaw
namespace Go.Proofs.Ythdnpddfdlhlaaa
open Go.RowKit Go.Shelf

/-- The cells of a pair. -/
abbrev csP (p : Int × Int) : List Value := [.int .i64 p.1, .int .i64 p.2]
theorem csP_len (x : Int × Int) : (csP x).length = 2 := rfl
theorem one_csP (L : List (Int × Int)) : ∀ u ∈ L.flatMap csP, u.oneCell' = true := by
  intro u hu
  obtain ⟨x, _, h⟩ := List.mem_flatMap.1 hu
  simp at h
  rcases h with rfl | rfl <;> rfl
def crossI (a b : List Int) : List (Int × Int) := a.flatMap fun x => b.map fun y => (x, y)
theorem crossI_succ {a b : List Int} {i : Nat} {x : Int} (hx : a[i]? = some x) : crossI (a.take (i + 1)) b = crossI (a.take i) b ++ b.map (fun y => (x, y)) := by
  unfold crossI
  rw [List.take_add_one, hx, List.flatMap_append]
  simp
theorem crossI_len (a b : List Int) : (crossI a b).length = a.length * b.length := by
  unfold crossI
  induction a with
  | nil => simp
  | cons x l ih => rw [List.flatMap_cons, List.length_append, ih, List.length_map, List.length_cons, Nat.succ_mul]; omega
theorem infoP : (Try.prog.info? 71).map (fun i => (i.zero, i.size, i.bytes)) = some (some (.agg #[.int .i64 0, .int .i64 0]), 2, 16) := by kernel_rfl
set_option maxHeartbeats 4000000 in
set_option maxRecDepth 100000 in
theorem cross_any {w : World} {v v1 v2 : Value} {L : List (Int × Int)} {A B : List Int} (h : Src csP 2 w v L) (h1 : Src csZ 1 w v1 A) (h2 : Src csZ 1 w v2 B) (hl : L.length ≤ 1000000) (hl1 : A.length ≤ 1000) (hl2 : B.length ≤ 1000) :
    Calls Try.prog 59 #[v, v1, v2] w fun e w' => ∃ v', e = .returned v' ∧ w'.ownsRow w.heap.size 71 2 v' (L ++ crossI A B).length ((L ++ crossI A B).flatMap csP) ∧ Below w.heap.size w w' := by
  obtain ⟨i0, hi0, hz0, hz1, hz2⟩ := info_parts infoP
  obtain ⟨R, hR⟩ : ∃ R, R = L ++ crossI A B := ⟨_, rfl⟩
  rw [← hR]
  have HR := Hid.mk hR
  clear hR
  obtain ⟨a, c, rfl⟩ := h.sl.slice
  obtain ⟨a1, c1, rfl⟩ := h1.sl.slice
  obtain ⟨a2, c2, rfl⟩ := h2.sl.slice
  have H := Hid.mk h
  have H1 := Hid.mk h1
  have H2 := Hid.mk h2
  obtain ⟨n, hn⟩ : ∃ n, n = L.length := ⟨_, rfl⟩
  obtain ⟨n1, hn1⟩ : ∃ n, n = A.length := ⟨_, rfl⟩
  obtain ⟨n2, hn2⟩ : ∃ n, n = B.length := ⟨_, rfl⟩
  rw [← hn] at H hl ⊢
  rw [← hn1] at H1 hl1 ⊢
  rw [← hn2] at H2 hl2 ⊢
  have HN := Hid.mk hn
  have HN1 := Hid.mk hn1
  have HN2 := Hid.mk hn2
  clear h h1 h2 hn hn1 hn2
  go_enter Try.func59, Try.ntmps59
  go_wp2_with (at_builtin; refine wpList_append_many rfl _ _ rfl Try.underlying66 hi0 hz0 hz1 hz2 rfl (by decide) (by rfl) (World.ownsRow_nil _ w.heap.size _ _) a (L.flatMap csP) n c (by rfl) (by rw [flat_len csP_len, HN.out]) (fun e => H.out.no _ _ (by rw [e])) (H.out.cells csP_len (by decide)) (one_csP _) ?c1 ?c2 (Nat.le_refl _) ?_)
  case c1 => unfold maxLen; omega
  case c2 => omega
  intro v3 w3 hown3 hgrow3
  have HB3 : Hid (Below w.heap.size w w3) := Hid.mk (Below.grown (Below.refl _ _) hgrow3 (Nat.le_refl _) (fun k hk => by cases hk))
  obtain ⟨a3, c3, rfl⟩ := own_slice hown3
  have HO3 := Hid.mk hown3
  clear hown3 hgrow3
  go_wp2_with fail
  go_loopw [7, 8] (fun vl c wr => ∃ (i : Nat) (u : Value), u = vl ∧ i ≤ n1 ∧ c = .int .i64 i ∧ wr.ownsRow w.heap.size 71 2 u (L ++ crossI (A.take i) B).length ((L ++ crossI (A.take i) B).flatMap csP) ∧ Below w.heap.size w wr) (fun _ c _ => n1 - (intOf c).toNat)
  case atStart =>
    refine ⟨0, _, rfl, Nat.zero_le _, rfl, ?_, HB3.out⟩
    have := HO3.out
    simp only [List.take_zero, crossI, List.flatMap_nil, List.append_nil]
    rw [← HN.out]
    simpa using this
  case round =>
    obtain ⟨i, u, rfl, hi, rfl, hrow, hbq⟩ := hrel
    obtain ⟨ua, uc, hu⟩ := own_slice hrow
    obtain ⟨nu, hnu⟩ : ∃ n, n = (L ++ crossI (A.take i) B).length := ⟨_, rfl⟩
    rw [← hnu] at hu
    subst hu
    have HROW := Hid.mk hrow
    have HBQ := Hid.mk hbq
    have HNU := Hid.mk hnu
    clear hrow hbq hnu
    by_cases hlt : i < n1
    · have hltI : (i : Int) < (n1 : Int) := by omega
      obtain ⟨x, hx⟩ : ∃ x, A[i]? = some x := ⟨_, List.getElem?_eq_getElem (by rw [← HN1.out]; exact hlt)⟩
      have HX := Hid.mk hx
      have HS := Hid.mk (crossI_succ (b := B) hx)
      clear hx
      go_wp2_with fail
      go_loopw [7, 9] (fun vl c wr => ∃ (j : Nat) (u : Value), u = vl ∧ j ≤ n2 ∧ c = .int .i64 j ∧ wr.ownsRow w.heap.size 71 2 u (L ++ crossI (A.take i) B ++ (B.take j).map (fun y => (x, y))).length ((L ++ crossI (A.take i) B ++ (B.take j).map (fun y => (x, y))).flatMap csP) ∧ Below w.heap.size w wr) (fun _ c _ => n2 - (intOf c).toNat)
      case atStart =>
        refine ⟨0, _, rfl, Nat.zero_le _, rfl, ?_, HBQ.out⟩
        simp only [List.take_zero, List.map_nil, List.append_nil]
        exact HROW.out
      case round =>
        obtain ⟨j, u, rfl, hj, rfl, hrow, hbq⟩ := hrel
        obtain ⟨xa, xc, hu⟩ := own_slice hrow
        obtain ⟨nx, hnx⟩ : ∃ n, n = (L ++ crossI (A.take i) B ++ (B.take j).map (fun y => (x, y))).length := ⟨_, rfl⟩
        rw [← hnx] at hu
        subst hu
        have hxb : nx ≤ 10000000 := by
          have h3 := crossI_len (A.take i) B
          have h4 : (A.take i).length * B.length ≤ 1000 * 1000 := Nat.mul_le_mul (by rw [List.length_take]; omega) (by rw [← HN2.out]; exact hl2)
          have h5 : (B.take j).length ≤ 1000 := by rw [List.length_take]; omega
          rw [hnx, List.length_append, List.length_append, h3, List.length_map, ← HN.out]
          omega
        have HROW2 := Hid.mk hrow
        have HBQ2 := Hid.mk hbq
        have HNX := Hid.mk hnx
        have hsx : w.heap.size ≤ wr.heap.size := hbq.size
        clear hrow hbq hnx
        by_cases hltj : j < n2
        · have hltjI : (j : Int) < (n2 : Int) := by omega
          obtain ⟨y, hy⟩ : ∃ y, B[j]? = some y := ⟨_, List.getElem?_eq_getElem (by rw [← HN2.out]; exact hltj)⟩
          obtain ⟨g, off, rfl, _, _, hcell⟩ := (H1.out.below HBQ2.out).sl.get HX.out
          have q0 := getZ hcell
          rw [Nat.mul_one] at q0
          obtain ⟨g1, o1, rfl, _, _, hcell1⟩ := (H2.out.below HBQ2.out).sl.get hy
          have q1 := getZ hcell1
          rw [Nat.mul_one] at q1
          have HT : Hid ((B.take (j + 1)).map (fun y => (x, y)) = (B.take j).map (fun y => (x, y)) ++ [(x, y)]) := Hid.mk (by rw [List.take_add_one, hy, List.map_append]; rfl)
          clear hy hcell hcell1
          rw [HNX.out] at HROW2
          rw [← HNX.out] at HROW2
          go_wp2_with fail
          go_region_law (refine step_append_lies _ (by rfl) _ _ _ (by rfl) w.heap.size 71 i0 _ 2 16 Try.underlying66 hi0 hz0 hz1 hz2 rfl (by decide) (.slice xa nx xc) _ _ (by rfl) (by first | exact HROW2.out.alloc _ | exact (HROW2.out.alloc _).drew | exact HROW2.out.drew.alloc _) ⟨wr.heap.size, 0, none⟩ 1 1 (csP (x, y)) (by rfl) (by rfl) (by first | exact World.news_of_block (cs := #[.int .i64 x, .int .i64 y]) (t := 71) (fr := (0, 0)) (heap_alloc_new wr _) | exact World.news_of_block (cs := #[.int .i64 x, .int .i64 y]) (t := 71) (fr := (0, 0)) (heap_alloc_new wr.drew _)) (by simp [Value.oneCell']) (by decide) (by unfold maxLen; have := HNX.out; omega) (by have := HNX.out; omega) (by simp; omega) (wr.heap.size + 1) (by simp) ?_; intro gg cap2 w9 hown9 hgrow9 hat9 hlt9)
          all_goals (
            have ba : Below wr.drew.heap.size wr.drew (wr.drew.alloc (.cells #[.int .i64 x, .int .i64 y] 71)) := (Below.refl _ _).alloc (Nat.le_refl _) _
            have HB9 : Hid (Below w.heap.size w w9) := Hid.mk ((HBQ2.out.drew.trans (ba.mono HBQ2.out.size)).grown hgrow9 (by simp; omega) (fun k e => (HROW2.out.lt k e).1))
            have HR9 : Hid (w9.ownsRow w.heap.size 71 2 (.slice (some ⟨gg, 0, none⟩) (nx + 1) cap2) (L ++ crossI (A.take i) B ++ (B.take (j + 1)).map (fun y => (x, y))).length ((L ++ crossI (A.take i) B ++ (B.take (j + 1)).map (fun y => (x, y))).flatMap csP)) := Hid.mk (by
              rw [HT.out, ← List.append_assoc, List.length_append, ← HNX.out, List.flatMap_append]
              have h2 := hown9
              simpa [csP] using h2)
            clear hown9 hgrow9 hat9 hlt9 ba
            go_wp2
            go_roundw
            case rel => exact ⟨j + 1, _, rfl, by omega, by go_num, HR9.out, HB9.out⟩
            case measure => simp [intOf]; omega)
        · have hltjI : ¬ (j : Int) < (n2 : Int) := by omega
          have HR9 : Hid (wr.ownsRow w.heap.size 71 2 (.slice xa nx xc) (L ++ crossI (A.take (i + 1)) B).length ((L ++ crossI (A.take (i + 1)) B).flatMap csP)) := Hid.mk (by
            have e1 : B.take j = B := List.take_of_length_le (by rw [← HN2.out]; omega)
            have h2 := HROW2.out
            rw [HS.out, ← List.append_assoc]
            rw [e1] at h2
            exact h2)
          go_wp2
          go_roundw
          case rel => exact ⟨i + 1, _, rfl, by omega, by go_num, HR9.out, HBQ2.out⟩
          case measure => simp [intOf]; omega
    · have hltI : ¬ (i : Int) < (n1 : Int) := by omega
      have HT : Hid (A.take i = A) := Hid.mk (List.take_of_length_le (by rw [← HN1.out]; omega))
      rw [HT.out, ← HR.out] at HROW
      go_wp2
      go_ret
      exact ⟨_, rfl, HROW.out, HBQ.out⟩
end Go.Proofs.Ythdnpddfdlhlaaa
