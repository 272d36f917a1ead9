/- sorted of the program: the facts of a map that have some words, in their order. -/
import Derived.Test.YtiabnjjdeikefaaSSort
namespace Go.Proofs.Ytiabnjjdeikefaa
open Go.RowKit Go.Sort Go.Lib Go.Shelf

theorem filt_yes {like x : Tri} {vs : List Tri} (h : likeT like x = true) : (vs ++ [x]).filter (likeT like) = vs.filter (likeT like) ++ [x] := by
  rw [List.filter_append]; simp [h]
theorem filt_no {like x : Tri} {vs : List Tri} (h : likeT like x = false) : (vs ++ [x]).filter (likeT like) = vs.filter (likeT like) := by
  rw [List.filter_append]; simp [h]

/-- The step, with a fact in a block that stays. -/
theorem wpList_next_box (w : World) {ops : Array Oper} {rest : List Oper} {o : Oper} {a : Act} {Q : Exit → Act → World → Prop}
    (hg : o.guard = none) (it : Operand) (hop : o.op = Op.next it false) (b r : Nat) (m vs : List Tri) (cnt : Nat) (hit : a.eval it = .pointer (some ⟨r, 0, none⟩)) (h : RgS w b r m vs cnt)
    (lb : Nat) (like : Tri) (hl : w.heap[lb]? = some (.cells #[strV like.1, strV like.2.1, strV like.2.2] 25))
    (hDone : (∀ t, t ∈ vs ↔ t ∈ m) → wpList Try.prog ops Q rest (a.put o.dst (.tuple #[.bool false])) w)
    (hMore : ∀ (x : Tri) (w' : World) (cnt' : Nat), x ∈ m → x ∉ vs → RgS w' b r m (vs ++ [x]) cnt' → cnt' < cnt → w.grownBy w' (some r) →
      (∀ o : Obj, (w'.alloc o).cell? ⟨lb, 0, none⟩ = some (strV like.1)) → (∀ o : Obj, (w'.alloc o).cell? ⟨lb, 1, none⟩ = some (strV like.2.1)) → (∀ o : Obj, (w'.alloc o).cell? ⟨lb, 2, none⟩ = some (strV like.2.2)) →
      (Instr.entry (.pointer (some ⟨r, 0, none⟩))).run Try.prog w' = .ok (.tuple #[encT x, .agg #[]]) w' → wpList Try.prog ops Q rest (a.put o.dst (.tuple #[.bool true, encT x, .agg #[]])) w') :
    wpList Try.prog ops Q (o :: rest) a w :=
  wpList_next_set w hg it hop b r m vs cnt hit h hDone (fun x w' cnt' h1 h2 h3 h4 h5 h6 => by
    obtain ⟨x1, x2, x3, x4, hi⟩ := h.iter
    have hb := blk_grown hl h5 (fun e => by rw [Option.some.inj e, hl] at hi; cases hi)
    have key : ∀ o : Obj, (w'.alloc o).heap[lb]? = some (.cells #[strV like.1, strV like.2.1, strV like.2.2] 25) := fun o => (Below.heap_alloc w' o lb (lt_of_block hb)).trans hb
    exact hMore x w' cnt' h1 h2 h3 h4 h5 (fun o => (box3 (key o)).1.1) (fun o => (box3 (key o)).1.2.1) (fun o => (box3 (key o)).1.2.2) h6)

set_option maxHeartbeats 8000000 in
set_option maxRecDepth 100000 in
theorem sorted_any {w : World} {b : Nat} {F : List Tri} (hM : MSet w b F) (hR : Rise F) (hl : F.length ≤ 100000) (like : Tri) :
    Calls Try.prog 37 #[.map (some b), encT like] w fun e w' => ∃ v', e = .returned v' ∧ LTri w.heap.size w' v' (matchT F like) ∧ Below w.heap.size w w' := by
  obtain ⟨W1, hW1⟩ : ∃ W1, W1 = w.alloc (.cells #[strV like.1, strV like.2.1, strV like.2.2] 25) := ⟨_, rfl⟩
  have hB1 : Below w.heap.size w W1 := by rw [hW1]; exact (Below.refl _ _).alloc (Nat.le_refl _) _
  have hbx : W1.heap[w.heap.size]? = some (.cells #[strV like.1, strV like.2.1, strV like.2.2] 25) := by rw [hW1]; exact box_at w _
  obtain ⟨i0, hi0, hz0, hz1, hz2⟩ := info_parts infoT
  have HB1 := Hid.mk hB1
  have HBX := Hid.mk hbx
  have HM1 := Hid.mk (hM.below hB1)
  have HR := Hid.mk hR
  have HW1 := Hid.mk hW1
  have hlb : w.heap.size < W1.heap.size := lt_of_block hbx
  clear hM hR hW1 hB1 hbx
  go_enter Try.func37, Try.ntmps37
  go_wp2_with (at_range; rw [← HW1.out]; refine wpList_range_set _ rfl _ rfl b F rfl HM1.out ?_; intro w2 hrg2 hg2)
  have HB2 : Hid (Below W1.heap.size W1 w2) := Hid.mk ((Below.refl _ _).grown hg2 (Nat.le_refl _) (by simp))
  obtain ⟨r, hr⟩ : ∃ r, r = W1.heap.size := ⟨_, rfl⟩
  rw [← hr] at hrg2 ⊢
  have HR2 := Hid.mk hrg2
  have hrB : W1.heap.size ≤ r := by omega
  clear hr hrg2 hg2
  go_frame
  go_loopw [5] (fun v wr => ∃ (vs : List Tri) (cnt : Nat), RgS wr b r F vs cnt ∧ wr.ownsRow W1.heap.size 25 3 v (vs.filter (likeT like)).length ((vs.filter (likeT like)).flatMap cs3) ∧ Below W1.heap.size W1 wr) (fun _ wr => wr.rangeLeft b r)
  case atStart => exact ⟨[], F.length, HR2.out, ⟨rfl, .inl ⟨rfl, rfl⟩⟩, HB2.out⟩
  case round =>
    obtain ⟨vs, cnt, hRg, hOw, hB⟩ := hrel
    obtain ⟨ao, cap, rfl⟩ := own_slice hOw
    have HRG := Hid.mk hRg
    have HOW := Hid.mk hOw
    have HB := Hid.mk hB
    obtain ⟨acc, hacc⟩ : ∃ acc, acc = vs.filter (likeT like) := ⟨_, rfl⟩
    rw [← hacc] at HOW ⊢
    have hal : acc.length ≤ 100000 := by
      rw [hacc]
      have := List.length_filter_le (likeT like) vs
      have := hRg.few
      omega
    have HACC := Hid.mk hacc
    obtain ⟨n, hn⟩ : ∃ n, n = acc.length := ⟨_, rfl⟩
    rw [← hn] at HOW hal ⊢
    have HN := Hid.mk hn
    clear hRg hOw hB hacc hn
    have HLB := Hid.mk ((HB.out.block _ hlb).trans HBX.out)
    go_wp2_with (at_next; refine wpList_next_box _ rfl _ rfl b r F vs cnt rfl HRG.out w.heap.size like HLB.out (fun hall => ?_) (fun x w6 cnt6 hxm hxv hrg6 hlt6 hg6 la0 la1 la2 hen => ?_))
    · have HLT := Hid.mk (ltri_own HOW.out HN.out)
      have CS := Hid.mk (sort_any HB.out.size HLT.out (by rw [← HN.out]; omega))
      have HE : Hid (sortT acc = matchT F like) := Hid.mk (sortT_is (by rw [HACC.out]; exact HRG.out.nodup.filter _) (HR.out.like like) (fun t => by
        rw [HACC.out, matchT, List.mem_filter, List.mem_filter, hall t]))
      rw [HE.out] at CS
      clear hall
      go_wp2_with fail
      refine CS.out.mono ?_
      rintro e w3 ⟨rfl, hL3, hb3⟩
      have HB3 := Hid.mk ((HB1.out.trans ((HB.out.trans hb3).mono HB1.out.size)))
      have HL3 := Hid.mk hL3
      have HLE := Hid.mk hlb
      clear hL3 hb3 CS
      go_wp2
      go_ret
      refine ⟨_, rfl, ?_, HB3.out⟩
      rcases HL3.out with h | ⟨g, cap, h1, h3, h4⟩
      · exact .inl h
      · exact .inr ⟨g, cap, h1, Nat.le_trans (Nat.le_of_lt HLE.out) h3, h4⟩
    · obtain ⟨i1, i2, i3, i4, hit⟩ := HRG.out.iter
      have hOw6 := owns_grown HOW.out hg6 (fun g e => by
        rw [← Option.some.inj e]
        intro e'
        obtain ⟨cs, fz, hc⟩ := own_cells HOW.out e'
        rw [hc] at hit; cases hit)
      have hB6 : Below W1.heap.size W1 w6 := HB.out.grown hg6 HB.out.size (fun k e => by cases e; exact hrB)
      obtain ⟨W7, hW7⟩ : ∃ W7, W7 = w6.alloc (.cells #[strV x.1, strV x.2.1, strV x.2.2] 25) := ⟨_, rfl⟩
      have hB7 : Below w6.heap.size w6 W7 := by rw [hW7]; exact (Below.refl _ _).alloc (Nat.le_refl _) _
      have hbx7 : W7.heap[w6.heap.size]? = some (.cells #[strV x.1, strV x.2.1, strV x.2.2] 25) := by rw [hW7]; exact box_at w6 _
      have HB7 := Hid.mk (hB6.trans (hB7.mono hB6.size))
      have hl7 : W7.heap[w.heap.size]? = some (.cells #[strV like.1, strV like.2.1, strV like.2.2] 25) := (HB7.out.block _ hlb).trans HBX.out
      obtain ⟨⟨p0, p1, p2⟩, _⟩ := box3 hbx7
      obtain ⟨⟨l0, l1, l2⟩, _⟩ := box3 hl7
      clear la0 la1 la2
      have HOW7 := Hid.mk (owns_below hOw6 hB7)
      have HRG7 := Hid.mk (hrg6.below hB7)
      have HW7 := Hid.mk hW7
      have HLT6 := Hid.mk hlt6
      have I1 : Hid (∀ w, Calls Try.prog 47 #[strV like.1, strV x.1] w fun e w' => e = .returned (.bool (fitsB like.1 x.1)) ∧ w' = w) := Hid.mk (fun w => fits_any _ _ w)
      have I2 : Hid (∀ w, Calls Try.prog 47 #[strV like.2.1, strV x.2.1] w fun e w' => e = .returned (.bool (fitsB like.2.1 x.2.1)) ∧ w' = w) := Hid.mk (fun w => fits_any _ _ w)
      have I3 : Hid (∀ w, Calls Try.prog 47 #[strV like.2.2, strV x.2.2] w fun e w' => e = .returned (.bool (fitsB like.2.2 x.2.2)) ∧ w' = w) := Hid.mk (fun w => fits_any _ _ w)
      have HT : Hid (likeT like x = (fitsB like.1 x.1 && fitsB like.2.1 x.2.1 && fitsB like.2.2 x.2.2)) := Hid.mk rfl
      obtain ⟨m1, hm1⟩ : ∃ m, m = fitsB like.1 x.1 := ⟨_, rfl⟩
      obtain ⟨m2, hm2⟩ : ∃ m, m = fitsB like.2.1 x.2.1 := ⟨_, rfl⟩
      obtain ⟨m3, hm3⟩ : ∃ m, m = fitsB like.2.2 x.2.2 := ⟨_, rfl⟩
      rw [← hm1] at I1 HT
      rw [← hm2] at I2 HT
      rw [← hm3] at I3 HT
      clear hm1 hm2 hm3 hit hOw6 hB6 hB7 hbx7 hl7 hW7 hg6 hrg6 hlt6 hxm hxv
      have HNO : Hid (likeT like x = false → ∃ (vs : List Tri) (cnt : Nat), RgS W7 b r F vs cnt ∧ W7.ownsRow W1.heap.size 25 3 (.slice ao n cap) (vs.filter (likeT like)).length ((vs.filter (likeT like)).flatMap cs3) ∧ Below W1.heap.size W1 W7) := Hid.mk (fun hno => by
        refine ⟨vs ++ [x], cnt6, HRG7.out, ?_, HB7.out⟩
        have := HOW7.out
        rw [HN.out, HACC.out] at this
        rw [filt_no hno, HN.out, HACC.out]
        exact this)
      have HME : Hid (W7.rangeLeft b r < wr.rangeLeft b r) := Hid.mk (by rw [HRG7.out.left_eq, HRG.out.left_eq]; exact HLT6.out)
      cases m1 with
      | false =>
        have HN2 := Hid.mk (HNO.out (by rw [HT.out]; rfl))
        rw [← HW7.out]
        refine (I1.out _).mono ?_
        rintro e w8 ⟨rfl, hw⟩
        have hw := hw.symm
        subst hw
        go_wp2
        go_roundw
        case rel => exact HN2.out
        case measure => exact HME.out
      | true =>
        cases m2 with
        | false =>
          have HN2 := Hid.mk (HNO.out (by rw [HT.out]; rfl))
          rw [← HW7.out]
          refine (I1.out _).mono ?_
          rintro e w8 ⟨rfl, hw⟩
          have hw := hw.symm
          subst hw
          go_wp2_with fail
          refine (I2.out _).mono ?_
          rintro e w8 ⟨rfl, hw⟩
          have hw := hw.symm
          subst hw
          go_wp2
          go_roundw
          case rel => exact HN2.out
          case measure => exact HME.out
        | true =>
          cases m3 with
          | false =>
            have HN2 := Hid.mk (HNO.out (by rw [HT.out]; rfl))
            rw [← HW7.out]
            refine (I1.out _).mono ?_
            rintro e w8 ⟨rfl, hw⟩
            have hw := hw.symm
            subst hw
            go_wp2_with fail
            refine (I2.out _).mono ?_
            rintro e w8 ⟨rfl, hw⟩
            have hw := hw.symm
            subst hw
            go_wp2_with fail
            refine (I3.out _).mono ?_
            rintro e w8 ⟨rfl, hw⟩
            have hw := hw.symm
            subst hw
            go_wp2
            go_roundw
            case rel => exact HN2.out
            case measure => exact HME.out
          | true =>
            have HY : Hid (likeT like x = true) := Hid.mk (by rw [HT.out]; rfl)
            rw [← HW7.out]
            refine (I1.out _).mono ?_
            rintro e w8 ⟨rfl, hw⟩
            have hw := hw.symm
            subst hw
            go_wp2_with fail
            refine (I2.out _).mono ?_
            rintro e w8 ⟨rfl, hw⟩
            have hw := hw.symm
            subst hw
            go_wp2_with fail
            refine (I3.out _).mono ?_
            rintro e w8 ⟨rfl, hw⟩
            have hw := hw.symm
            subst hw
            go_wp2_with (at_builtin; refine wpList_append_lies _ rfl _ _ _ rfl W1.heap.size 25 i0 _ 3 48 Try.underlying34 hi0 hz0 hz1 hz2 rfl (by decide) (.slice ao n cap) _ _ (by rfl) (HOW7.out.alloc _) ⟨W7.heap.size, 0, none⟩ 1 1 [strV x.1, strV x.2.1, strV x.2.2] (by rfl) (by rfl) ?d1 ?d2 (by decide) ?d3 ?d4 ?d5 (W7.heap.size + 1) (by simp) ?_)
            case d1 => exact World.news_of_block (cs := #[strV x.1, strV x.2.1, strV x.2.2]) (t := 25) (fr := (0, 0)) (heap_alloc_new W7 _)
            case d2 => simp [Value.oneCell']
            case d3 => unfold maxLen; omega
            case d4 => omega
            case d5 => have := HB7.out.size; simp; omega
            intro gg cap2 w9 hown9 hgrow9 hat9 hlt9
            have ba : Below W7.heap.size W7 (W7.alloc (.cells #[strV x.1, strV x.2.1, strV x.2.2] 25)) := (Below.refl _ _).alloc (Nat.le_refl _) _
            have HRG9 := Hid.mk ((HRG7.out.below ba).grown (HOW7.out.alloc _) hgrow9)
            have HB9 : Hid (Below W1.heap.size W1 w9) := Hid.mk ((HB7.out.trans (ba.mono HB7.out.size)).grown hgrow9 (by have := HB7.out.size; simp; omega) (fun k e => (HOW7.out.lt k e).1))
            have HOW9 : Hid (w9.ownsRow W1.heap.size 25 3 (.slice (some ⟨gg, 0, none⟩) (n + 1) cap2) ((vs ++ [x]).filter (likeT like)).length (((vs ++ [x]).filter (likeT like)).flatMap cs3)) := Hid.mk (by
              rw [filt_yes HY.out, ← HACC.out, List.length_append, ← HN.out, List.flatMap_append]
              have h2 := hown9
              simpa [cs3] using h2)
            clear hown9 hgrow9 hat9 hlt9 ba
            go_wp2
            go_roundw
            case rel => exact ⟨vs ++ [x], cnt6, HRG9.out, HOW9.out, HB9.out⟩
            case measure => rw [HRG9.out.left_eq, HRG.out.left_eq]; exact HLT6.out
end Go.Proofs.Ytiabnjjdeikefaa
