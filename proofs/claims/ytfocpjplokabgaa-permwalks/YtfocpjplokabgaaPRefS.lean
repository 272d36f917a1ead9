/- The document's Seek and Next. -/
import Derived.Test.YtfocpjplokabgaaPRefT
namespace Go.Proofs.Ytfocpjplokabgaa
open Go.RowKit Go.Shelf

section
variable {S : Nat → Prop} {w : World} {vl va : Value} {o : Od} {L : List R3} {s : Wk}
set_option maxHeartbeats 4000000 in
set_option maxRecDepth 100000 in
theorem rSeek_any (ho : o.ok) (hs : Strict o L) (h : DW S w vl va L s.p) (hok : WkOk o L s) (n : Int) : Calls Try.prog 24 #[wV o.r3 vl va s.bh, .int .i64 n] w (DEnd S w o vl L (wSeek o L s n)) := by
  obtain ⟨al, cl, aa, ca, rfl, rfl⟩ := h.slices
  obtain ⟨p, bh⟩ := s
  have hp := hok.len
  have HD := Hid.mk h
  have HOK := Hid.mk hok
  have HS := Hid.mk hs
  have HO := Hid.mk ho
  simp only at HD hp ⊢
  obtain ⟨N, hN⟩ : ∃ N, N = L.length := ⟨_, rfl⟩
  obtain ⟨m, hm⟩ : ∃ m, m = p.length := ⟨_, rfl⟩
  rw [← hN, ← hm] at HD ⊢
  have HM := Hid.mk hm
  rw [← hm] at hp
  clear h hok hs ho hN hm
  obtain ⟨t0, t1, t2⟩ := two_blocks w (.cells (wCs o.r3 (.slice al N cl) (.slice aa m ca) bh) 43) (.cells wC0 43)
  obtain ⟨W0, hW0⟩ : ∃ W0, W0 = (w.alloc (.cells (wCs o.r3 (.slice al N cl) (.slice aa m ca) bh) 43)).alloc (.cells wC0 43) := ⟨_, rfl⟩
  rw [← hW0] at t0 t1 t2
  have CK := Hid.mk (rKey_any (o := o) (s := ⟨p, bh⟩) (HD.out.below t2) (by simp only; rw [← HM.out]; exact hp))
  simp only at CK
  have T0 := Hid.mk t0
  have T1 := Hid.mk t1
  have T2 := Hid.mk t2
  have HW0 : Hid (W0 = (w.alloc (.cells #[.int .i64 o.r3.a, .int .i64 o.r3.b, .int .i64 o.r3.c, .slice al N cl, .slice aa m ca, .bool bh] 43)).alloc (.cells #[.int .i64 0, .int .i64 0, .int .i64 0, .slice none 0 0, .slice none 0 0, .bool false] 43)) := Hid.mk hW0
  clear t0 t1 t2 hW0
  by_cases hc : p = [] ∨ bh = true
  · have e : wKey ⟨p, bh⟩ = (0, false) := by unfold wKey; rw [if_pos hc]
    have e2 : wSeek o L ⟨p, bh⟩ n = (⟨p, bh⟩, 3) := by unfold wSeek; rw [if_pos hc]
    rw [e] at CK
    rw [e2]
    clear e e2 hc
    go_enter Try.func24, Try.ntmps24
    go_wp2_with fail
    rw [← HW0.out]
    refine CK.out.mono ?_
    rintro e w1 ⟨rfl, hb1⟩
    have e0 := (hb1.block _ (lt_of_block T0.out)).trans T0.out
    have e1 := (hb1.block _ (lt_of_block T1.out)).trans T1.out
    have HB1 := Hid.mk (T2.out.trans (hb1.mono T2.out.size))
    obtain ⟨⟨r0, r1, r2, r3, r4, r5⟩, _⟩ := six_cells e0
    obtain ⟨⟨m0, m1, m2, m3, m4, m5⟩, ⟨n0, n1, n2, n3, n4, n5⟩⟩ := six_cells e1
    obtain ⟨⟨z0, z1, z2, z3, z4, z5⟩, _⟩ := six_cells (set6_block e1 (.int .i64 o.r3.a) (.int .i64 o.r3.b) (.int .i64 o.r3.c) (.slice al N cl) (.slice aa m ca) (.bool bh))
    have Z0 := Hid.mk z0
    have Z1 := Hid.mk z1
    have Z2 := Hid.mk z2
    have Z3 := Hid.mk z3
    have Z4 := Hid.mk z4
    have Z5 := Hid.mk z5
    have BF := Hid.mk (set6_below (b := w.heap.size + 1) HB1.out (by omega) (.int .i64 o.r3.a) (.int .i64 o.r3.b) (.int .i64 o.r3.c) (.slice al N cl) (.slice aa m ca) (.bool bh))
    have HE := Hid.mk (HD.out.more BF.out)
    clear z0 z1 z2 z3 z4 z5 e0 e1 hb1
    go_wp2
    refine bodyPost_ret (v := .tuple #[wV o.r3 (.slice al N cl) (.slice aa m ca) bh, .int .i64 3]) ?_ rfl ⟨_, rfl, HE.out, BF.out⟩
    simp [results, Try.results24, go_sem, Z0.out, Z1.out, Z2.out, Z3.out, Z4.out, Z5.out]
  · simp only [not_or, Bool.not_eq_true] at hc
    obtain ⟨hp0, rfl⟩ := hc
    obtain ⟨q, x, rfl⟩ := snoc_of hp0
    have hl : (q ++ [x]).length = q.length + 1 := by simp
    have HQ : Hid (q.length < 3) := Hid.mk (by have := HM.out; rw [hl] at this; omega)
    have e : wKey ⟨q ++ [x], false⟩ = (x, true) := by unfold wKey; rw [if_neg (by simp), lastN_snoc]
    rw [e] at CK
    clear e hl hp0
    by_cases hnx : n ≤ x
    · have e2 : wSeek o L ⟨q ++ [x], false⟩ n = (⟨q ++ [x], false⟩, 0) := by unfold wSeek; rw [if_neg (by simp), if_pos (by rw [lastN_snoc]; exact hnx)]
      rw [e2]
      clear e2
      go_enter Try.func24, Try.ntmps24
      go_wp2_with fail
      rw [← HW0.out]
      refine CK.out.mono ?_
      rintro e w1 ⟨rfl, hb1⟩
      have e0 := (hb1.block _ (lt_of_block T0.out)).trans T0.out
      have e1 := (hb1.block _ (lt_of_block T1.out)).trans T1.out
      have HB1 := Hid.mk (T2.out.trans (hb1.mono T2.out.size))
      obtain ⟨⟨r0, r1, r2, r3, r4, r5⟩, _⟩ := six_cells e0
      obtain ⟨⟨m0, m1, m2, m3, m4, m5⟩, ⟨n0, n1, n2, n3, n4, n5⟩⟩ := six_cells e1
      obtain ⟨⟨z0, z1, z2, z3, z4, z5⟩, _⟩ := six_cells (set6_block e1 (.int .i64 o.r3.a) (.int .i64 o.r3.b) (.int .i64 o.r3.c) (.slice al N cl) (.slice aa m ca) (.bool false))
      have Z0 := Hid.mk z0
      have Z1 := Hid.mk z1
      have Z2 := Hid.mk z2
      have Z3 := Hid.mk z3
      have Z4 := Hid.mk z4
      have Z5 := Hid.mk z5
      have BF := Hid.mk (set6_below (b := w.heap.size + 1) HB1.out (by omega) (.int .i64 o.r3.a) (.int .i64 o.r3.b) (.int .i64 o.r3.c) (.slice al N cl) (.slice aa m ca) (.bool false))
      have HE := Hid.mk (HD.out.more BF.out)
      clear z0 z1 z2 z3 z4 z5 e0 e1 hb1
      go_wp2
      refine bodyPost_ret (v := .tuple #[wV o.r3 (.slice al N cl) (.slice aa m ca) false, .int .i64 0]) ?_ rfl ⟨_, rfl, HE.out, BF.out⟩
      simp [results, Try.results24, go_sem, Z0.out, Z1.out, Z2.out, Z3.out, Z4.out, Z5.out]
    · have e2 : wSeek o L ⟨q ++ [x], false⟩ n = (onTo o L (q ++ [x]) n, 0) := by unfold wSeek; rw [if_neg (by simp), if_neg (by rw [lastN_snoc]; exact hnx)]
      rw [e2]
      obtain ⟨s2, hs2⟩ : ∃ s2, s2 = onTo o L (q ++ [x]) n := ⟨_, rfl⟩
      rw [← hs2]
      have HS2 := Hid.mk hs2
      have hxn : x < n := by omega
      clear e2 hnx hs2
      go_enter Try.func24, Try.ntmps24
      go_wp2_with fail
      rw [← HW0.out]
      refine CK.out.mono ?_
      rintro e w1 ⟨rfl, hb1⟩
      have e0 := (hb1.block _ (lt_of_block T0.out)).trans T0.out
      have E1 := Hid.mk ((hb1.block _ (lt_of_block T1.out)).trans T1.out)
      have HB1 := Hid.mk (T2.out.trans (hb1.mono T2.out.size))
      obtain ⟨⟨r0, r1, r2, r3, r4, r5⟩, _⟩ := six_cells e0
      have CT := Hid.mk (rTo_any (S := fun k => S k ∧ k < w.heap.size) HO.out (q := q) (x := x) HQ.out ((HD.out.sub (fun k hk hl => ⟨hk, hl⟩)).below HB1.out) n)
      rw [← HS2.out] at CT
      clear e0 hb1 CK
      go_wp2_with fail
      refine CT.out.mono ?_
      rintro e w2 ⟨va2, rfl, hd2, hb2⟩
      obtain ⟨a2, c2, rfl, _, _, _⟩ := id hd2.at_
      obtain ⟨m2', hm2⟩ : ∃ m2', m2' = s2.p.length := ⟨_, rfl⟩
      rw [← hm2] at hd2 ⊢
      clear hm2
      obtain ⟨bh2, hbh2⟩ : ∃ bh2, bh2 = s2.bh := ⟨_, rfl⟩
      have HD2 := Hid.mk hd2
      rw [← hbh2]
      have HBH2 := Hid.mk hbh2
      have e1 := (hb2.block _ (lt_of_block E1.out)).trans E1.out
      have HB2 := Hid.mk (HB1.out.trans (hb2.mono HB1.out.size))
      obtain ⟨⟨m0, m1, m2, m3, m4, m5⟩, ⟨n0, n1, n2, n3, n4, n5⟩⟩ := six_cells e1
      obtain ⟨⟨z0, z1, z2, z3, z4, z5⟩, _⟩ := six_cells (set6_block e1 (.int .i64 o.r3.a) (.int .i64 o.r3.b) (.int .i64 o.r3.c) (.slice al N cl) (.slice a2 m2' c2) (.bool bh2))
      have Z0 := Hid.mk z0
      have Z1 := Hid.mk z1
      have Z2 := Hid.mk z2
      have Z3 := Hid.mk z3
      have Z4 := Hid.mk z4
      have Z5 := Hid.mk z5
      have HLT := Hid.mk (lt_of_block E1.out)
      have BF := Hid.mk (set6_below (b := w.heap.size + 1) HB2.out (by omega) (.int .i64 o.r3.a) (.int .i64 o.r3.b) (.int .i64 o.r3.c) (.slice al N cl) (.slice a2 m2' c2) (.bool bh2))
      have HE : Hid (DW (More S w) (set6 w2 (w.heap.size + 1) (.int .i64 o.r3.a) (.int .i64 o.r3.b) (.int .i64 o.r3.c) (.slice al N cl) (.slice a2 m2' c2) (.bool bh2)) (.slice al N cl) (.slice a2 m2' c2) L s2.p) := Hid.mk (by
        have hz1 := HB2.out.size
        refine HD2.out.keep (by simp) (fun k hk hl => ⟨?_, set6_other ?_ _ _ _ _ _ _⟩)
        · rcases hk with ⟨hk, _⟩ | hk
          · exact .inl hk
          · exact .inr (by have := HLT.out; omega)
        · rcases hk with ⟨_, hk⟩ | hk
          · omega
          · have := HLT.out; omega)
      clear z0 z1 z2 z3 z4 z5 e1 hb2 hd2 hbh2 r0 r1 r2 r3 r4 r5
      go_wp2
      refine bodyPost_ret (v := .tuple #[wV o.r3 (.slice al N cl) (.slice a2 m2' c2) bh2, .int .i64 0]) ?_ rfl ⟨.slice a2 m2' c2, by rw [HBH2.out]; rfl, HE.out, BF.out⟩
      simp [results, Try.results24, go_sem, Z0.out, Z1.out, Z2.out, Z3.out, Z4.out, Z5.out]

theorem key_in64 {q : List Int} {x : Int} (hs : Strict o L) (hok : WkOk o L ⟨q ++ [x], false⟩) (hwf : ∀ r ∈ L, r.wf) : in64 x := by
  have hh : Has o L (q ++ [x]) := hok.at_ rfl (by simp)
  have hq : q.length < 3 := by have := hok.len; simp at this; omega
  obtain ⟨r, hr, hm⟩ := hh.row hs
  rw [← ((mt_snoc hq).1 hm).2]
  exact R3.wf_at (hwf r (List.mem_of_getElem? hr)) _
theorem onTo_max {q : List Int} {x : Int} (hwf : ∀ r ∈ L, r.wf) (hx : x = 9223372036854775807) : onTo o L (q ++ [x]) (x + 1) = ⟨q ++ [x], true⟩ := by
  have hf : nextNum o L q (x + 1) = none := by
    unfold nextNum
    rw [Option.map_eq_none_iff, List.find?_eq_none]
    intro r hr
    have := R3.wf_at (hwf r hr) (o.at q.length)
    unfold in64 at this
    simp only [Bool.and_eq_true, decide_eq_true_eq, not_and]
    intro _
    unfold num
    omega
  unfold onTo
  rw [List.dropLast_concat, hf]

set_option maxHeartbeats 4000000 in
set_option maxRecDepth 100000 in
theorem rNext_any (ho : o.ok) (hs : Strict o L) (h : DW S w vl va L s.p) (hok : WkOk o L s) : Calls Try.prog 22 #[wV o.r3 vl va s.bh] w (DEnd S w o vl L (wNext o L s)) := by
  obtain ⟨al, cl, aa, ca, rfl, rfl⟩ := h.slices
  obtain ⟨p, bh⟩ := s
  have hp := hok.len
  have HD := Hid.mk h
  have HOK := Hid.mk hok
  have HS := Hid.mk hs
  have HO := Hid.mk ho
  simp only at HD hp ⊢
  obtain ⟨N, hN⟩ : ∃ N, N = L.length := ⟨_, rfl⟩
  obtain ⟨m, hm⟩ : ∃ m, m = p.length := ⟨_, rfl⟩
  rw [← hN, ← hm] at HD ⊢
  have HM := Hid.mk hm
  rw [← hm] at hp
  clear h hok hs ho hN hm
  obtain ⟨t0, t1, t2⟩ := two_blocks w (.cells (wCs o.r3 (.slice al N cl) (.slice aa m ca) bh) 43) (.cells wC0 43)
  obtain ⟨W0, hW0⟩ : ∃ W0, W0 = (w.alloc (.cells (wCs o.r3 (.slice al N cl) (.slice aa m ca) bh) 43)).alloc (.cells wC0 43) := ⟨_, rfl⟩
  rw [← hW0] at t0 t1 t2
  have CK := Hid.mk (rKey_any (o := o) (s := ⟨p, bh⟩) (HD.out.below t2) (by simp only; rw [← HM.out]; exact hp))
  simp only at CK
  have T0 := Hid.mk t0
  have T1 := Hid.mk t1
  have T2 := Hid.mk t2
  have HW0 : Hid (W0 = (w.alloc (.cells #[.int .i64 o.r3.a, .int .i64 o.r3.b, .int .i64 o.r3.c, .slice al N cl, .slice aa m ca, .bool bh] 43)).alloc (.cells #[.int .i64 0, .int .i64 0, .int .i64 0, .slice none 0 0, .slice none 0 0, .bool false] 43)) := Hid.mk hW0
  clear t0 t1 t2 hW0
  by_cases hc : p = [] ∨ bh = true
  · have e : wKey ⟨p, bh⟩ = (0, false) := by unfold wKey; rw [if_pos hc]
    have e2 : wNext o L ⟨p, bh⟩ = (⟨p, bh⟩, 3) := by unfold wNext; rw [if_pos hc]
    rw [e] at CK
    rw [e2]
    clear e e2 hc
    go_enter Try.func22, Try.ntmps22
    go_wp2_with fail
    rw [← HW0.out]
    refine CK.out.mono ?_
    rintro e w1 ⟨rfl, hb1⟩
    have e0 := (hb1.block _ (lt_of_block T0.out)).trans T0.out
    have e1 := (hb1.block _ (lt_of_block T1.out)).trans T1.out
    have HB1 := Hid.mk (T2.out.trans (hb1.mono T2.out.size))
    obtain ⟨⟨r0, r1, r2, r3, r4, r5⟩, _⟩ := six_cells e0
    obtain ⟨⟨m0, m1, m2, m3, m4, m5⟩, ⟨n0, n1, n2, n3, n4, n5⟩⟩ := six_cells e1
    obtain ⟨⟨z0, z1, z2, z3, z4, z5⟩, _⟩ := six_cells (set6_block e1 (.int .i64 o.r3.a) (.int .i64 o.r3.b) (.int .i64 o.r3.c) (.slice al N cl) (.slice aa m ca) (.bool bh))
    have Z0 := Hid.mk z0
    have Z1 := Hid.mk z1
    have Z2 := Hid.mk z2
    have Z3 := Hid.mk z3
    have Z4 := Hid.mk z4
    have Z5 := Hid.mk z5
    have BF := Hid.mk (set6_below (b := w.heap.size + 1) HB1.out (by omega) (.int .i64 o.r3.a) (.int .i64 o.r3.b) (.int .i64 o.r3.c) (.slice al N cl) (.slice aa m ca) (.bool bh))
    have HE := Hid.mk (HD.out.more BF.out)
    clear z0 z1 z2 z3 z4 z5 e0 e1 hb1
    go_wp2
    refine bodyPost_ret (v := .tuple #[wV o.r3 (.slice al N cl) (.slice aa m ca) bh, .int .i64 3]) ?_ rfl ⟨_, rfl, HE.out, BF.out⟩
    simp [results, Try.results22, go_sem, Z0.out, Z1.out, Z2.out, Z3.out, Z4.out, Z5.out]
  · simp only [not_or, Bool.not_eq_true] at hc
    obtain ⟨hp0, rfl⟩ := hc
    obtain ⟨q, x, rfl⟩ := snoc_of hp0
    have hl : (q ++ [x]).length = q.length + 1 := by simp
    have HQ : Hid (q.length < 3) := Hid.mk (by have := HM.out; rw [hl] at this; omega)
    have e : wKey ⟨q ++ [x], false⟩ = (x, true) := by unfold wKey; rw [if_neg (by simp), lastN_snoc]
    rw [e] at CK
    clear e hl hp0
    have HX64 := Hid.mk (key_in64 HS.out HOK.out HD.out.rows.2.1)
    have e2 : wNext o L ⟨q ++ [x], false⟩ = (onTo o L (q ++ [x]) (x + 1), 0) := by unfold wNext; rw [if_neg (by simp), lastN_snoc]
    rw [e2]
    clear e2
    by_cases hnx : x = 9223372036854775807
    · have e2 := onTo_max (o := o) (q := q) HD.out.rows.2.1 hnx
      rw [e2]
      subst hnx
      clear e2
      go_enter Try.func22, Try.ntmps22
      go_wp2_with fail
      rw [← HW0.out]
      refine CK.out.mono ?_
      rintro e w1 ⟨rfl, hb1⟩
      have e0 := (hb1.block _ (lt_of_block T0.out)).trans T0.out
      have e1 := (hb1.block _ (lt_of_block T1.out)).trans T1.out
      have HB1 := Hid.mk (T2.out.trans (hb1.mono T2.out.size))
      have e2 := six_set5 e0 (.bool true)
      have e3 : (w1.setCell ⟨w.heap.size, 5, none⟩ (.bool true)).heap[w.heap.size + 1]? = _ := (Below.heap_setCell w1 ⟨w.heap.size, 5, none⟩ (.bool true) (w.heap.size + 1) (show w.heap.size + 1 ≠ w.heap.size by omega)).trans e1
      obtain ⟨⟨r0, r1, r2, r3, r4, r5⟩, ⟨f0, f1, f2, f3, f4, f5⟩⟩ := six_cells e0
      obtain ⟨⟨p0, p1, p2, p3, p4, p5⟩, _⟩ := six_cells e2
      obtain ⟨⟨m0, m1, m2, m3, m4, m5⟩, ⟨n0, n1, n2, n3, n4, n5⟩⟩ := six_cells e3
      obtain ⟨⟨z0, z1, z2, z3, z4, z5⟩, _⟩ := six_cells (set6_block e3 (.int .i64 o.r3.a) (.int .i64 o.r3.b) (.int .i64 o.r3.c) (.slice al N cl) (.slice aa m ca) (.bool true))
      have Z0 := Hid.mk z0
      have Z1 := Hid.mk z1
      have Z2 := Hid.mk z2
      have Z3 := Hid.mk z3
      have Z4 := Hid.mk z4
      have Z5 := Hid.mk z5
      have BF := Hid.mk (set6_below (b := w.heap.size + 1) (HB1.out.setCell (p := ⟨w.heap.size, 5, none⟩) (Nat.le_refl _) (.bool true)) (by omega) (.int .i64 o.r3.a) (.int .i64 o.r3.b) (.int .i64 o.r3.c) (.slice al N cl) (.slice aa m ca) (.bool true))
      have HE := Hid.mk (HD.out.more BF.out)
      clear z0 z1 z2 z3 z4 z5 e0 e1 e2 e3 hb1
      go_wp2
      refine bodyPost_ret (v := .tuple #[wV o.r3 (.slice al N cl) (.slice aa m ca) true, .int .i64 0]) ?_ rfl ⟨_, rfl, HE.out, BF.out⟩
      simp [results, Try.results22, go_sem, Z0.out, Z1.out, Z2.out, Z3.out, Z4.out, Z5.out]
    · have wx1 : IntKind.i64.wrap (x + 1) = x + 1 := by have := HX64.out; unfold in64 at this; rw [IntKind.wrap_i64]; omega
      obtain ⟨s2, hs2⟩ : ∃ s2, s2 = onTo o L (q ++ [x]) (x + 1) := ⟨_, rfl⟩
      rw [← hs2]
      have HS2 := Hid.mk hs2
      clear hs2
      go_enter Try.func22, Try.ntmps22
      go_wp2_with fail
      rw [← HW0.out]
      refine CK.out.mono ?_
      rintro e w1 ⟨rfl, hb1⟩
      have e0 := (hb1.block _ (lt_of_block T0.out)).trans T0.out
      have E1 := Hid.mk ((hb1.block _ (lt_of_block T1.out)).trans T1.out)
      have HB1 := Hid.mk (T2.out.trans (hb1.mono T2.out.size))
      obtain ⟨⟨r0, r1, r2, r3, r4, r5⟩, _⟩ := six_cells e0
      have CT := Hid.mk (rTo_any (S := fun k => S k ∧ k < w.heap.size) HO.out (q := q) (x := x) HQ.out ((HD.out.sub (fun k hk hl => ⟨hk, hl⟩)).below HB1.out) (x + 1))
      rw [← HS2.out] at CT
      clear e0 hb1 CK
      go_wp2_with fail
      refine CT.out.mono ?_
      rintro e w2 ⟨va2, rfl, hd2, hb2⟩
      obtain ⟨a2, c2, rfl, _, _, _⟩ := id hd2.at_
      obtain ⟨m2', hm2⟩ : ∃ m2', m2' = s2.p.length := ⟨_, rfl⟩
      rw [← hm2] at hd2 ⊢
      clear hm2
      obtain ⟨bh2, hbh2⟩ : ∃ bh2, bh2 = s2.bh := ⟨_, rfl⟩
      have HD2 := Hid.mk hd2
      rw [← hbh2]
      have HBH2 := Hid.mk hbh2
      have e1 := (hb2.block _ (lt_of_block E1.out)).trans E1.out
      have HB2 := Hid.mk (HB1.out.trans (hb2.mono HB1.out.size))
      obtain ⟨⟨m0, m1, m2, m3, m4, m5⟩, ⟨n0, n1, n2, n3, n4, n5⟩⟩ := six_cells e1
      obtain ⟨⟨z0, z1, z2, z3, z4, z5⟩, _⟩ := six_cells (set6_block e1 (.int .i64 o.r3.a) (.int .i64 o.r3.b) (.int .i64 o.r3.c) (.slice al N cl) (.slice a2 m2' c2) (.bool bh2))
      have Z0 := Hid.mk z0
      have Z1 := Hid.mk z1
      have Z2 := Hid.mk z2
      have Z3 := Hid.mk z3
      have Z4 := Hid.mk z4
      have Z5 := Hid.mk z5
      have HLT := Hid.mk (lt_of_block E1.out)
      have BF := Hid.mk (set6_below (b := w.heap.size + 1) HB2.out (by omega) (.int .i64 o.r3.a) (.int .i64 o.r3.b) (.int .i64 o.r3.c) (.slice al N cl) (.slice a2 m2' c2) (.bool bh2))
      have HE : Hid (DW (More S w) (set6 w2 (w.heap.size + 1) (.int .i64 o.r3.a) (.int .i64 o.r3.b) (.int .i64 o.r3.c) (.slice al N cl) (.slice a2 m2' c2) (.bool bh2)) (.slice al N cl) (.slice a2 m2' c2) L s2.p) := Hid.mk (by
        have hz1 := HB2.out.size
        refine HD2.out.keep (by simp) (fun k hk hl => ⟨?_, set6_other ?_ _ _ _ _ _ _⟩)
        · rcases hk with ⟨hk, _⟩ | hk
          · exact .inl hk
          · exact .inr (by have := HLT.out; omega)
        · rcases hk with ⟨_, hk⟩ | hk
          · omega
          · have := HLT.out; omega)
      clear z0 z1 z2 z3 z4 z5 e1 hb2 hd2 hbh2 r0 r1 r2 r3 r4 r5
      go_wp2
      refine bodyPost_ret (v := .tuple #[wV o.r3 (.slice al N cl) (.slice a2 m2' c2) bh2, .int .i64 0]) ?_ rfl ⟨.slice a2 m2' c2, by rw [HBH2.out]; rfl, HE.out, BF.out⟩
      simp [results, Try.results22, go_sem, Z0.out, Z1.out, Z2.out, Z3.out, Z4.out, Z5.out]
end
end Go.Proofs.Ytfocpjplokabgaa
