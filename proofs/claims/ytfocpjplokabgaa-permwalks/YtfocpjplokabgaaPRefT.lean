/- The document's to. -/
import Derived.Test.YtfocpjplokabgaaPRefK
namespace Go.Proofs.Ytfocpjplokabgaa
open Go.RowKit Go.Shelf

section
variable {S : Nat → Prop} {w : World} {vl va : Value} {o : Od} {L : List R3} {s : Wk}
theorem onTo_some {q : List Int} {x n y : Int} {i : Nat} (hi : (lev o L q)[i]? = some y) (hny : n ≤ y) (hall : ∀ j z, j < i → (lev o L q)[j]? = some z → z < n) : onTo o L (q ++ [x]) n = ⟨q ++ [y], false⟩ := by
  have hf : nextNum o L q n = some y := by
    rw [← lev_find, List.find?_eq_some_iff_getElem]
    obtain ⟨h1, h2⟩ := List.getElem?_eq_some_iff.1 hi
    refine ⟨by simpa using hny, i, h1, h2, fun j hj => ?_⟩
    have := hall j _ hj (List.getElem?_eq_getElem (by omega))
    simp
    omega
  unfold onTo
  rw [List.dropLast_concat, hf]
theorem onTo_none {q : List Int} {x n : Int} (hall : ∀ j z, j < (lev o L q).length → (lev o L q)[j]? = some z → z < n) : onTo o L (q ++ [x]) n = ⟨q ++ [x], true⟩ := by
  have hf : nextNum o L q n = none := by
    rw [← lev_find, List.find?_eq_none]
    intro z hz
    obtain ⟨j, hj⟩ := List.getElem?_of_mem hz
    have := hall j z (List.getElem?_eq_some_iff.1 hj).1 hj
    simp
    omega
  unfold onTo
  rw [List.dropLast_concat, hf]

set_option maxHeartbeats 8000000 in
set_option maxRecDepth 100000 in
theorem rTo_any (ho : o.ok) {q : List Int} {x : Int} (hq : q.length < 3) (h : DW S w vl va L (q ++ [x])) (n : Int) : Calls Try.prog 40 #[wV o.r3 vl va false, .int .i64 n] w fun e w' => ∃ va', e = .returned (wV o.r3 vl va' (onTo o L (q ++ [x]) n).bh) ∧ DW (More S w) w' vl va' L (onTo o L (q ++ [x]) n).p ∧ Below w.heap.size w w' := by
  obtain ⟨al, cl, aa, ca, rfl, rfl⟩ := h.slices
  have hl : (q ++ [x]).length = q.length + 1 := by simp
  obtain ⟨m, hm⟩ : ∃ m, m = q.length := ⟨_, rfl⟩
  obtain ⟨N, hN⟩ : ∃ N, N = L.length := ⟨_, rfl⟩
  rw [hl, ← hm, ← hN] at h ⊢
  rw [← hm] at hq
  have HD := Hid.mk h
  have HM := Hid.mk hm
  have HO := Hid.mk ho
  clear ho h hN hl
  obtain ⟨t0, t1, t2⟩ := two_blocks w (.cells (wCs o.r3 (.slice al N cl) (.slice aa (m + 1) ca) false) 43) (.cells wC0 43)
  obtain ⟨W0, hW0⟩ : ∃ W0, W0 = (w.alloc (.cells (wCs o.r3 (.slice al N cl) (.slice aa (m + 1) ca) false) 43)).alloc (.cells wC0 43) := ⟨_, rfl⟩
  rw [← hW0] at t0 t1 t2
  have HD0 := Hid.mk (HD.out.below t2)
  obtain ⟨⟨aH, cH, slH, hcH⟩, _⟩ := ints_cut (k := m) HD0.out.at_ (by omega)
  have etk : (q ++ [x]).take m = q := by rw [hm]; simp
  rw [etk] at hcH
  have HCH := Hid.mk hcH
  have hdr : Below W0.heap.size W0 W0.drew := (Below.refl _ _).drew
  have CL := Hid.mk (level_any HO.out ((HD0.out.rows.below hdr).sub (fun _ _ _ => trivial)) (hcH.below hdr).weak (by rw [← hm]; exact hq))
  have HDR := Hid.mk hdr
  have T0 := Hid.mk t0
  have T1 := Hid.mk t1
  have T2 := Hid.mk t2
  have HW0 : Hid (W0 = (w.alloc (.cells #[.int .i64 o.r3.a, .int .i64 o.r3.b, .int .i64 o.r3.c, .slice al N cl, .slice aa (m + 1) ca, .bool false] 43)).alloc (.cells #[.int .i64 0, .int .i64 0, .int .i64 0, .slice none 0 0, .slice none 0 0, .bool false] 43)) := Hid.mk hW0
  obtain ⟨i0, hi0, hz0, hz1, hz2⟩ := info_parts infoI
  have wm : IntKind.i64.wrap (m : Int) = (m : Int) := by rw [IntKind.wrap_i64]; omega
  obtain ⟨⟨r0, r1, r2, r3, r4, r5⟩, _⟩ := six_cells t0
  clear t0 t1 t2 hW0 etk hcH hdr hm
  go_enter Try.func40, Try.ntmps40
  go_wp2_with fail
  rw [← HW0.out]
  go_region_held3 (fun w' => (w'.cell? ⟨w.heap.size, 0, none⟩ = some (.int .i64 o.r3.a) ∧ w'.cell? ⟨w.heap.size, 1, none⟩ = some (.int .i64 o.r3.b) ∧ w'.cell? ⟨w.heap.size, 2, none⟩ = some (.int .i64 o.r3.c)) ∧ w'.cell? ⟨w.heap.size, 3, none⟩ = some (.slice al N cl) ∧ w'.cell? ⟨w.heap.size, 4, none⟩ = some (.slice aa (m + 1) ca))
    (first | exact ⟨⟨r0, r1, r2⟩, r3, r4⟩ | exact ⟨⟨by assumption, by assumption, by assumption⟩, by assumption, by assumption⟩)
    (first | (go_at_call 39; refine CL.out.mono ?_; rintro e w1 ⟨al1, cl1, rfl, hl1, hb1⟩; have E0 := Hid.mk (((HDR.out.trans (hb1.mono HDR.out.size)).block _ (lt_of_block T0.out)).trans T0.out); have HB1 := Hid.mk (HDR.out.trans (hb1.mono HDR.out.size)); have HL1 := Hid.mk hl1; obtain ⟨⟨s0, s1, s2, s3, s4, s5⟩, _⟩ := six_cells E0.out; clear hl1 hb1))
  obtain ⟨K, hK⟩ : ∃ K, K = (lev o L q).length := ⟨_, rfl⟩
  have HK := Hid.mk hK
  have hKN : K ≤ 140737488355328 := by
    have h1 := lev_len o L q
    have h2 := HD.out.rows.1
    omega
  rw [← hK] at HL1 ⊢
  clear hK r0 r1 r2 r3 r4 r5 CL
  have E1 := Hid.mk ((HB1.out.block _ (lt_of_block T1.out)).trans T1.out)
  have hg1 : w.heap.size + 1 < w1.heap.size := lt_of_block E1.out
  have HBW := Hid.mk (T2.out.trans (HB1.out.mono T2.out.size))
  have HCUT := Hid.mk (HCH.out.below HB1.out).cut
  go_wp2
  go_loopw [7] (fun c wr => ∃ i : Nat, c = .int .i64 i ∧ i ≤ K ∧ (∀ j z, j < i → (lev o L q)[j]? = some z → z < n) ∧ wr = w1) (fun c _ => K - (intOf c).toNat)
  case atStart => exact ⟨0, rfl, by omega, fun j z hj => absurd hj (by omega), rfl⟩
  case round =>
    obtain ⟨i, rfl, hi, hall, rfl⟩ := hrel
    have HA := Hid.mk hall
    clear hall
    by_cases hik : i < K
    · have hikI : (i : Int) < (K : Int) := by omega
      obtain ⟨y, hy⟩ : ∃ y, (lev o L q)[i]? = some y := ⟨_, List.getElem?_eq_getElem (by rw [← HK.out]; exact hik)⟩
      obtain ⟨al2, cl2, eq2, _, _, hcc⟩ := HL1.out
      injection eq2 with eq2 _ eq3
      subst eq2 eq3
      rcases hcc with hcc | ⟨g9, off9, rfl, _, hg9, hcc⟩
      · rw [hcc] at hy; simp at hy
      have c9 := hcc i y hy
      have HC9 := Hid.mk hcc
      have HY := Hid.mk hy
      clear hcc hy
      by_cases hny : n ≤ y
      · have HON : Hid (onTo o L (q ++ [x]) n = ⟨q ++ [y], false⟩) := Hid.mk (onTo_some HY.out hny HA.out)
        go_wp2_with (at_builtin; refine wpList_append_many rfl _ _ rfl Try.underlying41 hi0 hz0 hz1 hz2 rfl (by decide) (by rfl) (World.ownsRow_nil _ wr.heap.size _ _) aH (intCs q) m cH (by rfl) HCUT.out.len HCUT.out.none_ HCUT.out.reads (intCs_one _) ?c1 ?c2 (Nat.le_refl _) ?_)
        case c1 => unfold maxLen; omega
        case c2 => omega
        intro v2 w2 hown2 hgrow2
        obtain ⟨a2, c2, rfl⟩ := own_slice hown2
        have HB2 : Hid (Below wr.heap.size wr w2) := Hid.mk (Below.grown (Below.refl _ _) hgrow2 (Nat.le_refl _) (fun k hk => by cases hk))
        have HO2 := Hid.mk hown2
        have c92 := (HB2.out.cell (p := ⟨g9, off9 + i, none⟩) hg9).trans c9
        clear hown2 hgrow2 s0 s1 s2 s3 s4 s5 c9
        go_wp2_with (at_builtin; refine wpList_append_lies _ rfl _ _ _ rfl wr.heap.size 3 i0 _ 1 8 Try.underlying41 hi0 hz0 hz1 hz2 rfl (by decide) (.slice a2 m c2) _ _ (by rfl) (HO2.out.alloc _) ⟨w2.heap.size, 0, none⟩ 1 1 [.int .i64 y] (by rfl) (by rfl) ?d1 ?d2 (by decide) ?d3 ?d4 ?d5 (w2.heap.size + 1) (by simp) ?_)
        case d1 => exact World.news_of_block (cs := #[.int .i64 y]) (t := 3) (fr := (0, 0)) (heap_alloc_new w2 _)
        case d2 => intro u hu; simp at hu; rw [hu]; rfl
        case d3 => unfold maxLen; omega
        case d4 => omega
        case d5 => have := HB2.out.size; simp; omega
        intro gg cap8 w3 hown3 hgrow3 _ _
        have HB3 : Hid (Below wr.heap.size wr w3) := Hid.mk ((HB2.out.alloc HB2.out.size _).grown hgrow3 (by have := HB2.out.size; simp; omega) (fun k hk => (HO2.out.lt k hk).1))
        have e0 := (HB3.out.block _ (by omega)).trans E0.out
        have e1 := (HB3.out.block _ hg1).trans E1.out
        have e2 := six_set4 e0 (.slice (some ⟨gg, 0, none⟩) (m + 1) cap8)
        have e3 : (w3.setCell ⟨w.heap.size, 4, none⟩ (.slice (some ⟨gg, 0, none⟩) (m + 1) cap8)).heap[w.heap.size + 1]? = _ := (Below.heap_setCell w3 ⟨w.heap.size, 4, none⟩ (.slice (some ⟨gg, 0, none⟩) (m + 1) cap8) (w.heap.size + 1) (show w.heap.size + 1 ≠ w.heap.size by omega)).trans e1
        obtain ⟨⟨r0, r1, r2, r3, r4, r5⟩, ⟨f0, f1, f2, f3, f4, f5⟩⟩ := six_cells e0
        obtain ⟨⟨p0, p1, p2, p3, p4, p5⟩, _⟩ := six_cells e2
        obtain ⟨⟨m0, m1, m2, m3, m4, m5⟩, ⟨n0, n1, n2, n3, n4, n5⟩⟩ := six_cells e3
        obtain ⟨⟨z0, z1, z2, z3, z4, z5⟩, _⟩ := six_cells (set6_block e3 (.int .i64 o.r3.a) (.int .i64 o.r3.b) (.int .i64 o.r3.c) (.slice al N cl) (.slice (some ⟨gg, 0, none⟩) (m + 1) cap8) (.bool false))
        have Z0 := Hid.mk z0
        have Z1 := Hid.mk z1
        have Z2 := Hid.mk z2
        have Z3 := Hid.mk z3
        have Z4 := Hid.mk z4
        have Z5 := Hid.mk z5
        have HBF := Hid.mk (HBW.out.trans (HB3.out.mono HBW.out.size))
        have BF := Hid.mk (set6_below (b := w.heap.size + 1) (HBF.out.setCell (p := ⟨w.heap.size, 4, none⟩) (Nat.le_refl _) (.slice (some ⟨gg, 0, none⟩) (m + 1) cap8)) (by omega) (.int .i64 o.r3.a) (.int .i64 o.r3.b) (.int .i64 o.r3.c) (.slice al N cl) (.slice (some ⟨gg, 0, none⟩) (m + 1) cap8) (.bool false))
        have HE : Hid (DW (More S w) (set6 (w3.setCell ⟨w.heap.size, 4, none⟩ (.slice (some ⟨gg, 0, none⟩) (m + 1) cap8)) (w.heap.size + 1) (.int .i64 o.r3.a) (.int .i64 o.r3.b) (.int .i64 o.r3.c) (.slice al N cl) (.slice (some ⟨gg, 0, none⟩) (m + 1) cap8) (.bool false)) (.slice al N cl) (.slice (some ⟨gg, 0, none⟩) (m + 1) cap8) L (q ++ [y])) := Hid.mk (by
          refine ⟨(HD.out.more BF.out).rows, own_ints (B := wr.heap.size) ?_ (fun k hk => .inr (by omega))⟩
          rw [List.length_append, List.length_singleton, ← HM.out]
          have e1 : intCs (q ++ [y]) = intCs q ++ [.int .i64 y] := by simp [intCs]
          rw [e1]
          exact own_after hown3 (by omega) hg1 _ _ _ _ _ _)
        clear z0 z1 z2 z3 z4 z5 e0 e1 e2 e3 hown3 hgrow3 c92
        go_wp2
        refine bodyPost_ret (v := wV o.r3 (.slice al N cl) (.slice (some ⟨gg, 0, none⟩) (m + 1) cap8) false) ?_ rfl ⟨.slice (some ⟨gg, 0, none⟩) (m + 1) cap8, by rw [HON.out], by rw [HON.out]; exact HE.out, BF.out⟩
        simp [results, Try.results40, go_sem, Z0.out, Z1.out, Z2.out, Z3.out, Z4.out, Z5.out]
      · have HA2 : Hid (∀ j z, j < i + 1 → (lev o L q)[j]? = some z → z < n) := Hid.mk (fun j z hj hz => by
          by_cases e : j = i
          · subst e; rw [HY.out] at hz; obtain rfl := Option.some.inj hz; omega
          · exact HA.out j z (by omega) hz)
        have hny2 : y < n := by omega
        go_wp2
        go_roundw
        case rel => exact ⟨i + 1, by go_num, by omega, HA2.out, trivial⟩
        case measure => simp [intOf]; omega
    · have hikI : ¬ (i : Int) < (K : Int) := by omega
      have HON : Hid (onTo o L (q ++ [x]) n = ⟨q ++ [x], true⟩) := Hid.mk (onTo_none (fun j z hj hz => HA.out j z (by rw [← HK.out] at hj; omega) hz))
      have e0 := E0.out
      have e1 := E1.out
      have e2 := six_set5 e0 (.bool true)
      have e3 : (wr.setCell ⟨w.heap.size, 5, none⟩ (.bool true)).heap[w.heap.size + 1]? = _ := (Below.heap_setCell wr ⟨w.heap.size, 5, none⟩ (.bool true) (w.heap.size + 1) (show w.heap.size + 1 ≠ w.heap.size by omega)).trans e1
      obtain ⟨_, ⟨f0, f1, f2, f3, f4, f5⟩⟩ := six_cells e0
      obtain ⟨⟨p0, p1, p2, p3, p4, p5⟩, _⟩ := six_cells e2
      obtain ⟨⟨m0, m1, m2, m3, m4, m5⟩, ⟨n0, n1, n2, n3, n4, n5⟩⟩ := six_cells e3
      obtain ⟨⟨z0, z1, z2, z3, z4, z5⟩, _⟩ := six_cells (set6_block e3 (.int .i64 o.r3.a) (.int .i64 o.r3.b) (.int .i64 o.r3.c) (.slice al N cl) (.slice aa (m + 1) ca) (.bool true))
      have Z0 := Hid.mk z0
      have Z1 := Hid.mk z1
      have Z2 := Hid.mk z2
      have Z3 := Hid.mk z3
      have Z4 := Hid.mk z4
      have Z5 := Hid.mk z5
      have BF := Hid.mk (set6_below (b := w.heap.size + 1) (HBW.out.setCell (p := ⟨w.heap.size, 5, none⟩) (Nat.le_refl _) (.bool true)) (by omega) (.int .i64 o.r3.a) (.int .i64 o.r3.b) (.int .i64 o.r3.c) (.slice al N cl) (.slice aa (m + 1) ca) (.bool true))
      have HE := Hid.mk (HD.out.more BF.out)
      clear z0 z1 z2 z3 z4 z5 e0 e1 e2 e3
      go_wp2
      refine bodyPost_ret (v := wV o.r3 (.slice al N cl) (.slice aa (m + 1) ca) true) ?_ rfl ⟨.slice aa (m + 1) ca, by rw [HON.out], by rw [HON.out]; exact HE.out, BF.out⟩
      simp [results, Try.results40, go_sem, Z0.out, Z1.out, Z2.out, Z3.out, Z4.out, Z5.out]
end
end Go.Proofs.Ytfocpjplokabgaa
