/- Apply of the document. -/
import Derived.Test.YtiabnjjdeikefaaSRef7
namespace Go.Proofs.Ytiabnjjdeikefaa
open Go.RowKit

theorem one_cell {w : World} {b : Nat} {c0 : Value} {t : TypeId} (h : w.heap[b]? = some (.cells #[c0] t (0, 0))) : w.cell? ⟨b, 0, none⟩ = some c0 ∧ w.frozen? ⟨b, 0, none⟩ = false := by
  simp [World.cell?, World.frozen?, h]
theorem two_boxes {w W1 u : World} {v x : Value} {y z : TypeId} (hW1 : W1 = (w.alloc (.cells #[v] y)).alloc (.cells #[x] z)) (hb : Below W1.heap.size W1 u) :
    (u.cell? ⟨w.heap.size, 0, none⟩ = some v ∧ u.frozen? ⟨w.heap.size, 0, none⟩ = false) ∧ (u.cell? ⟨w.heap.size + 1, 0, none⟩ = some x ∧ u.frozen? ⟨w.heap.size + 1, 0, none⟩ = false) := by
  have h1 : W1.heap[w.heap.size]? = some (.cells #[v] y) := by
    rw [hW1, Below.heap_alloc _ _ _ (by simp)]; exact box_at w _
  have h2 : W1.heap[w.heap.size + 1]? = some (.cells #[x] z) := by
    have := box_at (w.alloc (.cells #[v] y)) (.cells #[x] z)
    rw [show (w.alloc (.cells #[v] y)).heap.size = w.heap.size + 1 by simp] at this
    rw [hW1]; exact this
  exact ⟨one_cell ((hb.block _ (lt_of_block h1)).trans h1), one_cell ((hb.block _ (lt_of_block h2)).trans h2)⟩
theorem infoLL : (Try.prog.info? 34).map (fun i => (i.zero, i.size, i.bytes)) = some (some (.slice none 0 0), 1, 24) := by kernel_rfl
theorem one_csT {S : Nat → Prop} {w : World} {v : Value} {ps : List (Value × List Tri)} (h : RAll S w v ps) : ∀ u ∈ ps.flatMap csT, u.oneCell' = true := by
  intro u hu
  obtain ⟨p, hp, hu⟩ := List.mem_flatMap.1 hu
  rw [List.mem_singleton] at hu
  subst hu
  obtain ⟨ao, cap, e⟩ := (h.lists p hp).sl.slice
  rw [e]; rfl
set_option maxHeartbeats 8000000 in
set_option maxRecDepth 100000 in
theorem rApply_any {S : Nat → Prop} {w : World} {v vb : Value} {ps : List (Value × List Tri)} {bt : List Chg} (h : RAll S w v ps) (hb : ChgsA w vb bt) (hl : ps.length ≤ 1000) (h1 : 1 ≤ ps.length) (hw : ∀ p ∈ ps, p.2.length ≤ 4096) (ver : Int) :
    Calls Try.prog 14 #[.agg #[v], .int .i64 ver, vb] w fun e w' => ∃ v' ps', e = .returned (.tuple #[.agg #[v'], .int .i64 (apE (ps.map (·.2)) ver bt : Int)]) ∧ RAll (Plus S w.heap.size w'.heap.size) w' v' ps' ∧ ps'.map (·.2) = apA (ps.map (·.2)) ver bt ∧ Below w.heap.size w w' := by
  obtain ⟨i0, hi0, hz0, hz1, hz2⟩ := info_parts infoLL
  have H1 := Hid.mk h
  have H2 := Hid.mk hb
  have HWD := Hid.mk hw
  obtain ⟨W1, hW1⟩ : ∃ W1, W1 = (w.alloc (.cells #[v] 30)).alloc (.cells #[.slice none 0 0] 30) := ⟨_, rfl⟩
  have hs1 : W1.heap.size = w.heap.size + 2 := by rw [hW1]; simp
  have hb1 : Below w.heap.size w W1 := by
    have b0 : Below w.heap.size w (w.alloc (.cells #[v] 30)) := (Below.refl _ _).alloc (Nat.le_refl _) _
    rw [hW1]; exact b0.alloc b0.size _
  have HBX : Hid (∀ u, Below W1.heap.size W1 u → (u.cell? ⟨w.heap.size, 0, none⟩ = some v ∧ u.frozen? ⟨w.heap.size, 0, none⟩ = false) ∧ (u.cell? ⟨w.heap.size + 1, 0, none⟩ = some (.slice none 0 0) ∧ u.frozen? ⟨w.heap.size + 1, 0, none⟩ = false)) := Hid.mk (fun u hu => two_boxes hW1 hu)
  have HW1 := Hid.mk hW1
  have HB1 := Hid.mk hb1
  have HS1 := Hid.mk hs1
  have CM := Hid.mk (rMay_any (hb.below hb1))
  obtain ⟨a1, c1, hv1⟩ := h.sl.sl.slice
  obtain ⟨n, hn⟩ : ∃ n, n = ps.length := ⟨_, rfl⟩
  rw [← hn] at hv1 hl h1
  have HN := Hid.mk hn
  subst hv1
  clear hn hW1 hs1 hb1 h hb hw
  have hnm : (ps.map (·.2)).length = n := by rw [List.length_map, ← HN.out]
  by_cases hm : mayT bt = true
  · rw [hm] at CM
    have HM := Hid.mk hm
    by_cases hver : ver = (n : Int)
    · obtain ⟨p, hp⟩ : ∃ p, ps[n - 1]? = some p := ⟨_, List.getElem?_eq_getElem (by rw [← HN.out]; omega)⟩
      have hpm := List.mem_of_getElem? hp
      have hlast : lastT (ps.map (·.2)) = p.2 := by
        have h2 := lastT_at (All := ps.map (·.2)) (by rw [hnm]; exact h1)
        rw [hnm, List.getElem?_map, hp] at h2
        exact (Option.some.inj h2).symm
      have hpl := HWD.out p hpm
      have hbl := mayT_len hm
      have hE : apE (ps.map (·.2)) ver bt = if 4096 < (doneT p.2 bt).length then 2 else 0 := by
        unfold apE
        rw [if_neg (by rw [hm]; simp), if_neg (by rw [hnm]; simpa using hver), hlast]
      have hAA : apA (ps.map (·.2)) ver bt = if 4096 < (doneT p.2 bt).length then ps.map (·.2) else ps.map (·.2) ++ [doneT p.2 bt] := by
        unfold apA
        rw [hE, hlast]
        by_cases h4 : 4096 < (doneT p.2 bt).length
        · rw [if_pos h4, if_pos h4]; rfl
        · rw [if_neg h4, if_neg h4]; rfl
      have hdl : (doneT p.2 bt).length ≤ 5000 := by have := doneT_len bt p.2; omega
      have HC : Hid (∀ u, Below W1.heap.size W1 u → ∃ g1 o1, a1 = some ⟨g1, o1, none⟩ ∧ u.cell? ⟨g1, o1 + (n - 1), none⟩ = some p.1) := Hid.mk (fun u hu => by
        have h2 := (H1.out.sl.sl.below (HB1.out.trans (hu.mono HB1.out.size)))
        obtain ⟨g1, o1, hao, _, _, hc1⟩ := h2.get hp
        refine ⟨g1, o1, hao, ?_⟩
        have := hc1 0 _ rfl
        rw [show o1 + (n - 1) * 1 + 0 = o1 + (n - 1) by omega] at this
        exact this)
      have HPS : Hid (SlC cs3 3 (fun k => S k ∧ k < w.heap.size) w p.1 p.2) := Hid.mk ((H1.out.lists p hpm).sub (fun b hs hl => ⟨hs, hl⟩))
      have HRS : Hid (RAll (fun k => S k ∧ k < w.heap.size) w (.slice a1 n c1) ps) := Hid.mk (H1.out.sub (fun b hs hl => ⟨hs, hl⟩))
      have hj : ∃ j, j = n - 1 := ⟨_, rfl⟩
      obtain ⟨j, hj⟩ := hj
      have hjw : IntKind.i64.wrap ((n : Int) - 1) = (j : Int) := by rw [IntKind.wrap_i64]; omega
      have hjI : (n : Int) - 1 = (j : Int) := by omega
      rw [← hj] at HC hp
      subst hver
      clear hm hp hpm hlast hnm hj
      go_enter Try.func14, Try.ntmps14
      go_wp2_with fail
      rw [← HW1.out]
      refine CM.out.mono ?_
      rintro e w2 ⟨rfl, hb2⟩
      have HB2 := Hid.mk hb2
      obtain ⟨⟨x0, z0⟩, ⟨x1, z1⟩⟩ := HBX.out w2 hb2
      obtain ⟨g1, o1, hao, q0⟩ := HC.out w2 hb2
      subst hao
      have HB2W := Hid.mk (HB1.out.trans (hb2.mono HB1.out.size))
      have CD := Hid.mk (rDone_any (HPS.out.below HB2W.out) (H2.out.below HB2W.out) (by omega))
      clear hb2 CM
      go_wp2_with fail
      refine CD.out.mono ?_
      rintro e w3 ⟨v3, rfl, hr3, hb3⟩
      have HB3 := Hid.mk (HB2.out.trans (hb3.mono HB2.out.size))
      have HB3W := Hid.mk (HB1.out.trans (HB3.out.mono HB1.out.size))
      have HR3 : Hid (SlC cs3 3 (fun k => (S k ∧ k < w.heap.size) ∨ (w.heap.size + 2 ≤ k ∧ k < w3.heap.size)) w3 v3 (doneT p.2 bt)) := Hid.mk (hr3.sub (fun b hb hl => by
        rcases hb with hb | hb
        · exact .inl hb
        · exact .inr ⟨by have := HB2.out.size; have := HS1.out; omega, hl⟩))
      obtain ⟨a3, c3, hv3⟩ := hr3.sl.slice
      subst hv3
      obtain ⟨nd, hnd⟩ : ∃ nd, nd = (doneT p.2 bt).length := ⟨_, rfl⟩
      rw [← hnd] at hE hAA hdl HR3 ⊢
      have HND := Hid.mk hnd
      have HE := Hid.mk hE
      have HAA := Hid.mk hAA
      clear hr3 hb3 hE hAA hnd x0 z0 x1 z1 q0 CD
      obtain ⟨⟨x0, z0⟩, ⟨x1, z1⟩⟩ := HBX.out w3 HB3.out
      by_cases h4 : 4096 < nd
      · have h4I : (4096 : Int) < (nd : Int) := by omega
        have HE2 : Hid (apE (ps.map (·.2)) (n : Int) bt = 2) := Hid.mk (by rw [HE.out, if_pos h4])
        have HA2 : Hid (apA (ps.map (·.2)) (n : Int) bt = ps.map (·.2)) := Hid.mk (by rw [HAA.out, if_pos h4])
        have k0 : (w3.setCell ⟨w.heap.size + 1, 0, none⟩ (.slice (some ⟨g1, o1, none⟩) n c1)).cell? ⟨w.heap.size + 1, 0, none⟩ = some (.slice (some ⟨g1, o1, none⟩) n c1) := World.cell?_setCell_same _ _ _ x1
        have HBF : Hid (Below w.heap.size w (w3.setCell ⟨w.heap.size + 1, 0, none⟩ (.slice (some ⟨g1, o1, none⟩) n c1))) := Hid.mk (HB3W.out.setCell (p := ⟨w.heap.size + 1, 0, none⟩) (by simp) _)
        have HRF := Hid.mk (H1.out.plus HBF.out)
        go_wp2
        obtain ⟨WF, hWF⟩ : ∃ WF, WF = w3.setCell ⟨w.heap.size + 1, 0, none⟩ (.slice (some ⟨g1, o1, none⟩) n c1) := ⟨_, rfl⟩
        rw [← hWF] at k0 HBF HRF ⊢
        refine bodyPost_ret (v := .tuple #[.agg #[(.slice (some ⟨g1, o1, none⟩) n c1)], .int .i64 2]) ?_ rfl ⟨_, ps, by rw [HE2.out]; rfl, HRF.out, HA2.out.symm, HBF.out⟩
        simp [results, Try.results14, go_sem, k0]
      · have h4I : ¬ (4096 : Int) < (nd : Int) := by omega
        have HE2 : Hid (apE (ps.map (·.2)) (n : Int) bt = 0) := Hid.mk (by rw [HE.out, if_neg h4])
        have HA2 : Hid (apA (ps.map (·.2)) (n : Int) bt = ps.map (·.2) ++ [doneT p.2 bt]) := Hid.mk (by rw [HAA.out, if_neg h4])
        have HR3S := Hid.mk (H1.out.below HB3W.out)
        clear h4
        go_wp2_with (at_builtin; refine wpList_append_many rfl _ _ rfl Try.underlying28 hi0 hz0 hz1 hz2 rfl (by decide) (by rfl) (World.ownsRow_nil _ w3.heap.size _ _) (some ⟨g1, o1, none⟩) (ps.flatMap csT) n c1 (by rfl) (by rw [flat_len csT_len, ← HN.out]) HR3S.out.sl.none_ (HR3S.out.sl.cells csT_len (by decide)) (one_csT HR3S.out) ?c1 ?c2 (Nat.le_refl _) ?_)
        case c1 => unfold maxLen; omega
        case c2 => omega
        intro v4 w4 hown4 hgrow4
        have HB4 : Hid (Below w3.heap.size w3 w4) := Hid.mk (Below.grown (Below.refl _ _) hgrow4 (Nat.le_refl _) (fun k hk => by cases hk))
        obtain ⟨a4, c4, rfl⟩ := own_slice hown4
        have HO4 := Hid.mk hown4
        obtain ⟨⟨x0, z0⟩, ⟨x1, z1⟩⟩ := HBX.out w4 (HB3.out.trans (HB4.out.mono HB3.out.size))
        clear hown4 hgrow4
        go_wp2_with (at_builtin; refine wpList_append_lies _ rfl _ _ _ rfl w3.heap.size 34 i0 _ 1 24 Try.underlying28 hi0 hz0 hz1 hz2 rfl (by decide) (.slice a4 n c4) _ _ (by rfl) (HO4.out.alloc _) ⟨w4.heap.size, 0, none⟩ 1 1 [.slice a3 nd c3] (by rfl) (by rfl) ?d1 ?d2 (by decide) ?d3 ?d4 ?d5 (w4.heap.size + 1) (by simp) ?_)
        case d1 => exact World.news_of_block (cs := #[.slice a3 nd c3]) (t := 34) (fr := (0, 0)) (heap_alloc_new w4 _)
        case d2 => simp [Value.oneCell']
        case d3 => unfold maxLen; omega
        case d4 => omega
        case d5 => have := HB4.out.size; simp; omega
        intro g5 cap5 w5 hown5 hgrow5 _ _
        have HB5 : Hid (Below w3.heap.size w3 w5) := Hid.mk ((HB4.out.alloc HB4.out.size _).grown hgrow5 (by have := HB4.out.size; simp; omega) (fun k hk => (HO4.out.lt k hk).1))
        obtain ⟨⟨y0, f0⟩, ⟨y1, f1⟩⟩ := HBX.out w5 (HB3.out.trans (HB5.out.mono HB3.out.size))
        have HO5 := Hid.mk hown5
        clear hown5 hgrow5 x0 z0 x1 z1
        have k0 : (w5.setCell ⟨w.heap.size, 0, none⟩ (.slice (some ⟨g5, 0, none⟩) (n + 1) cap5)).cell? ⟨w.heap.size, 0, none⟩ = some (.slice (some ⟨g5, 0, none⟩) (n + 1) cap5) := World.cell?_setCell_same _ _ _ y0
        have k1 : (w5.setCell ⟨w.heap.size, 0, none⟩ (.slice (some ⟨g5, 0, none⟩) (n + 1) cap5)).cell? ⟨w.heap.size + 1, 0, none⟩ = some (.slice none 0 0) := (World.cell?_setCell_other _ _ _ _ (by simp)).trans y1
        have k2 : ((w5.setCell ⟨w.heap.size, 0, none⟩ (.slice (some ⟨g5, 0, none⟩) (n + 1) cap5)).setCell ⟨w.heap.size + 1, 0, none⟩ (.slice (some ⟨g5, 0, none⟩) (n + 1) cap5)).cell? ⟨w.heap.size + 1, 0, none⟩ = some (.slice (some ⟨g5, 0, none⟩) (n + 1) cap5) := World.cell?_setCell_same _ _ _ k1
        have HB5W := Hid.mk (HB3W.out.trans (HB5.out.mono HB3W.out.size))
        have HBF : Hid (Below w.heap.size w ((w5.setCell ⟨w.heap.size, 0, none⟩ (.slice (some ⟨g5, 0, none⟩) (n + 1) cap5)).setCell ⟨w.heap.size + 1, 0, none⟩ (.slice (some ⟨g5, 0, none⟩) (n + 1) cap5))) := Hid.mk ((HB5W.out.setCell (p := ⟨w.heap.size, 0, none⟩) (Nat.le_refl _) _).setCell (p := ⟨w.heap.size + 1, 0, none⟩) (by simp) _)
        have hsz3 : w.heap.size + 2 ≤ w3.heap.size := by have := HB3.out.size; have := HS1.out; omega
        have HRF : Hid (RAll (Plus S w.heap.size ((w5.setCell ⟨w.heap.size, 0, none⟩ (.slice (some ⟨g5, 0, none⟩) (n + 1) cap5)).setCell ⟨w.heap.size + 1, 0, none⟩ (.slice (some ⟨g5, 0, none⟩) (n + 1) cap5)).heap.size) ((w5.setCell ⟨w.heap.size, 0, none⟩ (.slice (some ⟨g5, 0, none⟩) (n + 1) cap5)).setCell ⟨w.heap.size + 1, 0, none⟩ (.slice (some ⟨g5, 0, none⟩) (n + 1) cap5)) (.slice (some ⟨g5, 0, none⟩) (n + 1) cap5) (ps ++ [(.slice a3 nd c3, doneT p.2 bt)])) := Hid.mk (by
          have hsame : ∀ k, k ≠ w.heap.size → k ≠ w.heap.size + 1 → ((w5.setCell ⟨w.heap.size, 0, none⟩ (.slice (some ⟨g5, 0, none⟩) (n + 1) cap5)).setCell ⟨w.heap.size + 1, 0, none⟩ (.slice (some ⟨g5, 0, none⟩) (n + 1) cap5)).heap[k]? = w5.heap[k]? := fun k h1 h2 =>
            (Below.heap_setCell _ ⟨w.heap.size + 1, 0, none⟩ _ k h2).trans (Below.heap_setCell _ ⟨w.heap.size, 0, none⟩ _ k h1)
          refine ⟨?_, fun q hq => ?_⟩
          · have h2 := HO5.out
            rw [show ps.flatMap csT ++ [.slice a3 nd c3] = (ps ++ [(Value.slice a3 nd c3, doneT p.2 bt)]).flatMap csT by simp [List.flatMap_append]] at h2
            refine (own_slc csT_len h2 (by rw [List.length_append, ← HN.out]; rfl)).keep (by simp) (fun b hb hl => ⟨.inr ⟨by omega, by simpa using hl⟩, hsame b (by omega) (by omega)⟩)
          · rcases List.mem_append.1 hq with hq | hq
            · exact (H1.out.plus HBF.out).lists q hq
            · rw [List.mem_singleton] at hq
              subst hq
              refine (HR3.out.below HB5.out).keep (by simp) (fun b hb hl => ⟨?_, hsame b (by omega) (by omega)⟩)
              rcases hb with hb | hb
              · exact .inl hb.1
              · exact .inr ⟨by omega, by simpa using hl⟩)
        go_wp2
        obtain ⟨WF, hWF⟩ : ∃ WF, WF = (w5.setCell ⟨w.heap.size, 0, none⟩ (.slice (some ⟨g5, 0, none⟩) (n + 1) cap5)).setCell ⟨w.heap.size + 1, 0, none⟩ (.slice (some ⟨g5, 0, none⟩) (n + 1) cap5) := ⟨_, rfl⟩
        rw [← hWF] at k2 HBF HRF ⊢
        refine bodyPost_ret (v := .tuple #[.agg #[(.slice (some ⟨g5, 0, none⟩) (n + 1) cap5)], .int .i64 0]) ?_ rfl ⟨_, _, by rw [HE2.out]; rfl, HRF.out, by rw [HA2.out, List.map_append]; rfl, HBF.out⟩
        simp [results, Try.results14, go_sem, k2]
    · have hvI : (ver != (n : Int)) = true := by simpa using hver
      have HE2 : Hid (apE (ps.map (·.2)) ver bt = 70) := Hid.mk (by
        unfold apE
        rw [if_neg (by rw [HM.out]; simp), if_pos (by rw [hnm]; exact hver)])
      have HA2 : Hid (apA (ps.map (·.2)) ver bt = ps.map (·.2)) := Hid.mk (by unfold apA; rw [HE2.out]; rfl)
      clear hver hnm hm
      go_enter Try.func14, Try.ntmps14
      go_wp2_with fail
      rw [← HW1.out]
      refine CM.out.mono ?_
      rintro e w3 ⟨rfl, hb2⟩
      obtain ⟨⟨x0, z0⟩, ⟨x1, z1⟩⟩ := HBX.out w3 hb2
      have HB3W := Hid.mk (HB1.out.trans (hb2.mono HB1.out.size))
      have k0 : (w3.setCell ⟨w.heap.size + 1, 0, none⟩ (.slice a1 n c1)).cell? ⟨w.heap.size + 1, 0, none⟩ = some (.slice a1 n c1) := World.cell?_setCell_same _ _ _ x1
      have HBF : Hid (Below w.heap.size w (w3.setCell ⟨w.heap.size + 1, 0, none⟩ (.slice a1 n c1))) := Hid.mk (HB3W.out.setCell (p := ⟨w.heap.size + 1, 0, none⟩) (by simp) _)
      have HRF := Hid.mk (H1.out.plus HBF.out)
      clear hb2 CM
      go_wp2
      obtain ⟨WF, hWF⟩ : ∃ WF, WF = w3.setCell ⟨w.heap.size + 1, 0, none⟩ (.slice a1 n c1) := ⟨_, rfl⟩
      rw [← hWF] at k0 HBF HRF ⊢
      refine bodyPost_ret (v := .tuple #[.agg #[(.slice a1 n c1)], .int .i64 70]) ?_ rfl ⟨_, ps, by rw [HE2.out]; rfl, HRF.out, HA2.out.symm, HBF.out⟩
      simp [results, Try.results14, go_sem, k0]
  · have hm2 : mayT bt = false := by simpa using hm
    rw [hm2] at CM
    have HE2 : Hid (apE (ps.map (·.2)) ver bt = 1) := Hid.mk (by unfold apE; rw [if_pos hm2])
    have HA2 : Hid (apA (ps.map (·.2)) ver bt = ps.map (·.2)) := Hid.mk (by unfold apA; rw [HE2.out]; rfl)
    clear hnm hm hm2
    go_enter Try.func14, Try.ntmps14
    go_wp2_with fail
    rw [← HW1.out]
    refine CM.out.mono ?_
    rintro e w3 ⟨rfl, hb2⟩
    obtain ⟨⟨x0, z0⟩, ⟨x1, z1⟩⟩ := HBX.out w3 hb2
    have HB3W := Hid.mk (HB1.out.trans (hb2.mono HB1.out.size))
    have k0 : (w3.setCell ⟨w.heap.size + 1, 0, none⟩ (.slice a1 n c1)).cell? ⟨w.heap.size + 1, 0, none⟩ = some (.slice a1 n c1) := World.cell?_setCell_same _ _ _ x1
    have HBF : Hid (Below w.heap.size w (w3.setCell ⟨w.heap.size + 1, 0, none⟩ (.slice a1 n c1))) := Hid.mk (HB3W.out.setCell (p := ⟨w.heap.size + 1, 0, none⟩) (by simp) _)
    have HRF := Hid.mk (H1.out.plus HBF.out)
    clear hb2 CM
    go_wp2
    obtain ⟨WF, hWF⟩ : ∃ WF, WF = w3.setCell ⟨w.heap.size + 1, 0, none⟩ (.slice a1 n c1) := ⟨_, rfl⟩
    rw [← hWF] at k0 HBF HRF ⊢
    refine bodyPost_ret (v := .tuple #[.agg #[(.slice a1 n c1)], .int .i64 1]) ?_ rfl ⟨_, ps, by rw [HE2.out]; rfl, HRF.out, HA2.out.symm, HBF.out⟩
    simp [results, Try.results14, go_sem, k0]
end Go.Proofs.Ytiabnjjdeikefaa
