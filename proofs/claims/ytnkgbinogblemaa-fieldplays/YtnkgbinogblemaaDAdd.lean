/- A packet is put under way: add, Send, Copy. -/
import Derived.Test.YtnkgbinogblemaaDState
import Derived.Deep.RegionLaw
namespace Go.Proofs.Ytnkgbinogblemaa
open Go.RowKit

theorem four_set0 {w : World} {b : Nat} {c0 c1 c2 c3 v : Value} {t : TypeId} (h : w.heap[b]? = some (.cells #[c0, c1, c2, c3] t (0, 0))) : (w.setCell ⟨b, 0, none⟩ v).heap[b]? = some (.cells #[v, c1, c2, c3] t (0, 0)) := by simp [World.setCell, Array.getElem?_modify, h]
theorem idCs_snoc (l : List Pk) (p : Pk) : idCs (l ++ [p]) = idCs l ++ [.int .i64 (p.id : Int)] := by simp [idCs]

set_option maxRecDepth 100000 in
set_option maxHeartbeats 1000000 in
theorem full_any {w : World} {b mb : Nat} {l : List Pk} (hb : w.cell? ⟨b, 3, none⟩ = some (.map (some mb))) (h : MP w mb l) (hl : l.length < 16384) :
    Calls Try.prog 24 #[.pointer (some ⟨b, 0, none⟩)] w fun e w' => e = .returned (.bool false) ∧ w' = w := by
  obtain ⟨D, h1, h2, h3, h4⟩ := h
  obtain ⟨n, hn⟩ : ∃ n, l.length = n := ⟨_, rfl⟩
  rw [hn] at h4 hl
  have H1 := Hid.mk h1
  have H4 := Hid.mk h4
  have hl2 : ¬ (16384 : Int) ≤ (n : Int) := by omega
  clear h1 h2 h3 h4 hn
  go_enter Try.func24, Try.ntmps24
  go_wp2_with (at_len; refine wpList_len_own _ rfl _ 59 rfl 3 40 Try.underlying59 pkE mb _ D rfl H1.out ?_; rw [H4.out])
  go_ret
  exact ⟨rfl, rfl⟩

set_option maxRecDepth 100000 in
set_option maxHeartbeats 2000000 in
theorem add_any {S : Nat → Prop} {w : World} {b : Nat} {f : Fd} (hF : FB S w b f) (hS : Low S w) (p : Pk) (hp : PkOk f.nodes p) (hl : f.last < 100000) :
    Calls Try.prog 25 #[.pointer (some ⟨b, 0, none⟩), encP p] w fun e w' => e = .returned (.int .i64 ((f.last + 1 : Nat) : Int)) ∧ FB S w' b (f.add p) ∧ Fr S w w' := by
  have HOK := Hid.mk (hF.ok.add hp)
  have hlen := hF.ok.len
  obtain ⟨mb, vi, h⟩ := hF
  have HIDS : Hid (∀ q ∈ f.l, q.id ≠ f.last + 1) := Hid.mk (fun q hq => by have := h.ok.id2 q hq; omega)
  obtain ⟨i0, hi0, hz0, hz1, hz2⟩ := info_parts infoZ
  obtain ⟨z, hz⟩ : ∃ z, z = f.last + 1 := ⟨_, rfl⟩
  obtain ⟨n, hn⟩ : ∃ n, n = f.l.length := ⟨_, rfl⟩
  have hzl : z ≤ 100000 := by omega
  have hnl : n ≤ 100000 := by omega
  have HZ : Hid ((f.last : Int) + 1 = (z : Int)) := Hid.mk (by omega)
  have hbs := lt_of_block h.blk
  have k0 := h.blk
  have hne : b ≠ w.heap.size := by omega
  obtain ⟨bs, hbs0⟩ : ∃ bs : ByteArray, bs = ⟨p.bs.toArray⟩ := ⟨_, rfl⟩
  have HBS := Hid.mk hbs0
  have HPK : Hid (pkE (.agg #[.int .i64 (z : Int), .int .i64 p.fr, .int .i64 p.to, .string bs]) = some (datP { p with id := z }, [])) := Hid.mk (by rw [hbs0]; exact pkE_mk { p with id := z })
  unfold encP
  rw [← hbs0]
  -- the world behind the two stores
  obtain ⟨Wa, hWa⟩ : ∃ Wa, Wa = w.setCell ⟨b, 2, none⟩ (.int .i64 (z : Int)) := ⟨_, rfl⟩
  have za : Wa.heap.size = w.heap.size := by rw [hWa]; simp
  have ka : Wa.heap[b]? = some (.cells #[.pointer (some ⟨b, 0, none⟩), .int .i64 (f.nodes : Int), .int .i64 (z : Int), .map (some mb), vi] 61 (0, 0)) := by rw [hWa]; exact five_set2 k0
  have oa : Wa.ownsRow 0 3 1 vi n (idCs f.l) := by rw [hWa, hn]; exact owns_setAt h.ids k0 (by decide)
  obtain ⟨D, m0, m2, m3, m4⟩ := h.map
  rw [← hn] at m0
  have ma : Wa.ownsMap Try.prog 3 pkE mb n D := by rw [hWa]; exact m0.setCell (a := ⟨b, 2, none⟩) (blk_ne_map k0 m0) _
  have Fa : Fr S w Wa := by rw [hWa]; exact (Fr.refl S w).setCell h.out _
  obtain ⟨W1, hW1⟩ : ∃ W1, W1 = Wa.alloc (.cells #[.int .i64 (z : Int), .int .i64 p.fr, .int .i64 p.to, .string bs] 40) := ⟨_, rfl⟩
  have b0 : Below Wa.heap.size Wa W1 := by rw [hW1]; exact (Below.refl _ _).alloc (Nat.le_refl _) _
  have k2 := (b0.block b (lt_of_block ka)).trans ka
  have q2 : W1.heap[w.heap.size]? = some (.cells #[.int .i64 (z : Int), .int .i64 p.fr, .int .i64 p.to, .string bs] 40) := by rw [hW1, ← za]; exact box_at Wa _
  have o1 := owns_below oa b0
  have m1 : W1.ownsMap Try.prog 3 pkE mb n D := map_key ma (fun o ho => (b0.block mb ma.lt).trans ho)
  have F1 : Fr S w W1 := Fa.next hS b0
  have e1 : (w.setCell ⟨b, 2, none⟩ (.int .i64 (z : Int))).cell? ⟨b, 2, none⟩ = some (.int .i64 (z : Int)) := by rw [← hWa]; exact (five_cells ka).1.2.2.1
  have HM := Hid.mk (And.intro (m1.tidy lawI) (And.intro m2 (And.intro m3 m4)))
  have HM1 := Hid.mk m1
  have HO1 := Hid.mk o1
  have HK2 := Hid.mk k2
  have HQ2 := Hid.mk q2
  have HF1 := Hid.mk F1
  have HS := Hid.mk hS
  have HH := Hid.mk h
  have HZF := Hid.mk hz
  have HWE : Hid ((w.setCell ⟨b, 2, none⟩ (.int .i64 (z : Int))).alloc (.cells #[.int .i64 (z : Int), .int .i64 p.fr, .int .i64 p.to, .string bs] 40) = W1) := Hid.mk (by rw [hW1, hWa])
  have HN := Hid.mk hn
  have HKY := Hid.mk (keyI (wf_small (k := z) (by omega)))
  obtain ⟨ao, cap, rfl⟩ := own_slice o1
  obtain ⟨⟨g0, g1, g2, g3, g4⟩, ⟨f0, f2, f4⟩⟩ := five_cells k0
  obtain ⟨la, hla⟩ : ∃ la : Int, la = (f.last : Int) := ⟨_, rfl⟩
  rw [← hla] at g2 HZ
  have hla2 : 0 ≤ la ∧ la ≤ 100000 := by omega
  obtain ⟨hla3, hla4⟩ := hla2
  obtain ⟨pid, hpid⟩ : ∃ x : Int, x = (p.id : Int) := ⟨_, rfl⟩
  rw [← hpid]
  clear h hz hn m0 m1 m2 m3 m4 o1 k0 k2 q2 F1 b0 hlen hW1 hp hS g0 g1 g3 g4 f0 f4 hbs0 ka oa ma Fa hWa hla hpid za
  go_enter Try.func25, Try.ntmps25
  go_wp2_with fail
  rw [HZ.out, HWE.out]
  have HNE : Hid (w.heap.size ≠ b) := Hid.mk (fun e => hne e.symm)
  clear g2 f2 e1 hbs hne
  obtain ⟨⟨g0, g1, g2, g3, g4⟩, -⟩ := five_cells HK2.out
  obtain ⟨⟨x0, x1, x2, x3⟩, -⟩ := four_cells HQ2.out
  have hrow : ∀ u : World, u.heap = W1.heap → u.ownsMap Try.prog 3 pkE mb n D := fun u hu => map_key HM1.out (fun o ho => by rw [hu]; exact ho)
  have HROW := Hid.mk hrow
  clear hrow
  obtain ⟨w3, hrun3, hown3, hturn3⟩ := (HROW.out W1.drew rfl).store lawI Try.underlying59 (by unfold maxLen; omega) HKY.out HPK.out
  have HO3 := Hid.mk hown3
  have HT3 := Hid.mk hturn3
  clear hown3 hturn3
  go_region
  have HG3 : Hid (W1.grownBy w3 (some mb)) := Hid.mk ⟨HT3.out.grown.os, HT3.out.grown.tape, HT3.out.grown.output, HT3.out.grown.size, HT3.out.grown.block⟩
  clear hrun3 g0 g1 g2 g3 g4 x0 x1 x2 x3
  have k3 := blk_grown HK2.out HG3.out (fun e => blk_ne_map HK2.out HM1.out (Option.some.inj e))
  have q3 := blk_grown HQ2.out HG3.out (fun e => blk_ne_map HQ2.out HM1.out (Option.some.inj e))
  have o3 := owns_grown HO1.out HG3.out (fun g e => by rw [← e]; exact own_ne_map HO1.out HM1.out)
  have F3 := Hid.mk (HF1.out.grown HS.out HG3.out (fun g e => by rw [← Option.some.inj e]; exact HH.out.outm))
  have ba : Below w3.heap.size w3 (w3.alloc (.cells #[.int .i64 (z : Int)] 3)).drew := below_drewN ((Below.refl _ _).alloc (Nat.le_refl _) _) 1
  have KA : Hid ((w3.alloc (.cells #[.int .i64 (z : Int)] 3)).drew.heap[b]? = _) := Hid.mk ((ba.block b (lt_of_block k3)).trans k3)
  have OA : Hid ((w3.alloc (.cells #[.int .i64 (z : Int)] 3)).drew.ownsRow 0 3 1 (.slice ao n cap) n (idCs f.l)) := Hid.mk (owns_below o3 ba)
  have MA : Hid ((w3.alloc (.cells #[.int .i64 (z : Int)] 3)).drew.ownsMap Try.prog 3 pkE mb (n + 1) (D.put (.int .i64 (z : Int)) (datP { p with id := z }))) := Hid.mk (map_key HO3.out (fun o ho => (ba.block mb HO3.out.lt).trans ho))
  have FA : Hid (Fr S w (w3.alloc (.cells #[.int .i64 (z : Int)] 3)).drew) := Hid.mk (F3.out.next HS.out ba)
  have HNW : Hid (∀ j u, [Value.int .i64 (z : Int)][j]? = some u → (w3.alloc (.cells #[.int .i64 (z : Int)] 3)).drew.cell? ((⟨w3.heap.size, 0, none⟩ : Addr).add j) = some u) := Hid.mk (World.news_of_block (cs := #[.int .i64 (z : Int)]) (t := 3) (fr := (0, 0)) (by exact heap_alloc_new w3 _))
  have HLT3 : Hid (w.heap.size < w3.heap.size) := Hid.mk (lt_of_block q3)
  have QA : Hid ((w3.alloc (.cells #[.int .i64 (z : Int)] 3)).drew.heap[w.heap.size]? = _) := Hid.mk ((ba.block w.heap.size (lt_of_block q3)).trans q3)
  have e1 : (IntKind.i64.wrap ((n : Int) + 1)) = ((n + 1 : Nat) : Int) := by rw [IntKind.wrap_i64]; omega
  obtain ⟨⟨g0, g1, g2, g3, g4⟩, ⟨f0, f2, f4⟩⟩ := five_cells k3
  obtain ⟨⟨x0, x1, x2, x3⟩, -⟩ := four_cells q3
  have ga : (w3.alloc (.cells #[.int .i64 (z : Int)] 3)).cell? ⟨b, 4, none⟩ = some (.slice ao n cap) := (five_cells KA.out).1.2.2.2.2
  have xa : (w3.alloc (.cells #[.int .i64 (z : Int)] 3)).cell? ⟨w.heap.size, 0, none⟩ = some (.int .i64 (z : Int)) := (four_cells QA.out).1.1
  clear k3 q3 o3 ba e1 g0 g1 g2 g3 f0 f2 x1 x2 x3
  go_wp2_with fail
  go_region_law (refine step_append_lies _ (by rfl) _ _ _ (by rfl) 0 3 i0 _ 1 8 Try.underlying50 hi0 hz0 hz1 hz2 rfl (by decide) (.slice ao n cap) n _ (by rfl) OA.out ⟨w3.heap.size, 0, none⟩ 1 1 [.int .i64 (z : Int)] (by rfl) (by rfl) HNW.out (by simp [Value.oneCell']) (by decide) (by unfold maxLen; omega) (by omega) (Nat.zero_le _) (w3.heap.size + 1) (by simp) ?_; intro gg cap2 w5 hown5 hgrow5 hat5 hlt5; have k5 := blk_grown KA.out hgrow5 (own_neb OA.out KA.out (by decide)); obtain ⟨-, ⟨-, -, f5⟩⟩ := five_cells k5; have g5 := (five_cells k5).1.2.2.2.2)
  all_goals (
    have q5 := blk_grown QA.out hgrow5 (own_neb OA.out QA.out (by decide))
    have hmap5 := map_key (w' := w5) MA.out (fun o ho => blk_grown ho hgrow5 (own_ne_map OA.out MA.out))
    have F5 : Hid (Fr S w (w5.setCell ⟨b, 4, none⟩ (.slice (some ⟨gg, 0, none⟩) (n + 1) cap2))) := Hid.mk ((FA.out.grown HS.out hgrow5 (fun g e => HH.out.outi g e)).setCell HH.out.out _)
    have x5 : (w5.setCell ⟨b, 4, none⟩ (.slice (some ⟨gg, 0, none⟩) (n + 1) cap2)).cell? ⟨w.heap.size, 0, none⟩ = some (.int .i64 (z : Int)) := (four_cells ((Below.heap_setCell w5 ⟨b, 4, none⟩ _ _ HNE.out).trans q5)).1.1
    have HFIN : Hid (FB S (w5.setCell ⟨b, 4, none⟩ (.slice (some ⟨gg, 0, none⟩) (n + 1) cap2)) b (f.add p)) := Hid.mk (by
      have HOK2 := HOK.out
      unfold Fd.add at HOK2 ⊢
      rw [← HZF.out] at HOK2 ⊢
      refine ⟨mb, _, { blk := five_set4 k5, out := HH.out.out, ids := ?_, outi := ?_, map := ?_, outm := HH.out.outm, ok := HOK2 }⟩
      · simp only
        rw [idCs_snoc, List.length_append, ← HN.out]
        exact owns_setAt hown5 k5 (by decide)
      · intro g hg hk
        have e1 : gg = g := by simpa [Value.ownBlock] using hg
        subst e1
        rcases hat5 with e2 | e2
        · exact HH.out.outi gg e2 hk
        · have := (HS.out.fr F3.out) gg hk
          omega
      · exact mp_put HM.out.1 HM.out.2.1 HM.out.2.2.1 HM.out.2.2.2 (fun q hq => by have := HIDS.out q hq; rw [← HZF.out] at this; exact this) (hmap5.setCell (a := ⟨b, 4, none⟩) (blk_ne_map k5 hmap5) _))
    clear q5 hmap5 hown5 hgrow5 hat5 hlt5 k5 f5 g5 x0 xa ga g4 f4
    go_wp2
    go_ret
    exact ⟨congrArg (fun k : Nat => Ending.returned (.int .i64 (k : Int))) HZF.out, HFIN.out, F5.out⟩)

section
variable {S : Nat → Prop} {w : World} {b : Nat} {f : Fd}
theorem FB.cells (h : FB S w b f) : ∃ mb, (w.cell? ⟨b, 0, none⟩ = some (.pointer (some ⟨b, 0, none⟩)) ∧ w.cell? ⟨b, 1, none⟩ = some (.int .i64 (f.nodes : Int)) ∧ w.cell? ⟨b, 3, none⟩ = some (.map (some mb))) ∧ MP w mb f.l := by
  obtain ⟨mb, vi, h⟩ := h
  obtain ⟨⟨g0, g1, g2, g3, g4⟩, -⟩ := five_cells h.blk
  exact ⟨mb, ⟨g0, g1, g3⟩, h.map⟩
set_option maxRecDepth 100000 in
set_option maxHeartbeats 1000000 in
theorem send_any (h : FB S w b f) (hS : Low S w) (p : Pk) (hp : PkOk f.nodes p) (hi : p.id = 0) (hl : f.last < 10000) :
    Calls Try.prog 10 #[.pointer (some ⟨b, 0, none⟩), .int .i64 p.fr, .int .i64 p.to, .string ⟨p.bs.toArray⟩] w fun e w' => e = .returned (.tuple #[.int .i64 ((f.last + 1 : Nat) : Int), .int .i64 0]) ∧ FB S w' b (f.add p) ∧ Fr S w w' := by
  have hlen := h.ok.len
  obtain ⟨mb, ⟨g0, g1, g3⟩, hm⟩ := h.cells
  have C0 := Hid.mk (given_any b w g0)
  have C1 := Hid.mk (isNode_any b f.nodes p.fr w g1)
  have C2 := Hid.mk (isNode_any b f.nodes p.to w g1)
  rw [decide_eq_true (show isN p.fr f.nodes from ⟨hp.fr0, hp.fr1⟩)] at C1
  rw [decide_eq_true (show isN p.to f.nodes from ⟨hp.to0, hp.to1⟩)] at C2
  have C3 := Hid.mk (full_any g3 hm (by omega))
  have CA := Hid.mk (add_any h hS p hp (by omega))
  unfold encP at CA
  obtain ⟨s, hs⟩ : ∃ s : ByteArray, s = ⟨p.bs.toArray⟩ := ⟨_, rfl⟩
  have hz : s.size = p.bs.length := by rw [hs]; exact size_list _
  have h4 : ¬ (1048640 : Int) < (s.size : Int) := by have := hp.bs; omega
  rw [← hs, hi] at CA
  rw [← hs]
  clear g0 g1 g3 hm h hS hlen hs hz hp hi
  go_enter Try.func10, Try.ntmps10
  go_wp2_with fail
  refine C0.out.mono ?_
  rintro e w1 ⟨rfl, hw⟩
  rw [hw]; clear hw w1
  go_wp2_with fail
  refine C1.out.mono ?_
  rintro e w1 ⟨rfl, hw⟩
  rw [hw]; clear hw w1
  go_wp2_with fail
  refine C2.out.mono ?_
  rintro e w1 ⟨rfl, hw⟩
  rw [hw]; clear hw w1
  go_wp2_with fail
  refine C3.out.mono ?_
  rintro e w1 ⟨rfl, hw⟩
  rw [hw]; clear hw w1
  go_wp2_with fail
  refine CA.out.mono ?_
  rintro e w1 ⟨rfl, hf, hr⟩
  have HF := Hid.mk hf
  have HR := Hid.mk hr
  clear hf hr
  go_wp2
  go_ret2
  exact ⟨rfl, HF.out, HR.out⟩
set_option maxRecDepth 100000 in
set_option maxHeartbeats 1000000 in
theorem send_bad (h : FB S w b f) (fr to : Int) (s : ByteArray) (hno : ¬ (isN fr f.nodes ∧ isN to f.nodes ∧ s.size ≤ 1048640)) :
    Calls Try.prog 10 #[.pointer (some ⟨b, 0, none⟩), .int .i64 fr, .int .i64 to, .string s] w fun e w' => e = .returned (.tuple #[.int .i64 0, .int .i64 1]) ∧ w' = w := by
  obtain ⟨mb, ⟨g0, g1, g3⟩, hm⟩ := h.cells
  have C0 := Hid.mk (given_any b w g0)
  have C1 := Hid.mk (isNode_any b f.nodes fr w g1)
  have C2 := Hid.mk (isNode_any b f.nodes to w g1)
  clear g0 g1 g3 hm h
  by_cases h1 : isN fr f.nodes
  · rw [decide_eq_true h1] at C1
    by_cases h2 : isN to f.nodes
    · rw [decide_eq_true h2] at C2
      have h4 : (1048640 : Int) < (s.size : Int) := by
        have h3 : ¬ s.size ≤ 1048640 := fun h3 => hno ⟨h1, h2, h3⟩
        omega
      clear h1 h2 hno
      go_enter Try.func10, Try.ntmps10
      go_wp2_with fail
      refine C0.out.mono ?_
      rintro e w1 ⟨rfl, hw⟩
      rw [hw]; clear hw w1
      go_wp2_with fail
      refine C1.out.mono ?_
      rintro e w1 ⟨rfl, hw⟩
      rw [hw]; clear hw w1
      go_wp2_with fail
      refine C2.out.mono ?_
      rintro e w1 ⟨rfl, hw⟩
      rw [hw]; clear hw w1
      go_wp2
      go_ret2
      exact ⟨rfl, rfl⟩
    · rw [decide_eq_false h2] at C2
      clear h1 h2 hno
      go_enter Try.func10, Try.ntmps10
      go_wp2_with fail
      refine C0.out.mono ?_
      rintro e w1 ⟨rfl, hw⟩
      rw [hw]; clear hw w1
      go_wp2_with fail
      refine C1.out.mono ?_
      rintro e w1 ⟨rfl, hw⟩
      rw [hw]; clear hw w1
      go_wp2_with fail
      refine C2.out.mono ?_
      rintro e w1 ⟨rfl, hw⟩
      rw [hw]; clear hw w1
      go_wp2
      go_ret2
      exact ⟨rfl, rfl⟩
  · rw [decide_eq_false h1] at C1
    clear h1 hno
    go_enter Try.func10, Try.ntmps10
    go_wp2_with fail
    refine C0.out.mono ?_
    rintro e w1 ⟨rfl, hw⟩
    rw [hw]; clear hw w1
    go_wp2_with fail
    refine C1.out.mono ?_
    rintro e w1 ⟨rfl, hw⟩
    rw [hw]; clear hw w1
    go_wp2
    go_ret2
    exact ⟨rfl, rfl⟩
set_option maxRecDepth 100000 in
set_option maxHeartbeats 1000000 in
theorem copy_not (h : FB S w b f) (k : Int) (hk : (Lit.int .i64 k).wf = true) (hno : ¬ ∃ p ∈ f.l, (p.id : Int) = k) (hl : f.last < 10000) :
    Calls Try.prog 14 #[.pointer (some ⟨b, 0, none⟩), .int .i64 k] w fun e w' => e = .returned (.tuple #[.int .i64 0, .int .i64 3]) ∧ Below w.heap.size w w' := by
  have hlen := h.ok.len
  obtain ⟨mb, ⟨g0, g1, g3⟩, hm⟩ := h.cells
  have C0 := Hid.mk (given_any b w g0)
  have C3 := Hid.mk (full_any g3 hm (by omega))
  have hrun := hm.look_no hk hno
  unfold encP pk0 at hrun
  have HB : Hid (∀ o, Below w.heap.size w (w.alloc o)) := Hid.mk (fun o => (Below.refl _ _).alloc (Nat.le_refl _) o)
  clear h hlen g0 g1 hno hk hm
  go_enter Try.func14, Try.ntmps14
  go_wp2_with fail
  refine C0.out.mono ?_
  rintro e w1 ⟨rfl, hw⟩
  rw [hw]; clear hw w1
  go_wp2_with fail
  refine C3.out.mono ?_
  rintro e w1 ⟨rfl, hw⟩
  rw [hw]; clear hw w1
  go_wp2
  go_ret2
  exact ⟨rfl, HB.out _⟩
set_option maxRecDepth 100000 in
set_option maxHeartbeats 1000000 in
theorem copy_any (h : FB S w b f) (hS : Low S w) {p : Pk} (hp : p ∈ f.l) (hl : f.last < 10000) :
    Calls Try.prog 14 #[.pointer (some ⟨b, 0, none⟩), .int .i64 (p.id : Int)] w fun e w' => e = .returned (.tuple #[.int .i64 ((f.last + 1 : Nat) : Int), .int .i64 0]) ∧ FB S w' b (f.add p) ∧ Fr S w w' := by
  have hlen := h.ok.len
  have hpk := h.ok.pk p hp
  have hid := h.ok.id2 p hp
  obtain ⟨mb, ⟨g0, g1, g3⟩, hm⟩ := h.cells
  have C0 := Hid.mk (given_any b w g0)
  have C3 := Hid.mk (full_any g3 hm (by omega))
  have hrun := hm.look hp (by omega)
  unfold encP at hrun
  have hb1 : Below w.heap.size w (w.alloc (.cells #[.int .i64 (p.id : Int), .int .i64 p.fr, .int .i64 p.to, .string ⟨p.bs.toArray⟩] 40)) := (Below.refl _ _).alloc (Nat.le_refl _) _
  have F1 := Hid.mk (fr_below hS hb1)
  have CA := Hid.mk (add_any (h.below hb1) (hS.below hb1) p hpk (by omega))
  unfold encP at CA
  obtain ⟨s, hs⟩ : ∃ s : ByteArray, s = ⟨p.bs.toArray⟩ := ⟨_, rfl⟩
  rw [← hs] at CA hrun F1
  obtain ⟨k, hk⟩ : ∃ k : Int, k = (p.id : Int) := ⟨_, rfl⟩
  rw [← hk] at CA hrun F1 ⊢
  clear g0 g1 hm h hS hlen hs hp hk hpk hid hb1
  go_enter Try.func14, Try.ntmps14
  go_wp2_with fail
  refine C0.out.mono ?_
  rintro e w1 ⟨rfl, hw⟩
  rw [hw]; clear hw w1
  go_wp2_with fail
  refine C3.out.mono ?_
  rintro e w1 ⟨rfl, hw⟩
  rw [hw]; clear hw w1
  go_wp2_with fail
  refine CA.out.mono ?_
  rintro e w1 ⟨rfl, hf, hr⟩
  have HF := Hid.mk hf
  have HR := Hid.mk (F1.out.trans hr)
  clear hf hr
  go_wp2
  go_ret2
  exact ⟨rfl, HF.out, HR.out⟩
end
end Go.Proofs.Ytnkgbinogblemaa
