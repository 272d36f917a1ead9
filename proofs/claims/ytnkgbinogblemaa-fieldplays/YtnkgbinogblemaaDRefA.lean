/- The document's field: Arrive. -/
import Derived.Test.YtnkgbinogblemaaDRefS
namespace Go.Proofs.Ytnkgbinogblemaa
open Go.RowKit

theorem up_index {l : List Pk} (h : UpP l) {i j : Nat} {p q : Pk} (hp : l[i]? = some p) (hq : l[j]? = some q) (e : p.id = q.id) : i = j := by
  obtain ⟨h1, rfl⟩ := List.getElem?_eq_some_iff.1 hp
  obtain ⟨h2, rfl⟩ := List.getElem?_eq_some_iff.1 hq
  have key := List.pairwise_iff_getElem.1 h
  rcases Nat.lt_trichotomy i j with hlt | heq | hgt
  · have := key i j h1 h2 hlt; omega
  · exact heq
  · have := key j i h2 h1 hgt; omega
theorem elemP : Try.prog.elem 27 = 40 := by kernel_rfl
theorem sizeP (w : World) : (Go.sizeOf 40).run Try.prog w = .ok 4 w := by kernel_rfl
/-- Three blocks of a call. -/
theorem three_blocks (w : World) (o0 o1 o2 : Obj) : ∃ W, W = ((w.alloc o0).alloc o1).alloc o2 ∧ Below w.heap.size w W ∧ W.heap[w.heap.size]? = some o0 ∧ W.heap[w.heap.size + 1]? = some o1 ∧ W.heap[w.heap.size + 2]? = some o2 := by
  have s1 : (w.alloc o0).heap.size = w.heap.size + 1 := by simp
  have s2 : ((w.alloc o0).alloc o1).heap.size = w.heap.size + 2 := by simp
  have a1 : Below w.heap.size w (w.alloc o0) := (Below.refl _ _).alloc (Nat.le_refl _) _
  have a2 : Below (w.alloc o0).heap.size (w.alloc o0) ((w.alloc o0).alloc o1) := (Below.refl _ _).alloc (Nat.le_refl _) _
  have a3 : Below ((w.alloc o0).alloc o1).heap.size ((w.alloc o0).alloc o1) (((w.alloc o0).alloc o1).alloc o2) := (Below.refl _ _).alloc (Nat.le_refl _) _
  refine ⟨_, rfl, a1.trans ((a2.trans (a3.mono (by omega))).mono (by omega)), ?_, ?_, ?_⟩
  · exact (a3.block _ (by omega)).trans ((a2.block _ (by omega)).trans (box_at w o0))
  · rw [← s1]
    exact (a3.block _ (by omega)).trans (box_at _ o1)
  · rw [← s2]
    exact box_at _ o2
section
variable {S : Nat → Prop} {w : World} {v : Value} {f : Fd}
set_option maxRecDepth 100000 in
set_option maxHeartbeats 1000000 in
theorem rArrive_not (h : DL S w v f.l) (k : Int) (hno : ∀ q ∈ f.l, (q.id : Int) ≠ k) (hl : f.l.length ≤ 100000) :
    Calls Try.prog 13 #[encF f v, .int .i64 k] w fun e w' => e = .returned (.tuple #[encF f v, encP pk0, .int .i64 3]) ∧ Below w.heap.size w w' := by
  obtain ⟨ao, cap, hv⟩ := h.slice
  obtain ⟨m, hm⟩ : ∃ n, n = f.l.length := ⟨_, rfl⟩
  rw [← hm] at hv
  subst hv
  obtain ⟨W, hW, hb, h0, h1, h2⟩ := three_blocks w (.cells #[.int .i64 (f.nodes : Int), .int .i64 (f.last : Int), .slice ao m cap] 29) zF zP
  have CP := Hid.mk (rPlace_any (h.below hb) k hl)
  unfold PlcE encF at CP
  have HB := Hid.mk hb
  have HW := Hid.mk hW
  have H0 := Hid.mk h0
  have H1 := Hid.mk h1
  have H2 := Hid.mk h2
  have HNO := Hid.mk hno
  unfold encF encP pk0
  obtain ⟨nd, hnd⟩ : ∃ x : Int, x = (f.nodes : Int) := ⟨_, rfl⟩
  obtain ⟨la, hla⟩ : ∃ x : Int, x = (f.last : Int) := ⟨_, rfl⟩
  rw [← hnd, ← hla] at HW H0 CP ⊢
  clear h hm hno hnd hla hb hW h0 h1 h2 hl
  go_enter Try.func13, Try.ntmps13
  go_wp2_with fail
  rw [← HW.out]
  refine CP.out.mono ?_
  rintro e w1 ⟨hb1, ⟨rfl, -⟩ | ⟨i, p, rfl, hp, hpk⟩⟩
  · have k0 := (hb1.block _ (lt_of_block H0.out)).trans H0.out
    have k1 := (hb1.block _ (lt_of_block H1.out)).trans H1.out
    have k2 := (hb1.block _ (lt_of_block H2.out)).trans H2.out
    obtain ⟨⟨x0, x1, x2⟩, -⟩ := three_cells k0
    obtain ⟨⟨y0, y1, y2⟩, ⟨z0, z1, z2⟩⟩ := three_cells k1
    obtain ⟨⟨u0, u1, u2, u3⟩, ⟨t0, t1, t2, t3⟩⟩ := four_cells k2
    have k2' : (set3 w1 (w.heap.size + 1) (.int .i64 nd) (.int .i64 la) (.slice ao m cap)).heap[w.heap.size + 2]? = some zP := (set3_other (by omega) _ _ _).trans k2
    obtain ⟨WF, hWF⟩ : ∃ WF, WF = set4 (set3 w1 (w.heap.size + 1) (.int .i64 nd) (.int .i64 la) (.slice ao m cap)) (w.heap.size + 2) (.int .i64 0) (.int .i64 0) (.int .i64 0) (.string ⟨#[]⟩) := ⟨_, rfl⟩
    have hb3 := set3_below (hb1.mono HB.out.size |> HB.out.trans) (b := w.heap.size + 1) (by omega) (.int .i64 nd) (.int .i64 la) (.slice ao m cap)
    have bF : Below w.heap.size w WF := by
      rw [hWF]
      unfold set4
      exact (((hb3.setCell (p := ⟨w.heap.size + 2, 0, none⟩) (Nat.le_add_right _ 2) _).setCell (p := ⟨w.heap.size + 2, 1, none⟩) (Nat.le_add_right _ 2) _).setCell (p := ⟨w.heap.size + 2, 2, none⟩) (Nat.le_add_right _ 2) _).setCell (p := ⟨w.heap.size + 2, 3, none⟩) (Nat.le_add_right _ 2) _
    have rF : WF.heap[w.heap.size + 1]? = some (.cells #[.int .i64 nd, .int .i64 la, .slice ao m cap] 29) := by
      rw [hWF]
      unfold set4
      rw [Below.heap_setCell _ ⟨w.heap.size + 2, 3, none⟩ _ _ (by simp), Below.heap_setCell _ ⟨w.heap.size + 2, 2, none⟩ _ _ (by simp), Below.heap_setCell _ ⟨w.heap.size + 2, 1, none⟩ _ _ (by simp), Below.heap_setCell _ ⟨w.heap.size + 2, 0, none⟩ _ _ (by simp)]
      exact set3_block k1 _ _ _
    have pF : WF.heap[w.heap.size + 2]? = some zP := by rw [hWF]; exact set4_block k2' _ _ _ _
    obtain ⟨⟨r0, r1, r2⟩, -⟩ := three_cells rF
    obtain ⟨⟨s0, s1, s2, s3⟩, -⟩ := four_cells pF
    have HBF := Hid.mk bF
    have HWF := Hid.mk hWF
    clear hb1 k0 k1 k2 k2' hWF hb3 bF rF pF
    go_wp2
    change bodyPost _ _ _ _ _ (set4 (set3 w1 (w.heap.size + 1) (.int .i64 nd) (.int .i64 la) (.slice ao m cap)) (w.heap.size + 2) (.int .i64 0) (.int .i64 0) (.int .i64 0) (.string ⟨#[]⟩))
    rw [← HWF.out]
    refine bodyPost_ret (v := .tuple #[.agg #[.int .i64 nd, .int .i64 la, .slice ao m cap], .agg #[.int .i64 0, .int .i64 0, .int .i64 0, .string ⟨#[]⟩], .int .i64 3]) ?_ rfl ⟨rfl, HBF.out⟩
    simp [results, Try.results13, go_sem, r0, r1, r2, s0, s1, s2, s3]
  · exact absurd hpk (HNO.out p (List.mem_of_getElem? hp))
set_option maxRecDepth 100000 in
set_option maxHeartbeats 1000000 in
theorem rArrive_any (h : DL S w v f.l) (hu : UpP f.l) {a c : List Pk} {p : Pk} (he : f.l = a ++ p :: c) (hl : f.l.length ≤ 100000) :
    Calls Try.prog 13 #[encF f v, .int .i64 (p.id : Int)] w fun e w' => ∃ v', e = .returned (.tuple #[encF ⟨f.nodes, f.last, a ++ c⟩ v', encP p, .int .i64 0]) ∧ DL (fun k => w.heap.size ≤ k ∧ k < w'.heap.size) w' v' (a ++ c) ∧ Below w.heap.size w w' := by
  obtain ⟨i0, hi0, hz0, hz1, hz2⟩ := info_parts infoP
  obtain ⟨ao, cap, hv⟩ := h.slice
  obtain ⟨m, hm⟩ : ∃ n, n = f.l.length := ⟨_, rfl⟩
  rw [← hm] at hv
  subst hv
  obtain ⟨W, hW, hb, h0, h1, h2⟩ := three_blocks w (.cells #[.int .i64 (f.nodes : Int), .int .i64 (f.last : Int), .slice ao m cap] 29) zF zP
  have CP := Hid.mk (rPlace_any (h.below hb) (p.id : Int) hl)
  unfold PlcE encF at CP
  have HD := Hid.mk (h.below hb)
  have HB := Hid.mk hb
  have HW := Hid.mk hW
  have H0 := Hid.mk h0
  have H1 := Hid.mk h1
  have H2 := Hid.mk h2
  have HM := Hid.mk hm
  obtain ⟨al, hal⟩ : ∃ al, al = a.length := ⟨_, rfl⟩
  have hpa : f.l[al]? = some p := by rw [hal, he]; simp
  have halm : al < m := by rw [hm]; exact (List.getElem?_eq_some_iff.1 hpa).1
  have HPA := Hid.mk hpa
  have HU := Hid.mk hu
  have HE := Hid.mk he
  have HAL := Hid.mk hal
  have hmb : m ≤ 100000 := by omega
  obtain ⟨s, hs⟩ : ∃ s : ByteArray, s = ⟨p.bs.toArray⟩ := ⟨_, rfl⟩
  obtain ⟨k, hk⟩ : ∃ k : Int, k = (p.id : Int) := ⟨_, rfl⟩
  obtain ⟨nd, hnd⟩ : ∃ x : Int, x = (f.nodes : Int) := ⟨_, rfl⟩
  obtain ⟨la, hla⟩ : ∃ x : Int, x = (f.last : Int) := ⟨_, rfl⟩
  unfold encF encP
  simp only
  rw [← hnd, ← hla] at HW H0 CP ⊢
  rw [← hs, ← hk]
  rw [← hk] at CP
  have HS := Hid.mk hs
  have HK := Hid.mk hk
  clear h hm hu he hnd hla hb hW h0 h1 h2 hl hal hpa hs hk
  go_enter Try.func13, Try.ntmps13
  go_wp2_with fail
  rw [← HW.out]
  refine CP.out.mono ?_
  rintro e w1 ⟨hb1, ⟨-, hno⟩ | ⟨i, p', rfl, hp, hpk⟩⟩
  · exact absurd HK.out.symm (hno p (List.mem_of_getElem? HPA.out))
  obtain rfl : i = al := up_index HU.out hp HPA.out (by have := HK.out; omega)
  have HD1 := Hid.mk (HD.out.below hb1)
  have k0 := (hb1.block _ (lt_of_block H0.out)).trans H0.out
  have k1 := (hb1.block _ (lt_of_block H1.out)).trans H1.out
  have k2 := (hb1.block _ (lt_of_block H2.out)).trans H2.out
  have HB1 := Hid.mk (HB.out.trans (hb1.mono HB.out.size))
  have HPOS : Hid (w.heap.size + 2 < w1.heap.size) := Hid.mk (lt_of_block k2)
  obtain ⟨g, rfl, p0, p1, p2, p3⟩ := HD1.out.get HPA.out
  rw [← HK.out] at p0
  rw [← HS.out] at p3
  have hi0' : ¬ (i : Int) < 0 := by omega
  have hiI : (i : Int) < (m : Int) := by omega
  obtain ⟨⟨x0, x1, x2⟩, -⟩ := three_cells k0
  -- the packet's own block
  obtain ⟨W2, hW2⟩ : ∃ W2, W2 = w1.alloc (.cells #[.int .i64 k, .int .i64 p.fr, .int .i64 p.to, .string s] 40) := ⟨_, rfl⟩
  have b2 : Below w1.heap.size w1 W2 := by rw [hW2]; exact (Below.refl _ _).alloc (Nat.le_refl _) _
  have HQ2 : Hid (W2.heap[w1.heap.size]? = some (.cells #[.int .i64 k, .int .i64 p.fr, .int .i64 p.to, .string s] 40)) := Hid.mk (by rw [hW2]; exact box_at _ _)
  have HK0 := Hid.mk ((b2.block _ (lt_of_block k0)).trans k0)
  have HK1 := Hid.mk ((b2.block _ (lt_of_block k1)).trans k1)
  have HK2 := Hid.mk ((b2.block _ (lt_of_block k2)).trans k2)
  have HD2 := Hid.mk (HD1.out.below b2)
  have HB2 := Hid.mk (HB1.out.trans (b2.mono HB1.out.size))
  have hown2 : W2.ownsRow 0 40 4 (.slice (some ⟨g, 0, none⟩) m cap) m (f.l.flatMap csP) := by have := HD2.out.own; rw [← HM.out] at this; exact this
  obtain ⟨⟨aa, cc, hsl1, hC1⟩, -⟩ := row_cut elemP Try.underlying27 sizeP hown2 (k := i) (by omega)
  obtain ⟨-, ⟨bb, dd, hsl2, hC2⟩⟩ := row_cut elemP Try.underlying27 sizeP hown2 (k := i + 1) (by omega)
  rw [show ((i + 1 : Nat) : Int) = (i : Int) + 1 by simp] at hsl2
  have ht1 : (f.l.flatMap csP).take (i * 4) = a.flatMap csP := by
    rw [HE.out, List.flatMap_append, HAL.out, List.take_append_of_le_length (by rw [flat_len csP_len]; omega), List.take_of_length_le (by rw [flat_len csP_len]; omega)]
  have ht2 : (f.l.flatMap csP).drop ((i + 1) * 4) = c.flatMap csP := by
    rw [HE.out, show a ++ p :: c = (a ++ [p]) ++ c by simp, List.flatMap_append, HAL.out, List.drop_append_of_le_length (by rw [flat_len csP_len]; simp), List.drop_of_length_le (by rw [flat_len csP_len]; simp)]
    rfl
  rw [ht1] at hC1
  rw [ht2] at hC2
  have HC1 := Hid.mk hC1
  have HC2 := Hid.mk hC2
  have HWE := Hid.mk hW2
  have hsl1' := hsl1 W2
  obtain ⟨r, hr⟩ : ∃ r, r = m - (i + 1) := ⟨_, rfl⟩
  rw [← hr] at hsl2 HC2
  have hrm : r ≤ 100000 := by omega
  have HR := Hid.mk hr
  have y0 : W2.cell? ⟨w.heap.size, 2, none⟩ = some (.slice (some ⟨g, 0, none⟩) m cap) := (three_cells HK0.out).1.2.2
  rw [hW2] at y0 hsl1'
  clear hb1 k0 k1 k2 hp hpk b2 hown2 hsl1 hC1 hC2 ht1 ht2 hW2 hr HD HD1 HD2
  go_wp2_with (at_builtin; rw [← HWE.out]; refine wpList_append_many rfl _ _ rfl Try.underlying27 hi0 hz0 hz1 hz2 rfl (by decide) (by rfl) (World.ownsRow_nil W2 W2.heap.size 40 4) aa (a.flatMap csP) i cc (by rfl) HC1.out.len HC1.out.none_ HC1.out.reads (csP_one _) ?d1 ?d2 (Nat.le_refl _) ?_)
  case d1 => unfold maxLen; omega
  case d2 => omega
  intro v3 w3 hown3 hgrow3
  have hg3 : W2.grownBy w3 none := hgrow3
  have b3 : Below W2.heap.size W2 w3 := ⟨hg3.os, hg3.tape, hg3.output, hg3.size, fun k hk => hg3.block k hk (by simp)⟩
  obtain ⟨a3, c3, rfl⟩ := own_slice hown3
  have HK3 := Hid.mk ((b3.block _ (lt_of_block HK0.out)).trans HK0.out)
  have HR3 := Hid.mk ((b3.block _ (lt_of_block HK1.out)).trans HK1.out)
  have HP3 := Hid.mk ((b3.block _ (lt_of_block HK2.out)).trans HK2.out)
  have HQ3 := Hid.mk ((b3.block _ (lt_of_block HQ2.out)).trans HQ2.out)
  have HC3 := Hid.mk (HC2.out.below b3)
  have HB3 := Hid.mk (HB2.out.trans (b3.mono HB2.out.size))
  have HO3 := Hid.mk hown3
  have HS3 : Hid (W2.heap.size ≤ w3.heap.size) := Hid.mk b3.size
  have hsl3 := hsl2 w3
  have y3 : w3.cell? ⟨w.heap.size, 2, none⟩ = some (.slice (some ⟨g, 0, none⟩) m cap) := (three_cells HK3.out).1.2.2
  clear hgrow3 hg3 b3 hown3 hsl2 y0 hsl1'
  go_wp2_with (at_builtin; refine wpList_append_many rfl _ _ rfl Try.underlying27 hi0 hz0 hz1 hz2 rfl (by decide) (by rfl) HO3.out bb (c.flatMap csP) r dd (by rfl) HC3.out.len HC3.out.none_ HC3.out.reads (csP_one _) ?e1 ?e2 HS3.out ?_)
  case e1 => unfold maxLen; omega
  case e2 => omega
  intro v4 w4 hown4 hgrow4
  have k4 := blk_grown HK3.out hgrow4 (own_neb HO3.out HK3.out (by decide))
  have r4 := blk_grown HR3.out hgrow4 (own_neb HO3.out HR3.out (by decide))
  have oneP : ∀ {j : Nat} {cs : Array Value}, w3.heap[j]? = some (.cells cs 40 (0, 0)) → j < W2.heap.size → (Value.slice a3 i c3).ownBlock ≠ some j := fun {j cs} _ hlt e => by have := HO3.out.lt j e; omega
  have p4 := blk_grown HP3.out hgrow4 (oneP HP3.out (lt_of_block HK2.out))
  have q4 := blk_grown HQ3.out hgrow4 (oneP HQ3.out (lt_of_block HQ2.out))
  have b4 : Below w.heap.size w w4 := HB3.out.grown hgrow4 HB3.out.size (fun k e => Nat.le_trans HB2.out.size (HO3.out.lt k e).1)
  obtain ⟨n4, hn4⟩ : ∃ n4, n4 = i + r := ⟨_, rfl⟩
  rw [← hn4] at hown4
  obtain ⟨va, vc, rfl⟩ := own_slice hown4
  obtain ⟨V, hV⟩ : ∃ V : Value, V = .slice va n4 vc := ⟨_, rfl⟩
  have k6 : (w4.setCell ⟨w.heap.size, 2, none⟩ V).heap[w.heap.size]? = _ := three_set2 k4
  have r6 : (w4.setCell ⟨w.heap.size, 2, none⟩ V).heap[w.heap.size + 1]? = some zF := (Below.heap_setCell w4 ⟨w.heap.size, 2, none⟩ V _ (by simp)).trans r4
  have p6 : (w4.setCell ⟨w.heap.size, 2, none⟩ V).heap[w.heap.size + 2]? = some zP := (Below.heap_setCell w4 ⟨w.heap.size, 2, none⟩ V _ (by simp)).trans p4
  have q6 := (Below.heap_setCell w4 ⟨w.heap.size, 2, none⟩ V w1.heap.size (by have := HPOS.out; simp; omega)).trans q4
  have o6 : (w4.setCell ⟨w.heap.size, 2, none⟩ V).ownsRow W2.heap.size 40 4 V n4 (a.flatMap csP ++ c.flatMap csP) := by rw [hV]; exact owns_setAt hown4 k4 (by decide)
  have b6 : Below w.heap.size w (w4.setCell ⟨w.heap.size, 2, none⟩ V) := b4.setCell (p := ⟨w.heap.size, 2, none⟩) (Nat.le_refl _) V
  have p7 : (set3 (w4.setCell ⟨w.heap.size, 2, none⟩ V) (w.heap.size + 1) (.int .i64 nd) (.int .i64 la) V).heap[w.heap.size + 2]? = some zP := (set3_other (by omega) _ _ _).trans p6
  have r7 : (set3 (w4.setCell ⟨w.heap.size, 2, none⟩ V) (w.heap.size + 1) (.int .i64 nd) (.int .i64 la) V).heap[w.heap.size + 1]? = _ := set3_block r6 _ _ _
  have b7 := set3_below b6 (b := w.heap.size + 1) (by omega) (.int .i64 nd) (.int .i64 la) V
  have so : ∀ j, j ≠ w.heap.size + 2 → (set4 (set3 (w4.setCell ⟨w.heap.size, 2, none⟩ V) (w.heap.size + 1) (.int .i64 nd) (.int .i64 la) V) (w.heap.size + 2) (.int .i64 k) (.int .i64 p.fr) (.int .i64 p.to) (.string s)).heap[j]? = (set3 (w4.setCell ⟨w.heap.size, 2, none⟩ V) (w.heap.size + 1) (.int .i64 nd) (.int .i64 la) V).heap[j]? := fun j hj => by
    unfold set4
    rw [Below.heap_setCell _ ⟨w.heap.size + 2, 3, none⟩ _ j hj, Below.heap_setCell _ ⟨w.heap.size + 2, 2, none⟩ _ j hj, Below.heap_setCell _ ⟨w.heap.size + 2, 1, none⟩ _ j hj, Below.heap_setCell _ ⟨w.heap.size + 2, 0, none⟩ _ j hj]
  have b8 : Below w.heap.size w (set4 (set3 (w4.setCell ⟨w.heap.size, 2, none⟩ V) (w.heap.size + 1) (.int .i64 nd) (.int .i64 la) V) (w.heap.size + 2) (.int .i64 k) (.int .i64 p.fr) (.int .i64 p.to) (.string s)) := by
    unfold set4
    exact (((b7.setCell (p := ⟨w.heap.size + 2, 0, none⟩) (Nat.le_add_right _ 2) _).setCell (p := ⟨w.heap.size + 2, 1, none⟩) (Nat.le_add_right _ 2) _).setCell (p := ⟨w.heap.size + 2, 2, none⟩) (Nat.le_add_right _ 2) _).setCell (p := ⟨w.heap.size + 2, 3, none⟩) (Nat.le_add_right _ 2) _
  have p8 := set4_block p7 (.int .i64 k) (.int .i64 p.fr) (.int .i64 p.to) (.string s)
  have so3 : ∀ j, j ≠ w.heap.size + 1 → (set3 (w4.setCell ⟨w.heap.size, 2, none⟩ V) (w.heap.size + 1) (.int .i64 nd) (.int .i64 la) V).heap[j]? = (w4.setCell ⟨w.heap.size, 2, none⟩ V).heap[j]? := fun j hj => set3_other hj _ _ _
  obtain ⟨W7, hW7⟩ : ∃ W7, W7 = set3 (w4.setCell ⟨w.heap.size, 2, none⟩ V) (w.heap.size + 1) (.int .i64 nd) (.int .i64 la) V := ⟨_, rfl⟩
  rw [← hW7] at so so3 r7 b8 p8
  obtain ⟨WG, hWG⟩ : ∃ WG, WG = set4 W7 (w.heap.size + 2) (.int .i64 k) (.int .i64 p.fr) (.int .i64 p.to) (.string s) := ⟨_, rfl⟩
  rw [← hWG] at so b8 p8
  have r8 : WG.heap[w.heap.size + 1]? = some (.cells #[.int .i64 nd, .int .i64 la, V] 29) := (so _ (by omega)).trans r7
  have o8 : WG.ownsRow W2.heap.size 40 4 V n4 (a.flatMap csP ++ c.flatMap csP) := by
    refine owns_key o6 (fun j o hg ho => ?_)
    have hj := (o6.lt j hg).1
    have hlt := lt_of_block HK2.out
    exact (so j (by omega)).trans ((so3 j (by omega)).trans ho)
  obtain ⟨WF, hWF⟩ : ∃ WF, WF = WG.drew := ⟨_, rfl⟩
  have hh : WF.heap = WG.heap := by rw [hWF]; rfl
  have bF : Below w.heap.size w WF := by rw [hWF]; exact below_drew b8
  have rF : WF.heap[w.heap.size + 1]? = some (.cells #[.int .i64 nd, .int .i64 la, V] 29) := by rw [hh]; exact r8
  have pF : WF.heap[w.heap.size + 2]? = some (.cells #[.int .i64 k, .int .i64 p.fr, .int .i64 p.to, .string s] 40) := by rw [hh]; exact p8
  have oF : WF.ownsRow W2.heap.size 40 4 V n4 (a.flatMap csP ++ c.flatMap csP) := owns_key o8 (fun j o _ ho => by rw [hh]; exact ho)
  have HDL : Hid (DL (fun k => w.heap.size ≤ k ∧ k < WF.heap.size) WF V (a ++ c)) := Hid.mk (by
    have e1 : (a ++ c).length = n4 := by
      have h1 := HM.out
      have h2 := HR.out
      have h3 := HAL.out
      rw [HE.out] at h1
      simp at h1 ⊢
      omega
    refine ⟨by rw [e1, List.flatMap_append]; exact ownsRow_base oF (Nat.zero_le _), fun g hg => ?_⟩
    have := oF.lt g hg
    have := HB2.out.size
    omega)
  obtain ⟨⟨-, -, x2'⟩, ⟨-, -, f2'⟩⟩ := three_cells k4
  obtain ⟨⟨u0, u1, u2⟩, -⟩ := three_cells k6
  obtain ⟨⟨t0, t1, t2⟩, ⟨s0, s1, s2⟩⟩ := three_cells r6
  obtain ⟨⟨m0, m1, m2, m3⟩, ⟨l0, l1, l2, l3⟩⟩ := four_cells p6
  obtain ⟨⟨q0, q1, q2, q3⟩, -⟩ := four_cells q6
  obtain ⟨⟨z0, z1, z2⟩, -⟩ := three_cells rF
  obtain ⟨⟨o0, o1, o2, o3⟩, -⟩ := four_cells pF
  have HBF := Hid.mk bF
  have HWF : Hid (WF = (set4 (set3 (w4.setCell ⟨w.heap.size, 2, none⟩ V) (w.heap.size + 1) (.int .i64 nd) (.int .i64 la) V) (w.heap.size + 2) (.int .i64 k) (.int .i64 p.fr) (.int .i64 p.to) (.string s)).drew) := Hid.mk (by rw [hWF, hWG, hW7])
  subst hV
  have hpos := HPOS.out
  have hne1 : ¬ w1.heap.size = w.heap.size + 1 := by omega
  have hne2 : ¬ w.heap.size + 1 = w1.heap.size := by omega
  have hne3 : ¬ w1.heap.size = w.heap.size + 1 + 1 := by omega
  have hne4 : ¬ w.heap.size + 1 + 1 = w1.heap.size := by omega
  have hne5 : ¬ w1.heap.size = w.heap.size := by omega
  have hne6 : ¬ w.heap.size = w1.heap.size := by omega
  clear hpos k4 r4 p4 q4 oneP b4 hn4 hown4 hgrow4 k6 r6 p6 q6 o6 b6 p7 r7 b7 so hWF bF rF pF oF hWG hW7 so3 r8 o8 b8 p8 hh x0 x1 x2 y3 hsl3
  go_wp2_with fail
  go_region
  all_goals (
    change Exit.then _ _ Exit.normal _ (set4 (set3 (w4.setCell ⟨w.heap.size, 2, none⟩ (.slice va n4 vc)) (w.heap.size + 1) (.int .i64 nd) (.int .i64 la) (.slice va n4 vc)) (w.heap.size + 2) (.int .i64 k) (.int .i64 p.fr) (.int .i64 p.to) (.string s)).drew
    rw [← HWF.out]
    go_wp2
    refine bodyPost_ret (v := .tuple #[.agg #[.int .i64 nd, .int .i64 la, .slice va n4 vc], .agg #[.int .i64 k, .int .i64 p.fr, .int .i64 p.to, .string s], .int .i64 0]) ?_ rfl ⟨_, rfl, HDL.out, HBF.out⟩
    simp [results, Try.results13, go_sem, z0, z1, z2, o0, o1, o2, o3])
end
end Go.Proofs.Ytnkgbinogblemaa
