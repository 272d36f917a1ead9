/- The document's field: Copy. -/
import Derived.Test.YtnkgbinogblemaaDRefA
import Derived.Deep.RegionHeld3
namespace Go.Proofs.Ytnkgbinogblemaa
open Go.RowKit

theorem two_blocks (w : World) (o0 o1 : Obj) : ∃ W, W = (w.alloc o0).alloc o1 ∧ Below w.heap.size w W ∧ W.heap[w.heap.size]? = some o0 ∧ W.heap[w.heap.size + 1]? = some o1 := by
  have s1 : (w.alloc o0).heap.size = w.heap.size + 1 := by simp
  have a1 : Below w.heap.size w (w.alloc o0) := (Below.refl _ _).alloc (Nat.le_refl _) _
  have a2 : Below (w.alloc o0).heap.size (w.alloc o0) ((w.alloc o0).alloc o1) := (Below.refl _ _).alloc (Nat.le_refl _) _
  refine ⟨_, rfl, a1.trans (a2.mono (by omega)), (a2.block _ (by omega)).trans (box_at w o0), ?_⟩
  rw [← s1]
  exact box_at _ o1
section
variable {S : Nat → Prop} {w : World} {v : Value} {f : Fd}
set_option maxRecDepth 100000 in
set_option maxHeartbeats 1000000 in
theorem rCopy_not (h : DL S w v f.l) (k : Int) (hno : ∀ q ∈ f.l, (q.id : Int) ≠ k) (hl : f.l.length ≤ 100000) :
    Calls Try.prog 15 #[encF f v, .int .i64 k] w fun e w' => e = .returned (.tuple #[encF f v, .int .i64 0, .int .i64 3]) ∧ Below w.heap.size w w' := by
  obtain ⟨ao, cap, hv⟩ := h.slice
  obtain ⟨m, hm⟩ : ∃ n, n = f.l.length := ⟨_, rfl⟩
  rw [← hm] at hv
  subst hv
  obtain ⟨W, hW, hb, h0, h1⟩ := two_blocks w (.cells #[.int .i64 (f.nodes : Int), .int .i64 (f.last : Int), .slice ao m cap] 29) zF
  have CP := Hid.mk (rPlace_any (h.below hb) k hl)
  unfold PlcE encF at CP
  have HB := Hid.mk hb
  have HW := Hid.mk hW
  have H0 := Hid.mk h0
  have H1 := Hid.mk h1
  have HNO := Hid.mk hno
  unfold encF
  obtain ⟨nd, hnd⟩ : ∃ x : Int, x = (f.nodes : Int) := ⟨_, rfl⟩
  obtain ⟨la, hla⟩ : ∃ x : Int, x = (f.last : Int) := ⟨_, rfl⟩
  rw [← hnd, ← hla] at HW H0 CP ⊢
  clear h hm hno hnd hla hb hW h0 h1 hl
  go_enter Try.func15, Try.ntmps15
  go_wp2_with fail
  rw [← HW.out]
  refine CP.out.mono ?_
  rintro e w1 ⟨hb1, ⟨rfl, -⟩ | ⟨i, p, rfl, hp, hpk⟩⟩
  · have k0 := (hb1.block _ (lt_of_block H0.out)).trans H0.out
    have k1 := (hb1.block _ (lt_of_block H1.out)).trans H1.out
    obtain ⟨⟨x0, x1, x2⟩, -⟩ := three_cells k0
    obtain ⟨⟨y0, y1, y2⟩, ⟨z0, z1, z2⟩⟩ := three_cells k1
    obtain ⟨WF, hWF⟩ : ∃ WF, WF = set3 w1 (w.heap.size + 1) (.int .i64 nd) (.int .i64 la) (.slice ao m cap) := ⟨_, rfl⟩
    have bF : Below w.heap.size w WF := by rw [hWF]; exact set3_below (HB.out.trans (hb1.mono HB.out.size)) (by omega) _ _ _
    have rF : WF.heap[w.heap.size + 1]? = some (.cells #[.int .i64 nd, .int .i64 la, .slice ao m cap] 29) := by rw [hWF]; exact set3_block k1 _ _ _
    obtain ⟨⟨r0, r1, r2⟩, -⟩ := three_cells rF
    have HBF := Hid.mk bF
    have HWF := Hid.mk hWF
    clear hb1 k0 k1 hWF bF rF
    go_wp2
    change bodyPost _ _ _ _ _ (set3 w1 (w.heap.size + 1) (.int .i64 nd) (.int .i64 la) (.slice ao m cap))
    rw [← HWF.out]
    refine bodyPost_ret (v := .tuple #[.agg #[.int .i64 nd, .int .i64 la, .slice ao m cap], .int .i64 0, .int .i64 3]) ?_ rfl ⟨rfl, HBF.out⟩
    simp [results, Try.results15, go_sem, r0, r1, r2]
  · exact absurd hpk (HNO.out p (List.mem_of_getElem? hp))
set_option maxRecDepth 100000 in
set_option maxHeartbeats 1000000 in
theorem rCopy_any (h : DL S w v f.l) (hu : UpP f.l) {p : Pk} (hpm : p ∈ f.l) (hpk : PkOk f.nodes p) (hl : f.last < 10000) (hll : f.l.length ≤ f.last) :
    Calls Try.prog 15 #[encF f v, .int .i64 (p.id : Int)] w fun e w' => ∃ v', e = .returned (.tuple #[encF (f.add p) v', .int .i64 ((f.last + 1 : Nat) : Int), .int .i64 0]) ∧ DL (fun k => w.heap.size ≤ k ∧ k < w'.heap.size) w' v' (f.add p).l ∧ Below w.heap.size w w' := by
  obtain ⟨ao, cap, hv⟩ := h.slice
  obtain ⟨m, hm⟩ : ∃ n, n = f.l.length := ⟨_, rfl⟩
  rw [← hm] at hv
  subst hv
  obtain ⟨W, hW, hb, h0, h1⟩ := two_blocks w (.cells #[.int .i64 (f.nodes : Int), .int .i64 (f.last : Int), .slice ao m cap] 29) zF
  have CP := Hid.mk (rPlace_any (h.below hb) (p.id : Int) (by omega))
  unfold PlcE encF at CP
  have HD := Hid.mk (h.below hb)
  have HB := Hid.mk hb
  have HW := Hid.mk hW
  have H0 := Hid.mk h0
  have H1 := Hid.mk h1
  have HM := Hid.mk hm
  obtain ⟨al, hpa⟩ := List.getElem?_of_mem hpm
  have halm : al < m := by rw [hm]; exact (List.getElem?_eq_some_iff.1 hpa).1
  have HPA := Hid.mk hpa
  have HU := Hid.mk hu
  have CS : Hid (∀ X T, DL T X (.slice ao m cap) f.l → Calls Try.prog 11 #[encF f (.slice ao m cap), .int .i64 p.fr, .int .i64 p.to, .string ⟨p.bs.toArray⟩] X fun e w' => ∃ v', e = .returned (.tuple #[encF (f.add p) v', .int .i64 ((f.last + 1 : Nat) : Int), .int .i64 0]) ∧ DL (fun k => X.heap.size ≤ k ∧ k < w'.heap.size) w' v' (f.add p).l ∧ Below X.heap.size X w') := Hid.mk (fun X T hX => rSend_any hX p hpk hl hll)
  have hmb : m ≤ 10000 := by omega
  obtain ⟨f2, hf2⟩ : ∃ f2, f2 = f.add p := ⟨_, rfl⟩
  have hn2 : f2.nodes = f.nodes := by rw [hf2]; rfl
  have hz2 : f2.last = f.last + 1 := by rw [hf2]; rfl
  rw [← hf2] at CS ⊢
  obtain ⟨s, hs⟩ : ∃ s : ByteArray, s = ⟨p.bs.toArray⟩ := ⟨_, rfl⟩
  obtain ⟨k, hk⟩ : ∃ k : Int, k = (p.id : Int) := ⟨_, rfl⟩
  obtain ⟨z, hz⟩ : ∃ z : Int, z = ((f.last + 1 : Nat) : Int) := ⟨_, rfl⟩
  unfold encF at CS ⊢
  rw [hn2, hz2, ← hz] at CS ⊢
  obtain ⟨nd, hnd⟩ : ∃ x : Int, x = (f.nodes : Int) := ⟨_, rfl⟩
  obtain ⟨la, hla⟩ : ∃ x : Int, x = (f.last : Int) := ⟨_, rfl⟩
  rw [← hnd, ← hla] at HW H0 CP CS ⊢
  rw [← hs] at CS
  rw [← hk] at CP ⊢
  have HS := Hid.mk hs
  have HK := Hid.mk hk
  clear h hm hu hnd hla hb hW h0 h1 hl hpa hs hk hz hz2 hn2 hf2 hpm hpk hll
  go_enter Try.func15, Try.ntmps15
  go_wp2_with fail
  rw [← HW.out]
  refine CP.out.mono ?_
  rintro e w1 ⟨hb1, ⟨-, hno⟩ | ⟨i, p', rfl, hp, hpk⟩⟩
  · exact absurd HK.out.symm (hno p (List.mem_of_getElem? HPA.out))
  obtain rfl : i = al := up_index HU.out hp HPA.out (by have := HK.out; omega)
  have HD1 := Hid.mk (HD.out.below (below_drew hb1))
  have k0 := (hb1.block _ (lt_of_block H0.out)).trans H0.out
  have k1 := (hb1.block _ (lt_of_block H1.out)).trans H1.out
  have HB1 := Hid.mk (HB.out.trans (hb1.mono HB.out.size))
  have CS1 := Hid.mk (CS.out w1.drew _ HD1.out)
  obtain ⟨g, rfl, p0, p1, p2, p3⟩ := HD1.out.get HPA.out
  rw [← HS.out] at p3
  have hiI : (i : Int) < (m : Int) := by omega
  have hi0 : ¬ (i : Int) < 0 := by omega
  obtain ⟨⟨x0, x1, x2⟩, -⟩ := three_cells k0
  have HGL : Hid (g < w1.heap.size) := Hid.mk (World.block_lt_of_cell? w1.drew _ p1)
  have KS : Hid (∀ X : World, X.heap[w.heap.size]? = w1.heap[w.heap.size]? → X.heap[g]? = w1.heap[g]? → X.cell? ⟨w.heap.size, 0, none⟩ = some (.int .i64 nd) ∧ X.cell? ⟨w.heap.size, 1, none⟩ = some (.int .i64 la) ∧ X.cell? ⟨w.heap.size, 2, none⟩ = some (.slice (some ⟨g, 0, none⟩) m cap) ∧ X.cell? ⟨g, i * 4 + 1, none⟩ = some (.int .i64 p.fr) ∧ X.cell? ⟨g, i * 4 + 2, none⟩ = some (.int .i64 p.to) ∧ X.cell? ⟨g, i * 4 + 3, none⟩ = some (.string s)) := Hid.mk (fun X h1 h2 => by
    simp only [World.cell?, h1, h2] at x0 x1 x2 p1 p2 p3 ⊢
    exact ⟨x0, x1, x2, p1, p2, p3⟩)
  have HK0 := Hid.mk k0
  have HK1 := Hid.mk k1
  have KA := Hid.mk (KS.out w1.drew rfl rfl)
  have HNG : Hid (w.heap.size + 1 ≠ g) := Hid.mk (fun e => own_neb HD1.out.own (show w1.drew.heap[w.heap.size + 1]? = some zF from k1) (by decide) (congrArg some e.symm))
  have HPOS : Hid (w.heap.size + 1 < w1.heap.size) := Hid.mk (lt_of_block k1)
  clear hb1 k0 k1 hp hpk p0 CS CP x0 x1 x2 p1 p2 p3
  go_wp2_with fail
  go_region_held3 (fun y => y.cell? ⟨w.heap.size, 0, none⟩ = some (.int .i64 nd) ∧ y.cell? ⟨w.heap.size, 1, none⟩ = some (.int .i64 la) ∧ y.cell? ⟨w.heap.size, 2, none⟩ = some (.slice (some ⟨g, 0, none⟩) m cap) ∧ y.cell? ⟨g, i * 4 + 1, none⟩ = some (.int .i64 p.fr) ∧ y.cell? ⟨g, i * 4 + 2, none⟩ = some (.int .i64 p.to) ∧ y.cell? ⟨g, i * 4 + 3, none⟩ = some (.string s))
    (first | with_reducible exact KST.out _ _ _ | with_reducible exact KB3.out | with_reducible exact KA.out)
    (first | (with_reducible refine CS1.out.mono ?_; rintro e w3 ⟨v', rfl, hd3, hb3⟩; obtain ⟨va, vc, rfl⟩ := hd3.slice; have k3 := (hb3.block _ HPOS.out).trans HK1.out; have KB3 := Hid.mk (KS.out w3 (hb3.block _ (Nat.lt_of_succ_lt HPOS.out)) (hb3.block _ HGL.out)); have KST : Hid (∀ u0 u1 u2, (((w3.setCell ⟨w.heap.size + 1, 0, none⟩ u0).setCell ⟨w.heap.size + 1, 1, none⟩ u1).setCell ⟨w.heap.size + 1, 2, none⟩ u2).cell? ⟨w.heap.size, 0, none⟩ = some (.int .i64 nd) ∧ (((w3.setCell ⟨w.heap.size + 1, 0, none⟩ u0).setCell ⟨w.heap.size + 1, 1, none⟩ u1).setCell ⟨w.heap.size + 1, 2, none⟩ u2).cell? ⟨w.heap.size, 1, none⟩ = some (.int .i64 la) ∧ (((w3.setCell ⟨w.heap.size + 1, 0, none⟩ u0).setCell ⟨w.heap.size + 1, 1, none⟩ u1).setCell ⟨w.heap.size + 1, 2, none⟩ u2).cell? ⟨w.heap.size, 2, none⟩ = some (.slice (some ⟨g, 0, none⟩) m cap) ∧ (((w3.setCell ⟨w.heap.size + 1, 0, none⟩ u0).setCell ⟨w.heap.size + 1, 1, none⟩ u1).setCell ⟨w.heap.size + 1, 2, none⟩ u2).cell? ⟨g, i * 4 + 1, none⟩ = some (.int .i64 p.fr) ∧ (((w3.setCell ⟨w.heap.size + 1, 0, none⟩ u0).setCell ⟨w.heap.size + 1, 1, none⟩ u1).setCell ⟨w.heap.size + 1, 2, none⟩ u2).cell? ⟨g, i * 4 + 2, none⟩ = some (.int .i64 p.to) ∧ (((w3.setCell ⟨w.heap.size + 1, 0, none⟩ u0).setCell ⟨w.heap.size + 1, 1, none⟩ u1).setCell ⟨w.heap.size + 1, 2, none⟩ u2).cell? ⟨g, i * 4 + 3, none⟩ = some (.string s)) := Hid.mk (fun u0 u1 u2 => KS.out _ ((set3_other (by omega) u0 u1 u2).trans (hb3.block _ (Nat.lt_of_succ_lt HPOS.out))) ((set3_other (fun e => absurd e.symm HNG.out) u0 u1 u2).trans (hb3.block _ HGL.out))); obtain ⟨⟨y0, y1, y2⟩, ⟨z0, z1, z2⟩⟩ := three_cells k3))
  all_goals (
    obtain ⟨WF, hWF⟩ : ∃ WF, WF = set3 w3 (w.heap.size + 1) (.int .i64 nd) (.int .i64 z) (.slice va f2.l.length vc) := ⟨_, rfl⟩
    have hb3' : Below w1.heap.size w1 w3 := ⟨hb3.os, hb3.tape, hb3.output, hb3.size, hb3.block⟩
    have bF : Below w.heap.size w WF := by rw [hWF]; exact set3_below (HB1.out.trans (hb3'.mono HB1.out.size)) (by omega) _ _ _
    have rF : WF.heap[w.heap.size + 1]? = some (.cells #[.int .i64 nd, .int .i64 z, .slice va f2.l.length vc] 29) := by rw [hWF]; exact set3_block k3 _ _ _
    have hzz : WF.heap.size = w3.heap.size := by rw [hWF]; simp [set3]
    have HDL : Hid (DL (fun k => w.heap.size ≤ k ∧ k < WF.heap.size) WF (.slice va f2.l.length vc) f2.l) := Hid.mk (by
      have hp3 := HPOS.out
      refine ⟨owns_key hd3.own (fun j o hg ho => ?_), fun j hj => ?_⟩
      · have h1 : w1.heap.size ≤ j := (hd3.at_ j hg).1
        rw [hWF]
        exact (set3_other (by omega) _ _ _).trans ho
      · have h1 : w1.heap.size ≤ j ∧ j < w3.heap.size := hd3.at_ j hj
        omega)
    have HBF := Hid.mk bF
    have HWF := Hid.mk hWF
    obtain ⟨⟨r0, r1, r2⟩, -⟩ := three_cells rF
    clear hb3 hb3' hd3 bF rF hzz hWF k3 y0 y1 y2 z0 z1 z2
    change Exit.then _ _ Exit.normal _ (set3 w3 (w.heap.size + 1) (.int .i64 nd) (.int .i64 z) (.slice va f2.l.length vc))
    rw [← HWF.out]
    go_wp2
    refine bodyPost_ret (v := .tuple #[.agg #[.int .i64 nd, .int .i64 z, .slice va f2.l.length vc], .int .i64 z, .int .i64 0]) ?_ rfl ⟨_, rfl, HDL.out, HBF.out⟩
    simp [results, Try.results15, go_sem, r0, r1, r2])
end
end Go.Proofs.Ytnkgbinogblemaa
