/- A packet arrives: Arrive of a field. -/
import Derived.Test.YtnkgbinogblemaaDIds
namespace Go.Proofs.Ytnkgbinogblemaa
open Go.RowKit

theorem setCells_at {x : Nat} {t : TypeId} : ∀ (l : List Value) (o : Nat) (w : World) (cur : Array Value), w.heap[x]? = some (.cells cur t (0, 0)) →
    ∃ cur2 : Array Value, (w.setCells x o l).heap[x]? = some (.cells cur2 t (0, 0)) ∧ cur2.size = cur.size ∧ (∀ j, j < o → cur2[j]? = cur[j]?) ∧ ∀ (j : Nat) v, l[j]? = some v → o + j < cur.size → cur2[o + j]? = some v
  | [], _, _, cur, h => ⟨cur, h, rfl, fun _ _ => rfl, fun j v h => by simp at h⟩
  | v :: r, o, w, cur, h => by
    have h1 : (w.setCell ⟨x, o, none⟩ v).heap[x]? = some (.cells (cur.setIfInBounds o v) t (0, 0)) := by simp [World.setCell, Array.getElem?_modify, h]
    obtain ⟨c2, g1, g2, g3, g4⟩ := setCells_at r (o + 1) _ _ h1
    refine ⟨c2, g1, by rw [g2]; simp, fun j hj => ?_, fun j u hu hlt => ?_⟩
    · rw [g3 j (by omega), Array.getElem?_setIfInBounds, if_neg (by omega)]
    · cases j with
      | zero =>
        simp at hu
        subst hu
        rw [Nat.add_zero, g3 o (by omega), Array.getElem?_setIfInBounds, if_pos rfl, if_pos (by omega)]
      | succ j =>
        have := g4 j u (by simpa using hu) (by simp; omega)
        rwa [show o + 1 + j = o + (j + 1) by omega] at this
theorem setCells_grown {x : Nat} : ∀ (l : List Value) (o : Nat) (w : World), w.grownBy (w.setCells x o l) (some x)
  | [], _, _ => ⟨rfl, rfl, rfl, Nat.le_refl _, fun _ _ _ => rfl⟩
  | v :: r, o, w => by
    have h1 := setCells_grown r (o + 1) (w.setCell ⟨x, o, none⟩ v) (x := x)
    refine ⟨h1.os, h1.tape, h1.output, by have := h1.size; simp at this; exact this, fun k hk hne => ?_⟩
    exact (h1.block k (by simpa using hk) hne).trans (Below.heap_setCell w ⟨x, o, none⟩ v k (fun e => hne (by rw [show k = x from e])))
theorem countP_cut {a c : List Pk} {p : Pk} (h : UpP (a ++ p :: c)) : ((idZ (a ++ p :: c)).countP (· < (p.id : Int))) = a.length := by
  obtain ⟨h1, h2⟩ := up_cut h
  have ha : (idZ a).countP (· < (p.id : Int)) = a.length := by
    have : (idZ a).countP (· < (p.id : Int)) = (idZ a).length := List.countP_eq_length.2 (fun x hx => by
      obtain ⟨q, hq, rfl⟩ := List.mem_map.1 hx
      have := h1 q hq
      simpa using this)
    rw [this]; simp
  have hc : (idZ (p :: c)).countP (· < (p.id : Int)) = 0 := List.countP_eq_zero.2 (fun x hx => by
    obtain ⟨q, hq, rfl⟩ := List.mem_map.1 hx
    rcases List.mem_cons.1 hq with rfl | hq
    · simp
    · have := h2 q hq
      simp; omega)
  have : idZ (a ++ p :: c) = idZ a ++ idZ (p :: c) := by simp [idZ]
  rw [this, List.countP_append, ha, hc, Nat.add_zero]
/-- The place of a number in a list that rises. -/
theorem search_ids {w : World} {B n : Nat} {v : Value} {a c : List Pk} {p : Pk} (h : w.ownsRow B 3 1 v n (idCs (a ++ p :: c))) (hu : UpP (a ++ p :: c)) (hn : n = (a ++ p :: c).length) (hl : n ≤ 100000) :
    Calls Try.prog 26 #[v, .int .i64 (p.id : Int)] w fun e w' => (∃ r, e = .returned (.tuple #[.int .i64 (a.length : Int), .bool r])) ∧ ∃ q, w' = w.drewN q := by
  rcases h.2 with ⟨rfl, h0⟩ | ⟨g, cap, cur, rfl, _⟩
  · simp at hn; omega
  · have hzl : (idZ (a ++ p :: c)).length = n := by rw [hn]; simp [idZ]
    have ht : (idZ (a ++ p :: c)).take n = idZ (a ++ p :: c) := List.take_of_length_le (by omega)
    refine (Try.slices_BinarySearch_int g 0 n cap (idZ (a ++ p :: c)) (p.id : Int) w (by omega) (by omega) (ids_zs h) (by rw [ht]; exact idZ_up hu)).mono ?_
    rintro e w' ⟨rfl, hq⟩
    rw [ht, countP_cut hu]
    exact ⟨⟨_, rfl⟩, hq⟩
/-- It is struck out. -/
theorem delete_ids {w : World} {B n : Nat} {v : Value} {a c : List Pk} {p : Pk} (h : w.ownsRow B 3 1 v n (idCs (a ++ p :: c))) (hn : n = (a ++ p :: c).length) (hl : n ≤ 100000) :
    Calls Try.prog 27 #[v, .int .i64 (a.length : Int), .int .i64 ((a.length : Int) + 1)] w fun e w' => ∃ v', e = .returned v' ∧ w'.ownsRow B 3 1 v' (a ++ c).length (idCs (a ++ c)) ∧ v'.ownBlock = v.ownBlock ∧ w.grownBy w' v.ownBlock := by
  rw [show (a.length : Int) + 1 = ((a.length + 1 : Nat) : Int) by simp]
  have hn0 := hn
  simp only [List.length_append, List.length_cons] at hn
  rcases h.2 with ⟨rfl, h0⟩ | ⟨g, cap, cur, rfl, hB, hg, hnc, hcm, hcs, htk⟩
  · omega
  · have hzl : (idZ (a ++ p :: c)).length = n := by rw [hn0]; simp [idZ]
    refine (Try.slices_Delete_int_cells g 0 n cap a.length (a.length + 1) (idZ (a ++ p :: c)) w (by omega) hnc (by unfold maxLen at hcm; omega) (by omega) (by omega) (ids_zs h) (fun j hj => by simp [World.frozen?, hg])).mono ?_
    rintro e w' ⟨rfl, q, rfl⟩
    have ht : (idZ (a ++ p :: c)).take n = idZ (a ++ p :: c) := List.take_of_length_le (by omega)
    rw [ht]
    have hL : ((idZ (a ++ p :: c)).take a.length ++ (idZ (a ++ p :: c)).drop (a.length + 1) ++ List.replicate (a.length + 1 - a.length) 0).map (Value.int .i64) = idCs (a ++ c) ++ [.int .i64 0] := by
      have e1 : (idZ (a ++ p :: c)).take a.length = idZ a := by
        rw [show idZ (a ++ p :: c) = idZ a ++ idZ (p :: c) by simp [idZ], List.take_append_of_le_length (by simp [idZ]), List.take_of_length_le (by simp [idZ])]
      have e2 : (idZ (a ++ p :: c)).drop (a.length + 1) = idZ c := by
        rw [show idZ (a ++ p :: c) = (idZ a ++ [(p.id : Int)]) ++ idZ c by simp [idZ], List.drop_append_of_le_length (by simp [idZ]), List.drop_of_length_le (by simp [idZ])]
        rfl
      rw [e1, e2, show a.length + 1 - a.length = 1 by omega]
      simp [idCs, idZ, List.replicate, Function.comp_def]
    rw [hL]
    obtain ⟨cur2, g1, g2, -, g4⟩ := setCells_at (idCs (a ++ c) ++ [.int .i64 0]) 0 (w.drewN q) cur hg
    have hG := setCells_grown (x := g) (idCs (a ++ c) ++ [.int .i64 0]) 0 (w.drewN q)
    have hm : (a ++ c).length + 1 = n := by simp; omega
    refine ⟨_, rfl, ⟨by simp [idCs], .inr ⟨g, cap, cur2, by rw [show n - (a.length + 1 - a.length) = (a ++ c).length by omega], hB, g1, by omega, hcm, by rw [g2, hcs], ?_⟩⟩, rfl, ⟨hG.os, hG.tape, hG.output, hG.size, hG.block⟩⟩
    have hlen : (idCs (a ++ c)).length = (a ++ c).length := by simp [idCs]
    refine List.ext_getElem? (fun j => ?_)
    rw [List.getElem?_take]
    by_cases hj : j < (a ++ c).length * 1
    · rw [if_pos hj, Array.getElem?_toList]
      have hj2 : j < (idCs (a ++ c)).length := by omega
      have := g4 j ((idCs (a ++ c))[j]) (by rw [List.getElem?_append_left hj2, List.getElem?_eq_getElem hj2]) (by rw [hcs]; omega)
      rw [Nat.zero_add] at this
      rw [this, List.getElem?_eq_getElem hj2]
    · rw [if_neg hj, List.getElem?_eq_none (by omega)]

section
variable {S : Nat → Prop} {w : World} {b : Nat} {f : Fd}
abbrev zP : Obj := .cells #[.int .i64 0, .int .i64 0, .int .i64 0, .string ⟨#[]⟩] 40
set_option maxRecDepth 100000 in
set_option maxHeartbeats 1000000 in
theorem arrive_not (h : FB S w b f) (k : Int) (hk : (Lit.int .i64 k).wf = true) (hno : ¬ ∃ p ∈ f.l, (p.id : Int) = k) :
    Calls Try.prog 12 #[.pointer (some ⟨b, 0, none⟩), .int .i64 k] w fun e w' => e = .returned (.tuple #[encP pk0, .int .i64 3]) ∧ Below w.heap.size w w' := by
  have b1 : Below w.heap.size w (w.alloc zP) := (Below.refl _ _).alloc (Nat.le_refl _) _
  obtain ⟨mb, ⟨g0, g1, g3⟩, hm⟩ := (h.below b1).cells
  have C0 := Hid.mk (given_any b _ g0)
  have hrun := hm.look_no hk hno
  unfold encP pk0 at hrun
  have HB : Hid (∀ o, Below w.heap.size w ((w.alloc zP).alloc o)) := Hid.mk (fun o => b1.alloc b1.size o)
  have hz : (w.alloc zP).heap.size = w.heap.size + 1 := by simp
  clear h g0 g1 hno hk hm b1
  go_enter Try.func12, Try.ntmps12
  go_wp2_with fail
  refine C0.out.mono ?_
  rintro e w1 ⟨rfl, hw⟩
  rw [hw]; clear hw w1
  go_wp2
  have x := four_cells (box_at w zP)
  refine bodyPost_ret (v := .tuple #[encP pk0, .int .i64 3]) ?_ rfl ⟨rfl, HB.out _⟩
  simp [results, Try.results12, go_sem, encP, pk0]

def set4 (w : World) (b : Nat) (u0 u1 u2 u3 : Value) : World := (((w.setCell ⟨b, 0, none⟩ u0).setCell ⟨b, 1, none⟩ u1).setCell ⟨b, 2, none⟩ u2).setCell ⟨b, 3, none⟩ u3
theorem set4_block {w : World} {b : Nat} {c0 c1 c2 c3 : Value} {t : TypeId} (h : w.heap[b]? = some (.cells #[c0, c1, c2, c3] t (0, 0))) (u0 u1 u2 u3 : Value) : (set4 w b u0 u1 u2 u3).heap[b]? = some (.cells #[u0, u1, u2, u3] t (0, 0)) := by
  simp [set4, World.setCell, Array.getElem?_modify, h]
set_option maxRecDepth 100000 in
set_option maxHeartbeats 2000000 in
theorem arrive_any (h : FB S w b f) (hS : Low S w) {a c : List Pk} {p : Pk} (he : f.l = a ++ p :: c) (hl : f.last ≤ 100000) :
    Calls Try.prog 12 #[.pointer (some ⟨b, 0, none⟩), .int .i64 (p.id : Int)] w fun e w' => e = .returned (.tuple #[encP p, .int .i64 0]) ∧ FB S w' b ⟨f.nodes, f.last, a ++ c⟩ ∧ Fr S w w' := by
  have hok := h.ok
  have hlen := hok.len
  have hid := hok.id2 p (by rw [he]; simp)
  have b1 : Below w.heap.size w (w.alloc zP) := (Below.refl _ _).alloc (Nat.le_refl _) _
  obtain ⟨mb, vi, h1⟩ := h.below b1
  have C0 := Hid.mk (given_any b _ (five_cells h1.blk).1.1)
  have hrun := h1.map.look (p := p) (by rw [he]; simp) (by omega)
  have g3 := (five_cells h1.blk).1.2.2.2.1
  have g3m := Hid.mk h1.outm
  have hO := Hid.mk h1.out
  have hOI := Hid.mk h1.outi
  have z1 : (w.alloc zP).heap.size = w.heap.size + 1 := by simp
  obtain ⟨s, hs⟩ : ∃ s : ByteArray, s = ⟨p.bs.toArray⟩ := ⟨_, rfl⟩
  obtain ⟨k, hk⟩ : ∃ k : Int, k = (p.id : Int) := ⟨_, rfl⟩
  unfold encP at hrun ⊢
  rw [← hs, ← hk] at hrun
  rw [← hs, ← hk]
  -- the two blocks, and the field beside them
  obtain ⟨W2, hW2⟩ : ∃ W2, W2 = (w.alloc zP).alloc (.cells #[.int .i64 k, .int .i64 p.fr, .int .i64 p.to, .string s] 40) := ⟨_, rfl⟩
  have b2 : Below (w.alloc zP).heap.size (w.alloc zP) W2 := by rw [hW2]; exact (Below.refl _ _).alloc (Nat.le_refl _) _
  have h2 := h1.below b2
  have r2 : W2.heap[w.heap.size]? = some zP := (b2.block w.heap.size (by omega)).trans (box_at w _)
  have p2 : W2.heap[w.heap.size + 1]? = some (.cells #[.int .i64 k, .int .i64 p.fr, .int .i64 p.to, .string s] 40) := by rw [hW2, ← z1]; exact box_at _ _
  have F2 := Hid.mk (fr_below hS (b1.trans (b2.mono b1.size)))
  have hrb : w.heap.size < W2.heap.size := lt_of_block r2
  obtain ⟨D, m1, m2, m3, m4⟩ := h2.map
  have HM1 := Hid.mk m1
  rw [he] at m2 m3 m4
  have hup := hok.up
  rw [he] at hup
  have HM := Hid.mk (And.intro (m1.tidy lawI) (And.intro m2 (And.intro m3 (And.intro m4 hup))))
  have HK := Hid.mk (keyI (k := k) (by rw [hk]; exact wf_small (by omega)))
  have HK2 : Hid (W2.heap[b]? = _) := Hid.mk h2.blk
  obtain ⟨n, hn⟩ : ∃ n, n = f.l.length := ⟨_, rfl⟩
  have HI2 : Hid (W2.ownsRow 0 3 1 vi n (idCs (a ++ p :: c))) := Hid.mk (by rw [hn, ← he]; exact h2.ids)
  have hnn : n = (a ++ p :: c).length := by rw [hn, he]
  have HNN := Hid.mk hnn
  have hn1 : n ≤ 100000 := by omega
  have HOKC := Hid.mk (hok.cut he)
  obtain ⟨al, hal⟩ : ∃ al, al = a.length := ⟨_, rfl⟩
  have hal1 : al ≤ 100000 := by rw [hnn] at hn1; simp at hn1; omega
  have HR2 := Hid.mk r2
  have HP2 := Hid.mk p2
  have HS : Hid (Low S w) := Hid.mk hS
  have HSL : Hid (Low S w) := Hid.mk hS
  have HKE := Hid.mk hk
  have HSE := Hid.mk hs
  have HAL := Hid.mk hal
  have HWE := Hid.mk hW2
  obtain ⟨nd, hnd⟩ : ∃ x : Int, x = (f.nodes : Int) := ⟨_, rfl⟩
  have HND := Hid.mk hnd
  clear h h1 h2 hok hlen hid b1 b2 m1 m2 m3 m4 hup he hn hnn r2 p2 hS hk hs hal hW2 hnd z1
  go_enter Try.func12, Try.ntmps12
  go_wp2_with fail
  refine C0.out.mono ?_
  rintro e w1 ⟨rfl, hw⟩
  rw [hw]; clear hw w1
  have g3b : ((w.alloc zP).alloc (.cells #[.int .i64 k, .int .i64 p.fr, .int .i64 p.to, .string s] 40)).cell? ⟨b, 3, none⟩ = some (.map (some mb)) := by rw [← HWE.out]; exact (five_cells HK2.out).1.2.2.2.1
  go_wp2_with (at_delete; rw [← HWE.out]; refine wpList_delete_own _ rfl _ _ 59 3 rfl 40 lawI Try.underlying59 _ mb _ D rfl HM1.out _ _ rfl HK.out ?_)
  intro w3 hown3 hturn3
  have k3 := blk_grown HK2.out hturn3.grown (fun e => blk_ne_map HK2.out HM1.out (Option.some.inj e))
  have r3 := blk_grown HR2.out hturn3.grown (fun e => blk_ne_map HR2.out HM1.out (Option.some.inj e))
  have p3 := blk_grown HP2.out hturn3.grown (fun e => blk_ne_map HP2.out HM1.out (Option.some.inj e))
  have o3 := owns_grown HI2.out hturn3.grown (fun g e => by rw [← e]; exact own_ne_map HI2.out HM1.out)
  have F3 := Hid.mk (F2.out.grown HS.out hturn3.grown (fun g e => by rw [← Option.some.inj e]; exact g3m.out))
  have HO3 := Hid.mk hown3
  have HR3 := Hid.mk r3
  have HP3 := Hid.mk p3
  have HI3 := Hid.mk o3
  have HK3 := Hid.mk k3
  have CS := Hid.mk (search_ids o3 HM.out.2.2.2.2 HNN.out hn1)
  rw [← HKE.out, ← HAL.out] at CS
  obtain ⟨ao, cap, rfl⟩ := own_slice o3
  obtain ⟨⟨g0, g1, g2, g3', g4⟩, ⟨f0, f2, f4⟩⟩ := five_cells k3
  clear k3 r3 p3 o3 hown3 hturn3 g0 g1 g2 g3' f0 f2 g3 g3b hrun
  go_wp2_with fail
  refine CS.out.mono ?_
  rintro e w4 ⟨⟨rr, rfl⟩, q, hq⟩
  have b4 : Below w3.heap.size w3 w4 := by rw [hq]; exact below_drewN (Below.refl _ _) q
  have k4 := (b4.block b (lt_of_block HK3.out)).trans HK3.out
  have o4 := owns_below HI3.out b4
  have HR4 := Hid.mk ((b4.block _ (lt_of_block HR3.out)).trans HR3.out)
  have HP4 := Hid.mk ((b4.block _ (lt_of_block HP3.out)).trans HP3.out)
  have HM4 := Hid.mk (map_key (w' := w4) HO3.out (fun o ho => (b4.block mb HO3.out.lt).trans ho))
  have F4 := Hid.mk (F3.out.next HS.out b4)
  have HK4 := Hid.mk k4
  have HI4 := Hid.mk o4
  obtain ⟨⟨g0, g1, g2, g3', g4'⟩, -⟩ := five_cells k4
  have CD := Hid.mk (delete_ids o4 HNN.out hn1)
  rw [← HAL.out] at CD
  clear k4 o4 g0 g1 g2 g3' g4 f4 hq b4 CS
  go_wp2_with fail
  refine CD.out.mono ?_
  rintro e w5 ⟨v', rfl, ho5, hbk, hg5⟩
  obtain ⟨nn, hnn⟩ : ∃ nn, nn = (a ++ c).length := ⟨_, rfl⟩
  rw [← hnn] at ho5
  have HNC := Hid.mk hnn
  clear hnn
  obtain ⟨va, vc, hvv⟩ := own_slice ho5
  subst hvv
  have k5 := blk_grown HK4.out hg5 (own_neb HI4.out HK4.out (by decide))
  have r5 := blk_grown HR4.out hg5 (own_neb HI4.out HR4.out (by decide))
  have p5 := blk_grown HP4.out hg5 (own_neb HI4.out HP4.out (by decide))
  have m5 := map_key (w' := w5) HM4.out (fun o ho => blk_grown ho hg5 (own_ne_map HI4.out HM4.out))
  have F5 := F4.out.grown HS.out hg5 (fun g e => hOI.out g e)
  have hbr : w.heap.size ≠ b := fun e => by have := hO.out; rw [← e] at k5; rw [k5] at r5; cases r5
  have hbp : w.heap.size + 1 ≠ b := fun e => by rw [← e] at k5; rw [k5] at p5; cases p5
  have k6 : (w5.setCell ⟨b, 4, none⟩ (.slice va nn vc)).heap[b]? = _ := five_set4 k5
  have r6 : (w5.setCell ⟨b, 4, none⟩ (.slice va nn vc)).heap[w.heap.size]? = _ := (Below.heap_setCell w5 ⟨b, 4, none⟩ (.slice va nn vc) _ hbr).trans r5
  have p6 : (w5.setCell ⟨b, 4, none⟩ (.slice va nn vc)).heap[w.heap.size + 1]? = _ := (Below.heap_setCell w5 ⟨b, 4, none⟩ (.slice va nn vc) _ hbp).trans p5
  have o6 : (w5.setCell ⟨b, 4, none⟩ (.slice va nn vc)).ownsRow 0 3 1 (.slice va nn vc) nn (idCs (a ++ c)) := owns_setAt ho5 k5 (by decide)
  have m6 : (w5.setCell ⟨b, 4, none⟩ (.slice va nn vc)).ownsMap Try.prog 3 pkE mb f.l.length (D.del (.int .i64 k)) := m5.setCell (a := ⟨b, 4, none⟩) (blk_ne_map k5 m5) (.slice va nn vc)
  have F6 := F5.setCell (i := 4) hO.out (.slice va nn vc)
  obtain ⟨g4z, f4z⟩ : w5.cell? ⟨b, 4, none⟩ = some (.slice ao n cap) ∧ w5.frozen? ⟨b, 4, none⟩ = false := ⟨(five_cells k5).1.2.2.2.2, (five_cells k5).2.2.2⟩
  obtain ⟨⟨x0, x1, x2, x3⟩, ⟨y0, y1, y2, y3⟩⟩ := four_cells r6
  obtain ⟨⟨u0, u1, u2, u3⟩, -⟩ := four_cells p6
  have z6 := set4_block r6 (.int .i64 k) (.int .i64 p.fr) (.int .i64 p.to) (.string s)
  have hne : b ≠ w.heap.size := fun e => hbr e.symm
  have so : ∀ g, g ≠ w.heap.size → (set4 (w5.setCell ⟨b, 4, none⟩ (.slice va nn vc)) w.heap.size (.int .i64 k) (.int .i64 p.fr) (.int .i64 p.to) (.string s)).heap[g]? = (w5.setCell ⟨b, 4, none⟩ (.slice va nn vc)).heap[g]? := fun g hg => by
    unfold set4
    rw [Below.heap_setCell _ ⟨w.heap.size, 3, none⟩ _ g hg, Below.heap_setCell _ ⟨w.heap.size, 2, none⟩ _ g hg, Below.heap_setCell _ ⟨w.heap.size, 1, none⟩ _ g hg, Below.heap_setCell _ ⟨w.heap.size, 0, none⟩ _ g hg]
  have HFIN : Hid (FB S (set4 (w5.setCell ⟨b, 4, none⟩ (.slice va nn vc)) w.heap.size (.int .i64 k) (.int .i64 p.fr) (.int .i64 p.to) (.string s)) b ⟨f.nodes, f.last, a ++ c⟩) := Hid.mk (by
    refine ⟨mb, .slice va nn vc, { blk := (so b hne).trans k6, out := hO.out, ids := ?_, outi := ?_, map := ?_, outm := g3m.out, ok := HOKC.out }⟩
    · simp only
      rw [← HNC.out]
      refine owns_key o6 (fun g o hg ho => (so g (fun e => ?_)).trans ho)
      exact own_neb o6 r6 (by decide) (by rw [hg, e])
    · intro g hg
      rw [hbk] at hg
      exact hOI.out g hg
    · refine mp_del (w' := _) (n := f.l.length) HM.out.1 HM.out.2.1 HM.out.2.2.1 HM.out.2.2.2.1 HM.out.2.2.2.2 ?_
      rw [← HKE.out]
      exact map_key m6 (fun o ho => (so mb (fun e => blk_ne_map r6 m6 e)).trans ho))
  have HFR : Hid (Fr S w (set4 (w5.setCell ⟨b, 4, none⟩ (.slice va nn vc)) w.heap.size (.int .i64 k) (.int .i64 p.fr) (.int .i64 p.to) (.string s))) := Hid.mk (by
    have hs : ¬ S w.heap.size := fun h => by have := HSL.out _ h; omega
    exact (((F6.setCell hs _).setCell hs _).setCell hs _).setCell hs _)
  have HZ6 := Hid.mk z6
  clear k5 r5 p5 m5 F5 k6 r6 p6 o6 m6 F6 z6 so ho5 hg5 hbk HM HM1 HO3 HM4 F2 F3 F4 CD hbr hbp hne
  obtain ⟨WF, hWF⟩ : ∃ WF, WF = (set4 (w5.setCell ⟨b, 4, none⟩ (.slice va nn vc)) w.heap.size (.int .i64 k) (.int .i64 p.fr) (.int .i64 p.to) (.string s)) := ⟨_, rfl⟩
  rw [← hWF] at HFIN HFR HZ6
  have HWF := Hid.mk hWF
  clear hWF
  go_wp2
  change bodyPost _ _ _ _ _ (set4 (w5.setCell ⟨b, 4, none⟩ (.slice va nn vc)) w.heap.size (.int .i64 k) (.int .i64 p.fr) (.int .i64 p.to) (.string s))
  rw [← HWF.out]
  obtain ⟨⟨q0, q1, q2, q3⟩, -⟩ := four_cells HZ6.out
  refine bodyPost_ret (v := .tuple #[.agg #[.int .i64 k, .int .i64 p.fr, .int .i64 p.to, .string s], .int .i64 0]) ?_ rfl ⟨rfl, HFIN.out, HFR.out⟩
  simp [results, Try.results12, go_sem, q0, q1, q2, q3]
end
end Go.Proofs.Ytnkgbinogblemaa
