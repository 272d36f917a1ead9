/- awake of the statements: true, always. -/
import Derived.Test.YthdnpddfdlhlaaaBAwake
namespace Go.Proofs.Ythdnpddfdlhlaaa
open Go.RowKit

set_option maxHeartbeats 4000000 in
set_option maxRecDepth 100000 in
theorem awake_any (w : World) : Calls Try.prog 10 #[] w fun e w' => e = .returned (.bool true) ∧ Below w.heap.size w w' := by
  have CO : Hid (∀ (u : World) (g : Nat), u.heap[g]? = some (.cells #[.int .i64 1, .string ⟨#[113]⟩, .slice none 0 0] 24 (0, 0)) → u.heap[g + 1]? = some (.cells #[.int .i64 1, .string ⟨#[112]⟩, .slice none 0 0, .int .i64 4, .string ⟨#[]⟩, .slice (some ⟨g, 0, none⟩) 1 1] 24 (0, 0)) →
      Calls Try.prog 11 #[.agg #[.int .i64 2, .string ⟨#[]⟩, .slice (some ⟨g + 1, 0, none⟩) 2 2]] u fun e w' => ∃ m : Mu, e = .returned (.tuple #[encU m, .int .i64 0]) ∧ UOk (fun _ => True) w' m ∧ m.au = auAw ∧ Below u.heap.size u w') := Hid.mk (fun u g h1 h2 => by
    have hv : VOk (fun _ => True) u ⟨2, [], .slice (some ⟨g + 1, 0, none⟩) 2 2, [vtW [112], ⟨4, [], .slice (some ⟨g, 0, none⟩) 1 1, [vtW [113]]⟩]⟩ := by
      refine vok_mk.2 ⟨sl_lit csN_len h2 (by rfl) (by rfl), by simp, by simp, fun x hx => ?_⟩
      simp at hx
      rcases hx with rfl | rfl
      · exact vok_word _ _ (by simp)
      · refine vok_mk.2 ⟨sl_lit csN_len h1 (by rfl) (by rfl), by simp, by simp, fun x hx => ?_⟩
        simp at hx
        subst hx
        exact vok_word _ _ (by simp)
    have h := of_any hv
    have hp : Vt.pt ⟨2, [], .slice (some ⟨g + 1, 0, none⟩) 2 2, [vtW [112], ⟨4, [], .slice (some ⟨g, 0, none⟩) 1 1, [vtW [113]]⟩]⟩ = ptAw := by simp [Vt.pt_mk, ptAw]
    rw [hp, aw_may, aw_of] at h
    refine h.mono ?_
    rintro e w' ⟨m, rfl, hu, ha, hb⟩
    exact ⟨m, rfl, hu.sub (fun _ _ => trivial), ha, hb⟩)
  go_enter Try.func10, Try.ntmps10
  go_wp2_with fail
  refine (word_any [112] _).mono ?_
  rintro e w1 ⟨rfl, hb1⟩
  have HB1 := Hid.mk hb1
  clear hb1
  go_wp2_with fail
  refine (word_any [113] _).mono ?_
  rintro e w2 ⟨rfl, hb2⟩
  have HB2 := Hid.mk (HB1.out.trans (hb2.mono HB1.out.size))
  clear hb2
  go_wp2_with fail
  refine (CO.out _ w2.heap.size ?o1 ?o2).mono ?_
  case o1 => exact get_at [_, _] w2 0 (by simp)
  case o2 => exact get_at [_, _] w2 1 (by simp)
  rintro e w4 ⟨m, rfl, hu4, ha4, hb4⟩
  have HB4 : Hid (Below w.heap.size w w4) := Hid.mk (((HB2.out.alloc HB2.out.size _).alloc (by have := HB2.out.size; simp; omega) _).trans (hb4.mono (by have := HB2.out.size; simp; omega)))
  obtain ⟨wa, wc, fa, fc, la, lc, oa, oc, e1, e2, e3, e4⟩ := hu4.slices
  have HU4 := Hid.mk hu4
  have HA4 := Hid.mk ha4
  obtain ⟨mv, mws, mfv, mfs, mlv, mls, mov, mos, mem⟩ := m
  dsimp only at e1 e2 e3 e4
  subst e1 e2 e3 e4
  clear hu4 ha4 hb4 CO
  have CS : Hid (∀ u : World, Below w4.heap.size w4 u → u.heap[w4.heap.size + 1]? = some (.cells #[.string ⟨#[112]⟩, .string ⟨#[113]⟩] 9 (0, 0)) → u.heap[w4.heap.size + 2]? = some (.cells #[.int .i64 0] 3 (0, 0)) → u.heap[w4.heap.size + 3]? = some (.cells #[.int .i64 0, .int .i64 1] 3 (0, 0)) → u.heap[w4.heap.size + 4]? = some (.cells #[.int .i64 1] 3 (0, 0)) → u.heap[w4.heap.size + 5]? = some (.cells #[.int .i64 1] 3 (0, 0)) → u.heap[w4.heap.size + 6]? = some (.cells #[.slice (some ⟨w4.heap.size + 4, 0, none⟩) 1 1, .slice (some ⟨w4.heap.size + 5, 0, none⟩) 1 1] 28 (0, 0)) →
      Calls Try.prog 13 #[.agg #[.slice wa mws.length wc, .slice fa mfs.length fc, .slice la mls.length lc, .slice oa mos.length oc, .bool mem], .agg #[.slice (some ⟨w4.heap.size + 1, 0, none⟩) 2 2, .slice (some ⟨w4.heap.size + 2, 0, none⟩) 1 1, .slice (some ⟨w4.heap.size + 3, 0, none⟩) 2 2, .slice (some ⟨w4.heap.size + 6, 0, none⟩) 2 2, .bool false]] u fun e w' => e = .returned (.bool true) ∧ Below u.heap.size u w') := Hid.mk (fun u hu h1 h2 h3 h4 h5 h6 => by
    have hm2 : UOk (fun _ => True) u ⟨.slice (some ⟨w4.heap.size + 1, 0, none⟩) 2 2, [[112], [113]], .slice (some ⟨w4.heap.size + 2, 0, none⟩) 1 1, [0], .slice (some ⟨w4.heap.size + 3, 0, none⟩) 2 2, [0, 1], .slice (some ⟨w4.heap.size + 6, 0, none⟩) 2 2, [(.slice (some ⟨w4.heap.size + 4, 0, none⟩) 1 1, [1]), (.slice (some ⟨w4.heap.size + 5, 0, none⟩) 1 1, [1])], false⟩ := by
      refine ⟨sl_lit (enc := csT) (k := 1) (fun _ => rfl) h1 (by rfl) (by rfl), by simp, by simp, sl_lit csZ_len h2 (by rfl) (by rfl), by simp, sl_lit csZ_len h3 (by rfl) (by rfl), by simp, sl_lit (enc := csW) (k := 1) (fun _ => rfl) h6 (by rfl) (by rfl), fun p hp => ?_, by simp⟩
      simp at hp
      rcases hp with rfl | rfl
      · exact ⟨sl_lit csZ_len h4 (by rfl) (by rfl), by simp⟩
      · exact ⟨sl_lit csZ_len h5 (by rfl) (by rfl), by simp⟩
    have h := rSame_any (HU4.out.below hu) hm2
    rw [HA4.out] at h
    have hs : sameA auAw (Mu.au ⟨.slice (some ⟨w4.heap.size + 1, 0, none⟩) 2 2, [[112], [113]], .slice (some ⟨w4.heap.size + 2, 0, none⟩) 1 1, [0], .slice (some ⟨w4.heap.size + 3, 0, none⟩) 2 2, [0, 1], .slice (some ⟨w4.heap.size + 6, 0, none⟩) 2 2, [(.slice (some ⟨w4.heap.size + 4, 0, none⟩) 1 1, [1]), (.slice (some ⟨w4.heap.size + 5, 0, none⟩) 1 1, [1])], false⟩) = true := by
      rw [sameA_iff]
      rfl
    rw [hs] at h
    exact h)
  have CA : Hid (∀ (u : World) (g k : Nat) (L : List Wd) (cs : Array Value), Below w4.heap.size w4 u → u.heap[g]? = some (.cells cs 9 (0, 0)) → cs = (L.flatMap csT).toArray → k = L.length → L.length ≤ 10 →
      Calls Try.prog 16 #[.agg #[.slice wa mws.length wc, .slice fa mfs.length fc, .slice la mls.length lc, .slice oa mos.length oc, .bool mem], .slice (some ⟨g, 0, none⟩) k k] u fun e w' => e = .returned (.bool (accB auAw L)) ∧ Below u.heap.size u w') := Hid.mk (fun u g k L cs hu hg hcs hk hl => by
    have h := acc_any (HU4.out.below hu) (sl_lit (enc := csT) (k := 1) (cap := k) (fun _ => rfl) hg hcs hk) (by omega)
    rw [HA4.out] at h
    exact h)
  have CE : Hid (∀ u : World, Below w4.heap.size w4 u → Calls Try.prog 18 #[.agg #[.slice wa mws.length wc, .slice fa mfs.length fc, .slice la mls.length lc, .slice oa mos.length oc, .bool mem], .int .i64 0] u fun e w' => e = .returned (.bool true) ∧ Below u.heap.size u w') := Hid.mk (fun u hu => by
    have h := ends_any (HU4.out.below hu) 0
    rw [HA4.out, aw_end] at h
    exact h)
  obtain ⟨o, ho⟩ : ∃ o, o = Obj.cells #[.slice wa mws.length wc, .slice fa mfs.length fc, .slice la mls.length lc, .slice oa mos.length oc, .bool mem] 31 := ⟨_, rfl⟩
  have HO := Hid.mk ho
  have HK : Hid (∀ u, Below (w4.alloc o).heap.size (w4.alloc o) u → Below w4.heap.size w4 u ∧ u.cell? ⟨w4.heap.size, 0, none⟩ = some (.slice wa mws.length wc) ∧ u.cell? ⟨w4.heap.size, 1, none⟩ = some (.slice fa mfs.length fc) ∧ u.cell? ⟨w4.heap.size, 2, none⟩ = some (.slice la mls.length lc) ∧ u.cell? ⟨w4.heap.size, 3, none⟩ = some (.slice oa mos.length oc) ∧ u.cell? ⟨w4.heap.size, 4, none⟩ = some (.bool mem)) := Hid.mk (fun u hu => by
    have h := box_keptQ hu
    rw [HO.out] at h
    exact ⟨below_boxQ hu, cells5 h⟩)
  clear ho
  go_wp2_with fail
  refine (CS.out _ ?p0 ?p1 ?p2 ?p3 ?p4 ?p5 ?p6).mono ?_
  case p0 => exact (((((((Below.refl _ _).alloc (Nat.le_refl _) _).alloc (by simp) _).alloc (by simp; omega) _).alloc (by simp; omega) _).alloc (by simp; omega) _).alloc (by simp; omega) _).alloc (by simp; omega) _
  case p1 => exact get_at [_, _, _, _, _, _, _] w4 1 (by simp)
  case p2 => exact get_at [_, _, _, _, _, _, _] w4 2 (by simp)
  case p3 => exact get_at [_, _, _, _, _, _, _] w4 3 (by simp)
  case p4 => exact get_at [_, _, _, _, _, _, _] w4 4 (by simp)
  case p5 => exact get_at [_, _, _, _, _, _, _] w4 5 (by simp)
  case p6 => exact get_at [_, _, _, _, _, _, _] w4 6 (by simp)
  rintro e w5 ⟨rfl, hb5⟩
  have HB5 : Hid (Below (w4.alloc o).heap.size (w4.alloc o) w5) := Hid.mk (by
    rw [← HO.out] at hb5
    refine Below.trans ?_ (hb5.mono (by simp))
    exact ((((((Below.refl _ _).alloc (Nat.le_refl _) _).alloc (by simp) _).alloc (by simp) _).alloc (by simp) _).alloc (by simp) _).alloc (by simp) _)
  clear hb5
  obtain ⟨hB, c0, c1, c2, c3, c4⟩ := HK.out _ HB5.out
  have HBa := Hid.mk hB
  clear hB
  go_wp2_with fail
  refine (CA.out _ w5.heap.size 3 [[112], [113], [113]] #[.string ⟨#[112]⟩, .string ⟨#[113]⟩, .string ⟨#[113]⟩] ?p7 ?p8 rfl rfl (by simp)).mono ?_
  case p7 => exact HBa.out.alloc HBa.out.size _
  case p8 => exact get_at [_] w5 0 (by simp)
  rw [aw_acc1]
  rintro e w6 ⟨rfl, hb6⟩
  have HB6 := Hid.mk ((HB5.out.alloc HB5.out.size _).trans (hb6.mono (by have := HB5.out.size; simp at this ⊢; omega)))
  clear hb6 c0 c1 c2 c3 c4
  obtain ⟨hB, c0, c1, c2, c3, c4⟩ := HK.out _ HB6.out
  have HBb := Hid.mk hB
  clear hB
  go_wp2_with fail
  refine (CA.out _ w6.heap.size 1 [[113]] #[.string ⟨#[113]⟩] ?p9 ?pa rfl rfl (by simp)).mono ?_
  case p9 => exact HBb.out.alloc HBb.out.size _
  case pa => exact get_at [_] w6 0 (by simp)
  rw [aw_acc2]
  rintro e w7 ⟨rfl, hb7⟩
  have HB7 := Hid.mk ((HB6.out.alloc HB6.out.size _).trans (hb7.mono (by have := HB6.out.size; simp at this ⊢; omega)))
  clear hb7 c0 c1 c2 c3 c4
  obtain ⟨hB, c0, c1, c2, c3, c4⟩ := HK.out _ HB7.out
  have HBc := Hid.mk hB
  clear hB
  go_wp2_with fail
  refine (CE.out _ HBc.out).mono ?_
  rintro e w8 ⟨rfl, hb8⟩
  have HB8 := Hid.mk (HB4.out.trans ((HBc.out.trans (hb8.mono HBc.out.size)).mono HB4.out.size))
  clear hb8
  go_wp2
  go_ret
  exact ⟨rfl, HB8.out⟩
end Go.Proofs.Ythdnpddfdlhlaaa
