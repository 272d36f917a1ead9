/- turnedBy and countBehind of the program. -/
import Derived.Test.YtiabnjjdeikefaaSBatch
namespace Go.Proofs.Ytiabnjjdeikefaa
open Go.RowKit

def putL (l : List Tri) (t : Tri) : List Tri := if t ∈ l then l else t :: l
theorem mem_putL {l : List Tri} {t x : Tri} : x ∈ putL l t ↔ x = t ∨ x ∈ l := by
  unfold putL
  split
  · constructor
    · exact .inr
    · rintro (rfl | h)
      · assumption
      · exact h
  · simp
theorem putL_len (l : List Tri) (t : Tri) : (putL l t).length ≤ l.length + 1 := by
  unfold putL
  split <;> simp
theorem mset_putL {w' : World} {b n : Nat} {l : List Tri} {D : DataW Unit} {t : Tri} (hm : Maps.Tidy D) (h2 : ∀ t, FineT t → Maps.has D (kT t) = decide (t ∈ l)) (h3 : l.Nodup) (h4 : ∀ t ∈ l, isTW t = true) (h5 : Maps.size D = l.length)
    (ht : isTW t = true) (hown : w'.ownsMap Try.prog 25 (unitElem (H := Unit)) b n (D.put (kT t) (.agg []))) : MSet w' b (putL l t) := by
  unfold putL
  split
  · rename_i h; exact mset_put_same hm h2 h3 h4 h5 ht h hown
  · rename_i h; exact mset_put hm h2 h3 h4 h5 ht h hown
theorem take_snoc {bt : List Chg} {i : Nat} {c : Chg} (hc : bt[i]? = some c) : bt.take i ++ [c] = bt.take (i + 1) := by
  rw [List.take_add_one, hc]; rfl

set_option maxHeartbeats 4000000 in
set_option maxRecDepth 100000 in
theorem turnedBy_any {S : Nat → Prop} {w : World} {v : Value} {bt : List Chg} {b mb : Nat} {F : List Tri} (h : ChgsS S w v bt) (hl : bt.length ≤ 64) (hw : ∀ c ∈ bt, isTW c.2 = true) (k2 : w.cell? ⟨b, 2, none⟩ = some (.map (some mb))) (hF : MSet w mb F) :
    Calls Try.prog 31 #[.pointer (some ⟨b, 0, none⟩), v] w fun e w' => e = .returned (.map (some w.heap.size)) ∧ ∃ m, MSet w' w.heap.size m ∧ Turned F bt m ∧ m.length ≤ 64 ∧ Below w.heap.size w w' := by
  obtain ⟨ao, cap, rfl⟩ := h.slice
  have hmm := @run_makeMap Try.prog
  have H := Hid.mk h
  have HF := Hid.mk hF
  have HWD := Hid.mk hw
  have HK2 := Hid.mk k2
  have hbl : b < w.heap.size := World.block_lt_of_cell? _ _ k2
  obtain ⟨n, hn⟩ : ∃ n, n = bt.length := ⟨_, rfl⟩
  rw [← hn] at H hl ⊢
  have HN := Hid.mk hn
  clear h hF hw hn k2
  go_enter Try.func31, Try.ntmps31
  go_wp2_with fail
  go_loopw [11] (fun c wr => ∃ (i : Nat) (m : List Tri), i ≤ n ∧ c = .int .i64 i ∧ MSet wr w.heap.size m ∧ Turned F (bt.take i) m ∧ m.length ≤ i ∧ Below w.heap.size w wr) (fun c _ => n - (intOf c).toNat)
  case atStart => exact ⟨0, [], Nat.zero_le _, rfl, mset_made w, by simpa using turned_nil F, Nat.zero_le _, (Below.refl _ _).alloc (Nat.le_refl _) _⟩
  case round =>
    obtain ⟨i, m, hi, rfl, hM, hT, hml, hB⟩ := hrel
    have HM := Hid.mk hM
    have HT := Hid.mk hT
    have HB := Hid.mk hB
    clear hM hT hB
    by_cases hlt : i < n
    · have hltI : (i : Int) < (n : Int) := by omega
      obtain ⟨c, hc⟩ : ∃ c, bt[i]? = some c := ⟨_, List.getElem?_eq_getElem (by rw [← HN.out]; exact hlt)⟩
      obtain ⟨g, off, rfl, _, _, hcell⟩ := (H.out.below HB.out).get hc
      obtain ⟨q0, q1, q2, q3⟩ := get4 hcell
      have HW := Hid.mk (HWD.out c (List.mem_of_getElem? hc))
      have HTK := Hid.mk (take_snoc hc)
      clear hc hcell
      obtain ⟨W2, hW2⟩ : ∃ W2, W2 = wr.alloc (.cells #[.bool c.1, strV c.2.1, strV c.2.2.1, strV c.2.2.2] 54) := ⟨_, rfl⟩
      have hB2 : Below wr.heap.size wr W2 := by rw [hW2]; exact (Below.refl _ _).alloc (Nat.le_refl _) _
      have hbx : W2.heap[wr.heap.size]? = some (.cells #[.bool c.1, strV c.2.1, strV c.2.2.1, strV c.2.2.2] 54) := by rw [hW2]; exact box_at wr _
      have k2 : W2.cell? ⟨b, 2, none⟩ = some (.map (some mb)) := ((HB.out.trans (hB2.mono HB.out.size)).cell (p := ⟨b, 2, none⟩) hbl).trans HK2.out
      have HD2 : Hid (Below W2.heap.size W2 W2.drew) := Hid.mk (Below.refl _ _).drew
      have HF2 := Hid.mk (HF.out.below ((HB.out.trans (hB2.mono HB.out.size)).trans (HD2.out.mono (HB.out.trans (hB2.mono HB.out.size)).size)))
      have CH := Hid.mk (has_any HF2.out (fine_word HW.out))
      obtain ⟨⟨p0, p1, p2, p3⟩, _⟩ := four_cells hbx
      have hcbl : wr.heap.size < W2.heap.size := lt_of_block hbx
      obtain ⟨cb, hcb⟩ : ∃ cb, cb = wr.heap.size := ⟨_, rfl⟩
      rw [← hcb] at p0 p1 p2 p3 hcbl
      have HCC : Hid (∀ w5, Below W2.drew.heap.size W2.drew w5 → w5.cell? ⟨b, 2, none⟩ = some (.map (some mb)) ∧ (w5.cell? ⟨cb, 0, none⟩ = some (.bool c.1) ∧ w5.cell? ⟨cb, 1, none⟩ = some (strV c.2.1) ∧ w5.cell? ⟨cb, 2, none⟩ = some (strV c.2.2.1) ∧ w5.cell? ⟨cb, 3, none⟩ = some (strV c.2.2.2))) := Hid.mk (fun w5 h5 => by
        have hb2 : b < W2.heap.size := World.block_lt_of_cell? _ _ k2
        have h6 := HD2.out.trans (h5.mono HD2.out.size)
        exact ⟨(h6.cell (p := ⟨b, 2, none⟩) hb2).trans k2, (h6.cell (p := ⟨cb, 0, none⟩) hcbl).trans p0, (h6.cell (p := ⟨cb, 1, none⟩) hcbl).trans p1, (h6.cell (p := ⟨cb, 2, none⟩) hcbl).trans p2, (h6.cell (p := ⟨cb, 3, none⟩) hcbl).trans p3⟩)
      have HMR := Hid.mk (HM.out.below hB2)
      have HBN := Hid.mk ((HB.out.trans (hB2.mono HB.out.size)).trans (HD2.out.mono (HB.out.trans (hB2.mono HB.out.size)).size))
      have HK := Hid.mk (keyT (fine_word HW.out))
      have HW2 := Hid.mk hW2
      rw [hcb] at p0 p1 p2 p3 HCC
      clear hW2 hB2 hbx hcbl hcb cb
      obtain ⟨gn, hgn⟩ : ∃ g, g = c.1 := ⟨_, rfl⟩
      rw [← hgn] at q0 p0 HW2 HCC
      have HG : Hid (c.1 = gn) := Hid.mk hgn.symm
      clear hgn
      by_cases hin : c.2 ∈ F
      · rw [decide_eq_true hin] at CH
        have HIN : Hid (c.2 ∈ F ↔ True) := Hid.mk (by simp [hin])
        clear hin
        cases gn with
        | true =>
          go_wp2_with fail
          rw [← HW2.out]
          clear q0 q1 q2 q3
          go_region_held3 (fun w' => w'.cell? ⟨b, 2, none⟩ = some (.map (some mb)) ∧ (w'.cell? ⟨wr.heap.size, 0, none⟩ = some (.bool true) ∧ w'.cell? ⟨wr.heap.size, 1, none⟩ = some (strV c.2.1) ∧ w'.cell? ⟨wr.heap.size, 2, none⟩ = some (strV c.2.2.1) ∧ w'.cell? ⟨wr.heap.size, 3, none⟩ = some (strV c.2.2.2)))
            (first | exact ⟨k2, p0, p1, p2, p3⟩ | exact ⟨by assumption, by assumption, by assumption, by assumption, by assumption⟩)
            (first | (go_at_call 43; refine CH.out.mono ?_; rintro e w4 ⟨rfl, hb4⟩; obtain ⟨r2, r3, r4, r5, r6⟩ := HCC.out w4 hb4; have HM4 := Hid.mk (HMR.out.below (HD2.out.trans (hb4.mono HD2.out.size))); have HB4 := Hid.mk (HBN.out.trans (hb4.mono HBN.out.size)); clear hb4))
          obtain ⟨D, h1, h2, h3, h4, h5⟩ := HM4.out
          have T1 := Hid.mk (h1.tidy lawT)
          have H1o := Hid.mk h1
          have H25 := Hid.mk (And.intro h2 (And.intro h3 (And.intro h4 h5)))
          clear h1 h2 h3 h4 h5
          go_wp2_with (at_mapUpdate; refine wpList_mapUpdate_own _ rfl _ _ _ 59 rfl 25 79 lawT Try.underlying59 _ w.heap.size _ D rfl H1o.out ?m1 _ _ _ rfl rfl HK.out _ [] unitElem_mk ?_)
          case m1 => unfold maxLen; omega
          intro w5 hown5 hgrow5
          have HM5 := Hid.mk (mset_putL T1.out H25.out.1 H25.out.2.1 H25.out.2.2.1 H25.out.2.2.2 HW.out hown5)
          have HB5 := Hid.mk (HB4.out.grown hgrow5 HB4.out.size (fun k e => by cases e; exact Nat.le_refl _))
          have HT5 : Hid (Turned F (bt.take (i + 1)) (putL m c.2)) := Hid.mk (HTK.out ▸ HT.out.step (by rw [mem_putL]; simp [HIN.out, HG.out]) (fun t ht => by rw [mem_putL]; simp [ht]))
          have HL5 : Hid ((putL m c.2).length ≤ i + 1) := Hid.mk (Nat.le_trans (putL_len _ _) (by omega))
          clear hown5 hgrow5
          go_wp2
          go_roundw
          case rel => exact ⟨i + 1, _, by omega, by go_num, HM5.out, HT5.out, HL5.out, HB5.out⟩
          case measure => simp [intOf]; omega
        | false =>
          go_wp2_with fail
          rw [← HW2.out]
          clear q0 q1 q2 q3
          go_region_held3 (fun w' => w'.cell? ⟨b, 2, none⟩ = some (.map (some mb)) ∧ (w'.cell? ⟨wr.heap.size, 0, none⟩ = some (.bool false) ∧ w'.cell? ⟨wr.heap.size, 1, none⟩ = some (strV c.2.1) ∧ w'.cell? ⟨wr.heap.size, 2, none⟩ = some (strV c.2.2.1) ∧ w'.cell? ⟨wr.heap.size, 3, none⟩ = some (strV c.2.2.2)))
            (first | exact ⟨k2, p0, p1, p2, p3⟩ | exact ⟨by assumption, by assumption, by assumption, by assumption, by assumption⟩)
            (first | (go_at_call 43; refine CH.out.mono ?_; rintro e w4 ⟨rfl, hb4⟩; obtain ⟨r2, r3, r4, r5, r6⟩ := HCC.out w4 hb4; have HM4 := Hid.mk (HMR.out.below (HD2.out.trans (hb4.mono HD2.out.size))); have HB4 := Hid.mk (HBN.out.trans (hb4.mono HBN.out.size)); clear hb4))
          obtain ⟨D, h1, h2, h3, h4, h5⟩ := HM4.out
          have T1 := Hid.mk (h1.tidy lawT)
          have H1o := Hid.mk h1
          have H25 := Hid.mk (And.intro h2 (And.intro h3 (And.intro h4 h5)))
          clear h1 h2 h3 h4 h5
          go_wp2_with (at_delete; refine wpList_delete_own _ rfl _ _ 59 25 rfl 79 lawT Try.underlying59 _ w.heap.size _ D rfl H1o.out _ _ rfl HK.out ?_; intro w5 hown5 hturn5)
          have HM5 := Hid.mk (mset_del T1.out H25.out.1 H25.out.2.1 H25.out.2.2.1 H25.out.2.2.2 HW.out hown5)
          have HB5 := Hid.mk (HB4.out.grown hturn5.grown HB4.out.size (fun k e => by cases e; exact Nat.le_refl _))
          have HT5 : Hid (Turned F (bt.take (i + 1)) (dropT m c.2)) := Hid.mk (HTK.out ▸ HT.out.step (by rw [mem_dropT]; simp [HIN.out, HG.out]) (fun t ht => by rw [mem_dropT]; simp [ht]))
          have HL5 : Hid ((dropT m c.2).length ≤ i + 1) := Hid.mk (Nat.le_trans (List.length_filter_le _ _) (by omega))
          clear hown5 hturn5
          go_wp2
          go_roundw
          case rel => exact ⟨i + 1, _, by omega, by go_num, HM5.out, HT5.out, HL5.out, HB5.out⟩
          case measure => simp [intOf]; omega
      · rw [decide_eq_false hin] at CH
        have HIN : Hid (c.2 ∈ F ↔ False) := Hid.mk (by simp [hin])
        clear hin
        cases gn with
        | true =>
          go_wp2_with fail
          rw [← HW2.out]
          clear q0 q1 q2 q3
          go_region_held3 (fun w' => w'.cell? ⟨b, 2, none⟩ = some (.map (some mb)) ∧ (w'.cell? ⟨wr.heap.size, 0, none⟩ = some (.bool true) ∧ w'.cell? ⟨wr.heap.size, 1, none⟩ = some (strV c.2.1) ∧ w'.cell? ⟨wr.heap.size, 2, none⟩ = some (strV c.2.2.1) ∧ w'.cell? ⟨wr.heap.size, 3, none⟩ = some (strV c.2.2.2)))
            (first | exact ⟨k2, p0, p1, p2, p3⟩ | exact ⟨by assumption, by assumption, by assumption, by assumption, by assumption⟩)
            (first | (go_at_call 43; refine CH.out.mono ?_; rintro e w4 ⟨rfl, hb4⟩; obtain ⟨r2, r3, r4, r5, r6⟩ := HCC.out w4 hb4; have HM4 := Hid.mk (HMR.out.below (HD2.out.trans (hb4.mono HD2.out.size))); have HB4 := Hid.mk (HBN.out.trans (hb4.mono HBN.out.size)); clear hb4))
          obtain ⟨D, h1, h2, h3, h4, h5⟩ := HM4.out
          have T1 := Hid.mk (h1.tidy lawT)
          have H1o := Hid.mk h1
          have H25 := Hid.mk (And.intro h2 (And.intro h3 (And.intro h4 h5)))
          clear h1 h2 h3 h4 h5
          go_wp2_with (at_delete; refine wpList_delete_own _ rfl _ _ 59 25 rfl 79 lawT Try.underlying59 _ w.heap.size _ D rfl H1o.out _ _ rfl HK.out ?_; intro w5 hown5 hturn5)
          have HM5 := Hid.mk (mset_del T1.out H25.out.1 H25.out.2.1 H25.out.2.2.1 H25.out.2.2.2 HW.out hown5)
          have HB5 := Hid.mk (HB4.out.grown hturn5.grown HB4.out.size (fun k e => by cases e; exact Nat.le_refl _))
          have HT5 : Hid (Turned F (bt.take (i + 1)) (dropT m c.2)) := Hid.mk (HTK.out ▸ HT.out.step (by rw [mem_dropT]; simp [HIN.out, HG.out]) (fun t ht => by rw [mem_dropT]; simp [ht]))
          have HL5 : Hid ((dropT m c.2).length ≤ i + 1) := Hid.mk (Nat.le_trans (List.length_filter_le _ _) (by omega))
          clear hown5 hturn5
          go_wp2
          go_roundw
          case rel => exact ⟨i + 1, _, by omega, by go_num, HM5.out, HT5.out, HL5.out, HB5.out⟩
          case measure => simp [intOf]; omega
        | false =>
          go_wp2_with fail
          rw [← HW2.out]
          clear q0 q1 q2 q3
          go_region_held3 (fun w' => w'.cell? ⟨b, 2, none⟩ = some (.map (some mb)) ∧ (w'.cell? ⟨wr.heap.size, 0, none⟩ = some (.bool false) ∧ w'.cell? ⟨wr.heap.size, 1, none⟩ = some (strV c.2.1) ∧ w'.cell? ⟨wr.heap.size, 2, none⟩ = some (strV c.2.2.1) ∧ w'.cell? ⟨wr.heap.size, 3, none⟩ = some (strV c.2.2.2)))
            (first | exact ⟨k2, p0, p1, p2, p3⟩ | exact ⟨by assumption, by assumption, by assumption, by assumption, by assumption⟩)
            (first | (go_at_call 43; refine CH.out.mono ?_; rintro e w4 ⟨rfl, hb4⟩; obtain ⟨r2, r3, r4, r5, r6⟩ := HCC.out w4 hb4; have HM4 := Hid.mk (HMR.out.below (HD2.out.trans (hb4.mono HD2.out.size))); have HB4 := Hid.mk (HBN.out.trans (hb4.mono HBN.out.size)); clear hb4))
          obtain ⟨D, h1, h2, h3, h4, h5⟩ := HM4.out
          have T1 := Hid.mk (h1.tidy lawT)
          have H1o := Hid.mk h1
          have H25 := Hid.mk (And.intro h2 (And.intro h3 (And.intro h4 h5)))
          clear h1 h2 h3 h4 h5
          go_wp2_with (at_mapUpdate; refine wpList_mapUpdate_own _ rfl _ _ _ 59 rfl 25 79 lawT Try.underlying59 _ w.heap.size _ D rfl H1o.out ?m1 _ _ _ rfl rfl HK.out _ [] unitElem_mk ?_)
          case m1 => unfold maxLen; omega
          intro w5 hown5 hgrow5
          have HM5 := Hid.mk (mset_putL T1.out H25.out.1 H25.out.2.1 H25.out.2.2.1 H25.out.2.2.2 HW.out hown5)
          have HB5 := Hid.mk (HB4.out.grown hgrow5 HB4.out.size (fun k e => by cases e; exact Nat.le_refl _))
          have HT5 : Hid (Turned F (bt.take (i + 1)) (putL m c.2)) := Hid.mk (HTK.out ▸ HT.out.step (by rw [mem_putL]; simp [HIN.out, HG.out]) (fun t ht => by rw [mem_putL]; simp [ht]))
          have HL5 : Hid ((putL m c.2).length ≤ i + 1) := Hid.mk (Nat.le_trans (putL_len _ _) (by omega))
          clear hown5 hgrow5
          go_wp2
          go_roundw
          case rel => exact ⟨i + 1, _, by omega, by go_num, HM5.out, HT5.out, HL5.out, HB5.out⟩
          case measure => simp [intOf]; omega
    · have hin : i = n := by omega
      have hltI : ¬ (i : Int) < (n : Int) := by omega
      have HTF : Hid (Turned F bt m) := Hid.mk (by
        have := HT.out
        rw [hin, HN.out, List.take_length] at this
        exact this)
      have HML : Hid (m.length ≤ 64) := Hid.mk (by omega)
      clear hin
      go_wp2
      go_ret
      exact ⟨rfl, m, HM.out, HTF.out, HML.out, HB.out⟩
end Go.Proofs.Ytiabnjjdeikefaa
