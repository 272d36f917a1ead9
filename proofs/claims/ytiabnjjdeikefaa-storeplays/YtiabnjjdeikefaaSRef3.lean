/- Put of the document: facts with one more. -/
import Derived.Test.YtiabnjjdeikefaaSRef2
namespace Go.Proofs.Ytiabnjjdeikefaa
open Go.RowKit

set_option maxHeartbeats 8000000 in
set_option maxRecDepth 100000 in
theorem rPut_any {S : Nat → Prop} {w : World} {v : Value} {L : List Tri} (h : SlC cs3 3 S w v L) (hl : L.length ≤ 1000000) (t : Tri) :
    Calls Try.prog 33 #[v, encT t] w fun e w' => ∃ v', e = .returned v' ∧ SlC cs3 3 (Plus S w.heap.size w'.heap.size) w' v' (putT L t) ∧ Below w.heap.size w w' := by
  obtain ⟨i0, hi0, hz0, hz1, hz2⟩ := info_parts infoT
  obtain ⟨a1, c1, hv1⟩ := h.sl.slice
  subst hv1
  have H1 := Hid.mk h
  obtain ⟨n, hn⟩ : ∃ n, n = L.length := ⟨_, rfl⟩
  rw [← hn] at H1 hl ⊢
  have HN := Hid.mk hn
  clear hn h
  obtain ⟨W1, hW1⟩ : ∃ W1, W1 = w.alloc (.cells #[strV t.1, strV t.2.1, strV t.2.2] 25) := ⟨_, rfl⟩
  have HW1 := Hid.mk hW1
  have HBI : Hid (Below w.heap.size w W1) := Hid.mk (by rw [hW1]; exact (Below.refl _ _).alloc (Nat.le_refl _) _)
  clear hW1
  go_enter Try.func33, Try.ntmps33
  go_wp2_with fail
  rw [← HW1.out]
  go_loopw [5] (fun c wx => ∃ k : Nat, k ≤ n ∧ c = .int .i64 k ∧ (∀ (j : Nat) x, j < k → L[j]? = some x → lessT x t = true) ∧ Below W1.heap.size W1 wx) (fun c _ => n - (intOf c).toNat)
  case atStart => exact ⟨0, Nat.zero_le _, rfl, fun j x hj => absurd hj (by omega), Below.refl _ _⟩
  case round =>
    obtain ⟨k, hk, rfl, hall, hbq⟩ := hrel
    obtain ⟨wx, hwx⟩ : ∃ wx, wx = wr := ⟨_, rfl⟩
    subst hwx
    have HA := Hid.mk hall
    have HBX := Hid.mk hbq
    have HBW := Hid.mk (HBI.out.trans (hbq.mono HBI.out.size))
    obtain ⟨⟨aH, cH, slH, hcutH⟩, ⟨aT, cT, slT, hcutT⟩⟩ := tris_cut (H1.out.below HBW.out) HN.out hk
    have CUTH := Hid.mk hcutH
    have CUTT := Hid.mk hcutT
    obtain ⟨b0, b1, b2⟩ := box3_below HW1.out hbq
    clear hall hcutH hcutT
    by_cases hkn : k < n
    · have hknI : (k : Int) < (n : Int) := by omega
      obtain ⟨s, hs⟩ : ∃ s, L[k]? = some s := ⟨_, List.getElem?_eq_getElem (by rw [← HN.out]; exact hkn)⟩
      obtain ⟨g5, o5, hao, _, hg5, hc5⟩ := (H1.out.sl.below HBW.out).get hs
      subst hao
      obtain ⟨s0, s1, s2⟩ := get3 hc5
      have CB : Hid (∀ w5, Below wx.heap.size wx w5 → Calls Try.prog 25 #[encT s, encT t] w5 fun e w' => e = .returned (.bool (lessT s t)) ∧ Below wx.heap.size wx w') := Hid.mk (fun w5 hb5 => (less_any s t w5).mono (fun e w' ⟨h1, h2⟩ => ⟨h1, hb5.trans (h2.mono hb5.size)⟩))
      have HCC : Hid (∀ w5, Below wx.heap.size wx w5 → (w5.cell? ⟨g5, o5 + k * 3, none⟩ = some (strV s.1) ∧ w5.cell? ⟨g5, o5 + k * 3 + 1, none⟩ = some (strV s.2.1) ∧ w5.cell? ⟨g5, o5 + k * 3 + 2, none⟩ = some (strV s.2.2)) ∧ (w5.cell? ⟨w.heap.size, 0, none⟩ = some (strV t.1) ∧ w5.cell? ⟨w.heap.size, 1, none⟩ = some (strV t.2.1) ∧ w5.cell? ⟨w.heap.size, 2, none⟩ = some (strV t.2.2))) := Hid.mk (fun w5 hb5 => ⟨⟨(hb5.cell (p := ⟨g5, o5 + k * 3, none⟩) hg5).trans s0, (hb5.cell (p := ⟨g5, o5 + k * 3 + 1, none⟩) hg5).trans s1, (hb5.cell (p := ⟨g5, o5 + k * 3 + 2, none⟩) hg5).trans s2⟩, box3_below HW1.out (HBX.out.trans (hb5.mono HBX.out.size))⟩)
      have HD1 : Hid (Below wx.heap.size wx wx.drew) := Hid.mk (Below.refl _ _).drew
      clear hc5 hbq
      cases hB : lessT s t with
      | true =>
        rw [hB] at CB
        have HA2 : Hid (∀ (j : Nat) x, j < k + 1 → L[j]? = some x → lessT x t = true) := Hid.mk (fun j x hj hx => by
          by_cases e : j = k
          · subst e; rw [hs] at hx; rw [← Option.some.inj hx]; exact hB
          · exact HA.out j x (by omega) hx)
        clear hs hB slH slT
        go_wp2_with fail
        go_region_held3 (fun w' => (w'.cell? ⟨g5, o5 + k * 3, none⟩ = some (strV s.1) ∧ w'.cell? ⟨g5, o5 + k * 3 + 1, none⟩ = some (strV s.2.1) ∧ w'.cell? ⟨g5, o5 + k * 3 + 2, none⟩ = some (strV s.2.2)) ∧ (w'.cell? ⟨w.heap.size, 0, none⟩ = some (strV t.1) ∧ w'.cell? ⟨w.heap.size, 1, none⟩ = some (strV t.2.1) ∧ w'.cell? ⟨w.heap.size, 2, none⟩ = some (strV t.2.2)))
              (first | exact ⟨⟨s0, s1, s2⟩, ⟨b0, b1, b2⟩⟩ | exact ⟨⟨by assumption, by assumption, by assumption⟩, ⟨by assumption, by assumption, by assumption⟩⟩)
              (first | (go_at_call 25; refine (CB.out _ HD1.out).mono ?_; rintro e w4 ⟨rfl, hb4⟩; obtain ⟨⟨m0, m1, m2⟩, ⟨m3, m4, m5⟩⟩ := HCC.out w4 hb4; have HB4 := Hid.mk hb4; clear hb4))
        have HBN : Hid (Below W1.heap.size W1 w4) := Hid.mk (HBX.out.trans (HB4.out.mono HBX.out.size))
        go_wp2
        go_roundw
        case rel => exact ⟨k + 1, by omega, by go_num, HA2.out, HBN.out⟩
        case measure => simp [intOf]; omega
      | false =>
        rw [hB] at CB
        have HNX : Hid (∀ x, L[k]? = some x → lessT x t = false) := Hid.mk (fun x hx => by rw [hs] at hx; rw [← Option.some.inj hx]; exact hB)
        have HS := Hid.mk hs
        clear hs hB
        go_wp2_with fail
        go_region_held3 (fun w' => (w'.cell? ⟨g5, o5 + k * 3, none⟩ = some (strV s.1) ∧ w'.cell? ⟨g5, o5 + k * 3 + 1, none⟩ = some (strV s.2.1) ∧ w'.cell? ⟨g5, o5 + k * 3 + 2, none⟩ = some (strV s.2.2)) ∧ (w'.cell? ⟨w.heap.size, 0, none⟩ = some (strV t.1) ∧ w'.cell? ⟨w.heap.size, 1, none⟩ = some (strV t.2.1) ∧ w'.cell? ⟨w.heap.size, 2, none⟩ = some (strV t.2.2)))
              (first | exact ⟨⟨s0, s1, s2⟩, ⟨b0, b1, b2⟩⟩ | exact ⟨⟨by assumption, by assumption, by assumption⟩, ⟨by assumption, by assumption, by assumption⟩⟩)
              (first | (go_at_call 25; refine (CB.out _ HD1.out).mono ?_; rintro e w4 ⟨rfl, hb4⟩; obtain ⟨⟨m0, m1, m2⟩, ⟨m3, m4, m5⟩⟩ := HCC.out w4 hb4; have HB4 := Hid.mk hb4; clear hb4))
        have HBY : Hid (Below W1.heap.size W1 w4) := Hid.mk (HBX.out.trans (HB4.out.mono HBX.out.size))
        have HBYW := Hid.mk (HBI.out.trans (HBY.out.mono HBI.out.size))
        have heq := eqT s t
        by_cases hst : s = t
        · rw [decide_eq_true hst] at heq
          have HC9 : Hid (SlC cs3 3 (Plus S w.heap.size w4.drew.heap.size) w4.drew (.slice (some ⟨g5, o5, none⟩) n c1) (putT L t)) := Hid.mk (by
            rw [putT_at (k := k) (by rw [← HN.out]; exact hk) HA.out HNX.out, if_pos (by rw [HS.out, hst])]
            exact H1.out.plus HBYW.out.drew)
          clear slH slT hst
          go_wp2_with fail
          go_region
          go_wp2
          go_ret
          exact ⟨_, rfl, HC9.out, HBYW.out.drew⟩
        · rw [decide_eq_false hst] at heq
          have HNE : Hid (¬ L[k]? = some t) := Hid.mk (fun e => by rw [HS.out] at e; exact hst (Option.some.inj e))
          have CUTHY := Hid.mk (CUTH.out.below HB4.out)
          have CUTTY := Hid.mk (CUTT.out.below HB4.out)
          obtain ⟨wy, hwy⟩ : ∃ wy, wy = w4 := ⟨_, rfl⟩
          subst hwy
          clear hst
          have PUT : Hid (putT L t = L.take k ++ [t] ++ L.drop k) := Hid.mk (by
            rw [putT_at (k := k) (by rw [← HN.out]; exact hk) HA.out HNX.out, if_neg HNE.out])
          go_wp2_with fail
          go_region
          go_wp2_with (at_builtin; refine wpList_append_many rfl _ _ rfl Try.underlying34 hi0 hz0 hz1 hz2 rfl (by decide) (by rfl) (World.ownsRow_nil _ wy.heap.size _ _) aH ((L.take k).flatMap cs3) k cH (by rfl) (by rw [flat_len cs3_len, List.length_take, Nat.min_eq_left (by rw [← HN.out]; exact hk)]) CUTHY.out.none_ (CUTHY.out.cells cs3_len (by decide)) (one_cs3 _) ?c1 ?c2 (Nat.le_refl _) ?_)
          case c1 => unfold maxLen; omega
          case c2 => omega
          intro v1 w1 hown1 hgrow1
          have HB1 : Hid (Below wy.heap.size wy w1) := Hid.mk (Below.grown (Below.refl _ _).drew hgrow1 (Nat.le_refl _) (fun k hk => by cases hk))
          obtain ⟨a7, c7, rfl⟩ := own_slice hown1
          have HO1 := Hid.mk hown1
          obtain ⟨y0, y1, y2⟩ := box3_below HW1.out (HBY.out.trans (HB1.out.mono HBY.out.size))
          clear hown1 hgrow1 slH
          go_wp2_with (at_builtin; refine wpList_append_lies _ rfl _ _ _ rfl wy.heap.size 25 i0 _ 3 48 Try.underlying34 hi0 hz0 hz1 hz2 rfl (by decide) (.slice a7 k c7) _ _ (by rfl) (HO1.out.alloc _) ⟨w1.heap.size, 0, none⟩ 1 1 [strV t.1, strV t.2.1, strV t.2.2] (by rfl) (by rfl) ?d1 ?d2 (by decide) ?d3 ?d4 ?d5 (w1.heap.size + 1) (by simp) ?_)
          case d1 => exact World.news_of_block (cs := #[strV t.1, strV t.2.1, strV t.2.2]) (t := 25) (fr := (0, 0)) (heap_alloc_new w1 _)
          case d2 => simp [Value.oneCell']
          case d3 => unfold maxLen; omega
          case d4 => omega
          case d5 => have := HB1.out.size; simp; omega
          intro gg cap8 w8 hown8 hgrow8 _ _
          have HB8 : Hid (Below wy.heap.size wy w8) := Hid.mk ((HB1.out.alloc HB1.out.size _).grown hgrow8 (by have := HB1.out.size; simp; omega) (fun k hk => (HO1.out.lt k hk).1))
          have HO8 := Hid.mk hown8
          have CUTT8 := Hid.mk (CUTTY.out.below HB8.out)
          clear hown8 hgrow8 y0 y1 y2
          go_wp2_with (at_builtin; refine wpList_append_many rfl _ _ rfl Try.underlying34 hi0 hz0 hz1 hz2 rfl (by decide) (by rfl) HO8.out aT ((L.drop k).flatMap cs3) (n - k) cT (by rfl) (by rw [flat_len cs3_len, List.length_drop, ← HN.out]) CUTT8.out.none_ (CUTT8.out.cells cs3_len (by decide)) (one_cs3 _) ?f1 ?f2 HB8.out.size ?_)
          case f1 => unfold maxLen; omega
          case f2 => omega
          intro v9 w9 hown9 hgrow9
          have HB9 : Hid (Below wy.heap.size wy w9) := Hid.mk (HB8.out.grown hgrow9 HB8.out.size (fun k hk => (HO8.out.lt k hk).1))
          have HBF : Hid (Below w.heap.size w w9) := Hid.mk (HBYW.out.trans (HB9.out.mono HBYW.out.size))
          have HC9 : Hid (SlC cs3 3 (Plus S w.heap.size w9.heap.size) w9 v9 (putT L t)) := Hid.mk (by
            have e1 : (putT L t).flatMap cs3 = (L.take k).flatMap cs3 ++ strV t.1 :: strV t.2.1 :: strV t.2.2 :: (L.drop k).flatMap cs3 := by
              rw [PUT.out, List.flatMap_append, List.flatMap_append]; simp [cs3]
            have e2 : k + 1 + (n - k) = (putT L t).length := by
              rw [PUT.out, List.length_append, List.length_append, List.length_take, List.length_drop, ← HN.out]; simp; omega
            have h2 := hown9
            rw [← e1] at h2
            exact (own_slc cs3_len h2 e2).sub (fun g hg _ => .inr ⟨Nat.le_trans HBYW.out.size hg.1, hg.2⟩))
          clear hown9 hgrow9 slT
          go_wp2
          go_ret
          exact ⟨_, rfl, HC9.out, HBF.out⟩
    · have hknI : ¬ (k : Int) < (n : Int) := by omega
      have HNX : Hid (∀ x, L[k]? = some x → lessT x t = false) := Hid.mk (fun x hx => by rw [List.getElem?_eq_none (by rw [← HN.out]; omega)] at hx; cases hx)
      have HNE : Hid (¬ L[k]? = some t) := Hid.mk (fun e => by rw [List.getElem?_eq_none (by rw [← HN.out]; omega)] at e; cases e)
      have CUTHY := CUTH
      have CUTTY := CUTT
      obtain ⟨wy, hwy⟩ : ∃ wy, wy = wx := ⟨_, rfl⟩
      subst hwy
      have HBY := HBX
      have HBYW := HBW
      clear hbq
      have PUT : Hid (putT L t = L.take k ++ [t] ++ L.drop k) := Hid.mk (by
        rw [putT_at (k := k) (by rw [← HN.out]; exact hk) HA.out HNX.out, if_neg HNE.out])
      go_wp2_with fail
      go_region
      go_wp2_with fail
      go_region
      go_wp2_with (at_builtin; refine wpList_append_many rfl _ _ rfl Try.underlying34 hi0 hz0 hz1 hz2 rfl (by decide) (by rfl) (World.ownsRow_nil _ wy.heap.size _ _) aH ((L.take k).flatMap cs3) k cH (by rfl) (by rw [flat_len cs3_len, List.length_take, Nat.min_eq_left (by rw [← HN.out]; exact hk)]) CUTHY.out.none_ (CUTHY.out.cells cs3_len (by decide)) (one_cs3 _) ?cc1 ?cc2 (Nat.le_refl _) ?_)
      case cc1 => unfold maxLen; omega
      case cc2 => omega
      intro v1 w1 hown1 hgrow1
      have HB1 : Hid (Below wy.heap.size wy w1) := Hid.mk (Below.grown (Below.refl _ _).drew.drew hgrow1 (Nat.le_refl _) (fun k hk => by cases hk))
      obtain ⟨a7, c7, rfl⟩ := own_slice hown1
      have HO1 := Hid.mk hown1
      obtain ⟨y0, y1, y2⟩ := box3_below HW1.out (HBY.out.trans (HB1.out.mono HBY.out.size))
      clear hown1 hgrow1 slH
      go_wp2_with (at_builtin; refine wpList_append_lies _ rfl _ _ _ rfl wy.heap.size 25 i0 _ 3 48 Try.underlying34 hi0 hz0 hz1 hz2 rfl (by decide) (.slice a7 k c7) _ _ (by rfl) (HO1.out.alloc _) ⟨w1.heap.size, 0, none⟩ 1 1 [strV t.1, strV t.2.1, strV t.2.2] (by rfl) (by rfl) ?dd1 ?dd2 (by decide) ?dd3 ?dd4 ?dd5 (w1.heap.size + 1) (by simp) ?_)
      case dd1 => exact World.news_of_block (cs := #[strV t.1, strV t.2.1, strV t.2.2]) (t := 25) (fr := (0, 0)) (heap_alloc_new w1 _)
      case dd2 => simp [Value.oneCell']
      case dd3 => unfold maxLen; omega
      case dd4 => omega
      case dd5 => have := HB1.out.size; simp; omega
      intro gg cap8 w8 hown8 hgrow8 _ _
      have HB8 : Hid (Below wy.heap.size wy w8) := Hid.mk ((HB1.out.alloc HB1.out.size _).grown hgrow8 (by have := HB1.out.size; simp; omega) (fun k hk => (HO1.out.lt k hk).1))
      have HO8 := Hid.mk hown8
      have CUTT8 := Hid.mk (CUTTY.out.below HB8.out)
      clear hown8 hgrow8 y0 y1 y2
      go_wp2_with (at_builtin; refine wpList_append_many rfl _ _ rfl Try.underlying34 hi0 hz0 hz1 hz2 rfl (by decide) (by rfl) HO8.out aT ((L.drop k).flatMap cs3) (n - k) cT (by rfl) (by rw [flat_len cs3_len, List.length_drop, ← HN.out]) CUTT8.out.none_ (CUTT8.out.cells cs3_len (by decide)) (one_cs3 _) ?ff1 ?ff2 HB8.out.size ?_)
      case ff1 => unfold maxLen; omega
      case ff2 => omega
      intro v9 w9 hown9 hgrow9
      have HB9 : Hid (Below wy.heap.size wy w9) := Hid.mk (HB8.out.grown hgrow9 HB8.out.size (fun k hk => (HO8.out.lt k hk).1))
      have HBF : Hid (Below w.heap.size w w9) := Hid.mk (HBYW.out.trans (HB9.out.mono HBYW.out.size))
      have HC9 : Hid (SlC cs3 3 (Plus S w.heap.size w9.heap.size) w9 v9 (putT L t)) := Hid.mk (by
        have e1 : (putT L t).flatMap cs3 = (L.take k).flatMap cs3 ++ strV t.1 :: strV t.2.1 :: strV t.2.2 :: (L.drop k).flatMap cs3 := by
          rw [PUT.out, List.flatMap_append, List.flatMap_append]; simp [cs3]
        have e2 : k + 1 + (n - k) = (putT L t).length := by
          rw [PUT.out, List.length_append, List.length_append, List.length_take, List.length_drop, ← HN.out]; simp; omega
        have h2 := hown9
        rw [← e1] at h2
        exact (own_slc cs3_len h2 e2).sub (fun g hg _ => .inr ⟨Nat.le_trans HBYW.out.size hg.1, hg.2⟩))
      clear hown9 hgrow9 slT
      go_wp2
      go_ret
      exact ⟨_, rfl, HC9.out, HBF.out⟩
end Go.Proofs.Ytiabnjjdeikefaa
