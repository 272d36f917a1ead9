/- Match of the document. -/
import Derived.Test.YtiabnjjdeikefaaSRef5
namespace Go.Proofs.Ytiabnjjdeikefaa
open Go.RowKit

set_option maxHeartbeats 4000000 in
set_option maxRecDepth 100000 in
theorem rMatch_any {S : Nat → Prop} {w : World} {v : Value} {ps : List (Value × List Tri)} (h : RAll S w v ps) (hl : ∀ p ∈ ps, p.2.length ≤ 1000000) (ver : Int) (like : Tri) :
    Calls Try.prog 19 #[.agg #[v], .int .i64 ver, encT like] w fun e w' => ∃ x, e = .returned (.tuple #[x, .int .i64 (maE (ps.map (·.2)) ver : Int)]) ∧ SlC cs3 3 (Plus S w.heap.size w'.heap.size) w' x (maL (ps.map (·.2)) ver like) ∧ Below w.heap.size w w' := by
  obtain ⟨i0, hi0, hz0, hz1, hz2⟩ := info_parts infoT
  obtain ⟨L, hL⟩ : ∃ L, L = (verO (ps.map (·.2)) ver).getD [] := ⟨_, rfl⟩
  have hML : maL (ps.map (·.2)) ver like = L.filter (likeT like) := by unfold maL; rw [hL]
  have hLl : L.length ≤ 1000000 := by
    rw [hL]
    cases hv : verO (ps.map (·.2)) ver with
    | none => simp
    | some F =>
      have hm : F ∈ ps.map (·.2) := by
        unfold verO at hv
        by_cases e : ver < 0
        · rw [if_pos e] at hv; cases hv
        · rw [if_neg e] at hv; exact List.mem_of_getElem? hv
      obtain ⟨p, hp, rfl⟩ := List.mem_map.1 hm
      exact hl p hp
  rw [hML]
  obtain ⟨W0, hW0⟩ : ∃ W0, W0 = w.alloc (.cells #[v] 30) := ⟨_, rfl⟩
  have hs0 : W0.heap.size = w.heap.size + 1 := by rw [hW0]; simp
  obtain ⟨W1, hW1⟩ : ∃ W1, W1 = W0.alloc (.cells #[strV like.1, strV like.2.1, strV like.2.2] 25) := ⟨_, rfl⟩
  have hb0 : Below w.heap.size w W0 := by rw [hW0]; exact (Below.refl _ _).alloc (Nat.le_refl _) _
  have hb1 : Below w.heap.size w W1 := by rw [hW1]; exact hb0.alloc hb0.size _
  have HBX : Hid (∀ u, Below W1.heap.size W1 u → u.cell? ⟨w.heap.size + 1, 0, none⟩ = some (strV like.1) ∧ u.cell? ⟨w.heap.size + 1, 1, none⟩ = some (strV like.2.1) ∧ u.cell? ⟨w.heap.size + 1, 2, none⟩ = some (strV like.2.2)) := Hid.mk (fun u hu => by
    have := box3_below hW1 hu
    rw [hs0] at this
    exact this)
  have CF := Hid.mk (rFacts_any (h.below hb1) ver)
  rw [← hL] at CF
  obtain ⟨er, her⟩ : ∃ er, er = maE (ps.map (·.2)) ver := ⟨_, rfl⟩
  rw [← her] at CF ⊢
  have HE : Hid (er = 0 ∨ (er = 71 ∧ L = [])) := Hid.mk (by
    rw [her, maE, hL]
    cases hv : verO (ps.map (·.2)) ver with
    | none => exact .inr ⟨rfl, rfl⟩
    | some F => exact .inl rfl)
  have HW0 := Hid.mk hW0
  have HW1 := Hid.mk hW1
  have HB1 := Hid.mk hb1
  clear hL hML her hW0 hW1 hb0 hb1 h hl hs0
  go_enter Try.func19, Try.ntmps19
  go_wp2_with fail
  rw [← HW0.out, ← HW1.out]
  refine CF.out.mono ?_
  rintro e w2 ⟨x, rfl, hx2, hb2⟩
  have HX2 := Hid.mk hx2
  have HB2 := Hid.mk hb2
  have HBW2 := Hid.mk (HB1.out.trans (hb2.mono HB1.out.size))
  clear CF hx2 hb2
  rcases HE.out with he | ⟨he, hLe⟩
  · subst he
    obtain ⟨a1, c1, hv1⟩ := HX2.out.sl.slice
    subst hv1
    obtain ⟨n, hn⟩ : ∃ n, n = L.length := ⟨_, rfl⟩
    rw [← hn] at HX2 hLl ⊢
    have HN := Hid.mk hn
    clear hn
    go_wp2_with fail
    go_loopw [10, 11] (fun s10 c wr => ∃ (i : Nat) (vl : Value), vl = s10 ∧ i ≤ n ∧ c = .int .i64 i ∧ wr.ownsRow w2.heap.size 25 3 vl ((L.take i).filter (likeT like)).length (((L.take i).filter (likeT like)).flatMap cs3) ∧ Below w2.heap.size w2 wr) (fun _ c _ => n - (intOf c).toNat)
    case atStart => exact ⟨0, _, rfl, Nat.zero_le _, rfl, ⟨rfl, .inl ⟨rfl, rfl⟩⟩, Below.refl _ _⟩
    case round =>
      obtain ⟨i, vl, rfl, hi, rfl, hr4, hbq⟩ := hrel
      obtain ⟨wx, hwx⟩ : ∃ wx, wx = wr := ⟨_, rfl⟩
      subst hwx
      obtain ⟨av, cv, hvl⟩ := own_slice hr4
      subst hvl
      obtain ⟨nl, hnl⟩ : ∃ nl, nl = ((L.take i).filter (likeT like)).length := ⟨_, rfl⟩
      have hnll : nl ≤ 1000000 := by
        rw [hnl]
        have h1 := List.length_filter_le (likeT like) (L.take i)
        rw [List.length_take] at h1
        omega
      rw [← hnl] at hr4 ⊢
      have HNL := Hid.mk hnl
      have HR4 := Hid.mk hr4
      have HBQ := Hid.mk hbq
      have HBQ1 := Hid.mk (HB2.out.trans (hbq.mono HB2.out.size))
      have HBW := Hid.mk (HBW2.out.trans (hbq.mono HBW2.out.size))
      have hs4 : w2.heap.size ≤ wx.heap.size := hbq.size
      clear hr4 hnl
      by_cases hlt : i < n
      · have hltI : (i : Int) < (n : Int) := by omega
        obtain ⟨s, hs⟩ : ∃ s, L[i]? = some s := ⟨_, List.getElem?_eq_getElem (by rw [← HN.out]; exact hlt)⟩
        obtain ⟨g5, o5, hao, _, hg5, hc5⟩ := (HX2.out.sl.below hbq).get hs
        subst hao
        obtain ⟨s0, s1, s2⟩ := get3 hc5
        obtain ⟨b0, b1, b2⟩ := HBX.out wx HBQ1.out
        have CB : Hid (∀ w5, Below wx.heap.size wx w5 → Calls Try.prog 26 #[encT s, encT like] w5 fun e w' => e = .returned (.bool (likeT like s)) ∧ Below wx.heap.size wx w') := Hid.mk (fun w5 hb5 => (like_any s like w5).mono (fun e w' ⟨h1, h2⟩ => ⟨h1, hb5.trans (h2.mono hb5.size)⟩))
        have HCC : Hid (∀ w5, Below wx.heap.size wx w5 → (w5.cell? ⟨g5, o5 + i * 3, none⟩ = some (strV s.1) ∧ w5.cell? ⟨g5, o5 + i * 3 + 1, none⟩ = some (strV s.2.1) ∧ w5.cell? ⟨g5, o5 + i * 3 + 2, none⟩ = some (strV s.2.2)) ∧ (w5.cell? ⟨w.heap.size + 1, 0, none⟩ = some (strV like.1) ∧ w5.cell? ⟨w.heap.size + 1, 1, none⟩ = some (strV like.2.1) ∧ w5.cell? ⟨w.heap.size + 1, 2, none⟩ = some (strV like.2.2))) := Hid.mk (fun w5 hb5 => ⟨⟨(hb5.cell (p := ⟨g5, o5 + i * 3, none⟩) hg5).trans s0, (hb5.cell (p := ⟨g5, o5 + i * 3 + 1, none⟩) hg5).trans s1, (hb5.cell (p := ⟨g5, o5 + i * 3 + 2, none⟩) hg5).trans s2⟩, HBX.out w5 (HBQ1.out.trans (hb5.mono HBQ1.out.size))⟩)
        have HD1 : Hid (Below wx.heap.size wx wx.drew) := Hid.mk (Below.refl _ _).drew
        have HSX := Hid.mk hs
        clear hc5 hbq hs
        cases hB : likeT like s with
        | false =>
          rw [hB] at CB
          have HF2 := Hid.mk (filt_snoc_no HSX.out hB)
          clear hB
          go_wp2_with fail
          go_region_held3 (fun w' => (w'.cell? ⟨g5, o5 + i * 3, none⟩ = some (strV s.1) ∧ w'.cell? ⟨g5, o5 + i * 3 + 1, none⟩ = some (strV s.2.1) ∧ w'.cell? ⟨g5, o5 + i * 3 + 2, none⟩ = some (strV s.2.2)) ∧ (w'.cell? ⟨w.heap.size + 1, 0, none⟩ = some (strV like.1) ∧ w'.cell? ⟨w.heap.size + 1, 1, none⟩ = some (strV like.2.1) ∧ w'.cell? ⟨w.heap.size + 1, 2, none⟩ = some (strV like.2.2)))
              (first | exact ⟨⟨s0, s1, s2⟩, ⟨b0, b1, b2⟩⟩ | exact ⟨⟨by assumption, by assumption, by assumption⟩, ⟨by assumption, by assumption, by assumption⟩⟩)
              (first | (go_at_call 26; refine (CB.out _ HD1.out).mono ?_; rintro e w4 ⟨rfl, hb4⟩; obtain ⟨⟨m0, m1, m2⟩, ⟨m3, m4, m5⟩⟩ := HCC.out w4 hb4; have HB4 := Hid.mk hb4; clear hb4))
          have HBN : Hid (Below w2.heap.size w2 w4) := Hid.mk (HBQ.out.trans (HB4.out.mono HBQ.out.size))
          have HR5 : Hid (w4.ownsRow w2.heap.size 25 3 (.slice av nl cv) ((L.take (i + 1)).filter (likeT like)).length (((L.take (i + 1)).filter (likeT like)).flatMap cs3)) := Hid.mk (by rw [HF2.out, ← HNL.out]; exact owns_below HR4.out HB4.out)
          go_wp2
          go_roundw
          case rel => exact ⟨i + 1, _, rfl, by omega, by go_num, HR5.out, HBN.out⟩
          case measure => simp [intOf]; omega
        | true =>
          rw [hB] at CB
          have HF2 := Hid.mk (filt_snoc_yes HSX.out hB)
          clear hB
          go_wp2_with fail
          go_region_held3 (fun w' => (w'.cell? ⟨g5, o5 + i * 3, none⟩ = some (strV s.1) ∧ w'.cell? ⟨g5, o5 + i * 3 + 1, none⟩ = some (strV s.2.1) ∧ w'.cell? ⟨g5, o5 + i * 3 + 2, none⟩ = some (strV s.2.2)) ∧ (w'.cell? ⟨w.heap.size + 1, 0, none⟩ = some (strV like.1) ∧ w'.cell? ⟨w.heap.size + 1, 1, none⟩ = some (strV like.2.1) ∧ w'.cell? ⟨w.heap.size + 1, 2, none⟩ = some (strV like.2.2)))
              (first | exact ⟨⟨s0, s1, s2⟩, ⟨b0, b1, b2⟩⟩ | exact ⟨⟨by assumption, by assumption, by assumption⟩, ⟨by assumption, by assumption, by assumption⟩⟩)
              (first | (go_at_call 26; refine (CB.out _ HD1.out).mono ?_; rintro e w4 ⟨rfl, hb4⟩; obtain ⟨⟨m0, m1, m2⟩, ⟨m3, m4, m5⟩⟩ := HCC.out w4 hb4; have HB4 := Hid.mk hb4; clear hb4))
          have HBN : Hid (Below w2.heap.size w2 w4) := Hid.mk (HBQ.out.trans (HB4.out.mono HBQ.out.size))
          have HR5 : Hid (w4.ownsRow w2.heap.size 25 3 (.slice av nl cv) nl (((L.take i).filter (likeT like)).flatMap cs3)) := Hid.mk (owns_below HR4.out HB4.out)
          have hs5 : w2.heap.size ≤ w4.heap.size := HBN.out.size
          clear s0 s1 s2 b0 b1 b2
          go_wp2_with (at_builtin; refine wpList_append_lies _ rfl _ _ _ rfl w2.heap.size 25 i0 _ 3 48 Try.underlying34 hi0 hz0 hz1 hz2 rfl (by decide) (.slice av nl cv) _ _ (by rfl) (HR5.out.alloc _) ⟨w4.heap.size, 0, none⟩ 1 1 [strV s.1, strV s.2.1, strV s.2.2] (by rfl) (by rfl) ?d1 ?d2 (by decide) ?d3 ?d4 ?d5 (w4.heap.size + 1) (by simp) ?_)
          case d1 => exact World.news_of_block (cs := #[strV s.1, strV s.2.1, strV s.2.2]) (t := 25) (fr := (0, 0)) (heap_alloc_new w4 _)
          case d2 => simp [Value.oneCell']
          case d3 => unfold maxLen; omega
          case d4 => omega
          case d5 => simp; omega
          intro gg cap2 w9 hown9 hgrow9 hat9 hlt9
          have ba : Below w4.heap.size w4 (w4.alloc (.cells #[strV s.1, strV s.2.1, strV s.2.2] 25)) := (Below.refl _ _).alloc (Nat.le_refl _) _
          have HB9 : Hid (Below w2.heap.size w2 w9) := Hid.mk ((HBN.out.trans (ba.mono HBN.out.size)).grown hgrow9 (by simp; omega) (fun k e => (HR5.out.lt k e).1))
          have HR9 : Hid (w9.ownsRow w2.heap.size 25 3 (.slice (some ⟨gg, 0, none⟩) (nl + 1) cap2) ((L.take (i + 1)).filter (likeT like)).length (((L.take (i + 1)).filter (likeT like)).flatMap cs3)) := Hid.mk (by
            rw [HF2.out, List.length_append, ← HNL.out, List.flatMap_append]
            have h2 := hown9
            simpa [cs3] using h2)
          clear hown9 hgrow9 hat9 hlt9 ba
          go_wp2
          go_roundw
          case rel => exact ⟨i + 1, _, rfl, by omega, by go_num, HR9.out, HB9.out⟩
          case measure => simp [intOf]; omega
      · have hltI : ¬ (i : Int) < (n : Int) := by omega
        have HF : Hid (SlC cs3 3 (Plus S w.heap.size wx.heap.size) wx (.slice av nl cv) (L.filter (likeT like))) := Hid.mk (by
          have e : L.take i = L := List.take_of_length_le (by rw [← HN.out]; omega)
          have h1 := HR4.out
          have h2 := HNL.out
          rw [e] at h1 h2
          exact (own_slc cs3_len h1 h2).sub (fun g hg _ => .inr ⟨Nat.le_trans HBW2.out.size hg.1, hg.2⟩))
        clear hbq
        go_wp2
        go_ret2
        exact ⟨_, rfl, HF.out, HBW.out⟩
  · subst he
    have HLE := Hid.mk hLe
    clear hLe
    go_wp2
    go_ret2
    exact ⟨_, rfl, by rw [HLE.out]; exact SlC.nil _ _, HBW2.out⟩
end Go.Proofs.Ytiabnjjdeikefaa
