/- Done, New, Facts of the document. -/
import Derived.Test.YtiabnjjdeikefaaSRef3
namespace Go.Proofs.Ytiabnjjdeikefaa
open Go.RowKit

theorem plus_plus {S : Nat → Prop} {a b c k : Nat} (h : Plus (Plus S a b) b c k) (hab : a ≤ b) (hbc : b ≤ c) : Plus S a c k := by
  rcases h with (h | h) | h
  · exact .inl h
  · exact .inr ⟨h.1, by omega⟩
  · exact .inr ⟨by omega, h.2⟩
theorem doneT_take {L : List Tri} {bt : List Chg} {i : Nat} {c : Chg} (hc : bt[i]? = some c) : doneT L (bt.take (i + 1)) = stepT (doneT L (bt.take i)) c := by
  rw [List.take_add_one, hc]
  exact doneT_snoc L (bt.take i) c
set_option maxHeartbeats 4000000 in
set_option maxRecDepth 100000 in
theorem rDone_any {S : Nat → Prop} {w : World} {v vb : Value} {L : List Tri} {bt : List Chg} (h : SlC cs3 3 S w v L) (hb : ChgsA w vb bt) (hl : L.length + bt.length ≤ 1000000) :
    Calls Try.prog 13 #[v, vb] w fun e w' => ∃ v', e = .returned v' ∧ SlC cs3 3 (Plus S w.heap.size w'.heap.size) w' v' (doneT L bt) ∧ Below w.heap.size w w' := by
  obtain ⟨a1, c1, hv1⟩ := hb.1.slice
  subst hv1
  have H1 := Hid.mk h
  have H2 := Hid.mk hb
  obtain ⟨n, hn⟩ : ∃ n, n = bt.length := ⟨_, rfl⟩
  rw [← hn] at H2 hl ⊢
  have HN := Hid.mk hn
  have hnl : n ≤ 1000000 := by omega
  have HL := Hid.mk hl
  clear hn h hb hl
  go_enter Try.func13, Try.ntmps13
  go_wp2_with fail
  go_loopw [0, 5] (fun s2 c wr => ∃ (i : Nat) (vl : Value), vl = s2 ∧ i ≤ n ∧ c = .int .i64 i ∧ SlC cs3 3 (Plus S w.heap.size wr.heap.size) wr vl (doneT L (bt.take i)) ∧ Below w.heap.size w wr) (fun _ c _ => n - (intOf c).toNat)
  case atStart => exact ⟨0, _, rfl, Nat.zero_le _, rfl, H1.out.plus (Below.refl _ _), Below.refl _ _⟩
  case round =>
    obtain ⟨i, vl, rfl, hi, rfl, hl4, hbq⟩ := hrel
    obtain ⟨av, cv, hvl⟩ := hl4.sl.slice
    have HS4 := Hid.mk hl4
    have HBQ := Hid.mk hbq
    by_cases hlt : i < n
    · have hltI : (i : Int) < (n : Int) := by omega
      obtain ⟨c, hc⟩ : ∃ c, bt[i]? = some c := ⟨_, List.getElem?_eq_getElem (by rw [← HN.out]; exact hlt)⟩
      obtain ⟨g1, o1, hao, _, hgb, hc1⟩ := (H2.out.below hbq).1.get hc
      subst hao
      obtain ⟨p0, p1, p2, p3⟩ := get4 hc1
      have hlen : (doneT L (bt.take i)).length ≤ 1000000 := by
        have h1 := doneT_len (bt.take i) L
        have h2 := HL.out
        rw [List.length_take] at h1
        omega
      have HST := Hid.mk (doneT_take (L := L) hc)
      have CD := Hid.mk (rDrop_any hl4.sl hlen c.2)
      have CP := Hid.mk (rPut_any hl4 hlen c.2)
      obtain ⟨gn, hgn⟩ : ∃ gn, gn = c.1 := ⟨_, rfl⟩
      rw [← hgn] at p0
      have HG := Hid.mk hgn
      clear hc hl4 hbq hc1 hgn hlen hvl
      cases gn with
      | true =>
        go_wp2_with fail
        refine CD.out.mono ?_
        rintro e w2 ⟨v2, rfl, hr2, hb2⟩
        have HB2 := Hid.mk (HBQ.out.trans (hb2.mono HBQ.out.size))
        have HS2 : Hid (SlC cs3 3 (Plus S w.heap.size w2.heap.size) w2 v2 (doneT L (bt.take (i + 1)))) := Hid.mk (by
          rw [HST.out, stepT, if_pos HG.out.symm]
          exact (own_slc cs3_len hr2 rfl).sub (fun g hg _ => .inr ⟨Nat.le_trans HBQ.out.size hg.1, hg.2⟩))
        clear hb2 hr2 CD CP p0 p1 p2 p3
        go_wp2
        go_roundw
        case rel => exact ⟨i + 1, _, rfl, by omega, by go_num, HS2.out, HB2.out⟩
        case measure => simp [intOf]; omega
      | false =>
        go_wp2_with fail
        refine CP.out.mono ?_
        rintro e w2 ⟨v2, rfl, hr2, hb2⟩
        have HB2 := Hid.mk (HBQ.out.trans (hb2.mono HBQ.out.size))
        have HS2 : Hid (SlC cs3 3 (Plus S w.heap.size w2.heap.size) w2 v2 (doneT L (bt.take (i + 1)))) := Hid.mk (by
          rw [HST.out, stepT, if_neg (by rw [← HG.out]; simp)]
          exact hr2.sub (fun g hg _ => plus_plus hg HBQ.out.size hb2.size))
        clear hb2 hr2 CD CP p0 p1 p2 p3
        go_wp2
        go_roundw
        case rel => exact ⟨i + 1, _, rfl, by omega, by go_num, HS2.out, HB2.out⟩
        case measure => simp [intOf]; omega
    · have hltI : ¬ (i : Int) < (n : Int) := by omega
      have HF : Hid (SlC cs3 3 (Plus S w.heap.size wr.heap.size) wr vl (doneT L bt)) := Hid.mk (by
        have := HS4.out
        rw [List.take_of_length_le (by rw [← HN.out]; omega)] at this
        exact this)
      clear hl4 hvl
      go_wp2
      go_ret
      exact ⟨_, rfl, HF.out, HBQ.out⟩
end Go.Proofs.Ytiabnjjdeikefaa
