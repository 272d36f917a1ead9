/- Homes of the document. -/
import Derived.Test.YtiabnjjdeikefaaSRef6
namespace Go.Proofs.Ytiabnjjdeikefaa
open Go.RowKit

theorem homesB_false {All : List (List Tri)} {worker n : Int} {F : List Tri} {t : Tri} (hF : F ∈ All) (ht : t ∈ F) (hb : homeB worker n t.1 = false) : homesB All worker n = false := by
  cases he : homesB All worker n with
  | false => rfl
  | true =>
    simp only [homesB, List.all_eq_true] at he
    rw [he F hF t ht] at hb; cases hb
theorem box1_below {w W1 wr : World} {v : Value} {y : TypeId} (hW1 : W1 = w.alloc (.cells #[v] y)) (hb : Below W1.heap.size W1 wr) : wr.cell? ⟨w.heap.size, 0, none⟩ = some v := by
  have hx : W1.heap[w.heap.size]? = some (.cells #[v] y) := by rw [hW1]; exact box_at w _
  rw [hb.cell (p := ⟨w.heap.size, 0, none⟩) (lt_of_block hx), hW1]
  exact cell_new_at w 0 rfl
set_option maxHeartbeats 4000000 in
set_option maxRecDepth 100000 in
theorem rHomes_any {S : Nat → Prop} {w : World} {v : Value} {ps : List (Value × List Tri)} (h : RAll S w v ps) (hl : ps.length ≤ 1000000) (hw : ∀ p ∈ ps, p.2.length ≤ 1000000 ∧ ∀ t ∈ p.2, isTW t = true) (worker m : Int) (hm1 : 1 ≤ m) (hm2 : m ≤ 64) :
    Calls Try.prog 22 #[.agg #[v], .int .i64 worker, .int .i64 m] w fun e w' => e = .returned (.bool (homesB (ps.map (·.2)) worker m)) ∧ Below w.heap.size w w' := by
  obtain ⟨a1, c1, hv1⟩ := h.sl.sl.slice
  subst hv1
  have H1 := Hid.mk h
  obtain ⟨n, hn⟩ : ∃ n, n = ps.length := ⟨_, rfl⟩
  rw [← hn] at H1 hl ⊢
  have HN := Hid.mk hn
  have HWD := Hid.mk hw
  obtain ⟨ans, hans⟩ : ∃ a, a = homesB (ps.map (·.2)) worker m := ⟨_, rfl⟩
  rw [← hans]
  have HANS := Hid.mk hans
  clear hn h hw hans
  obtain ⟨W1, hW1⟩ : ∃ W1, W1 = w.alloc (.cells #[.slice a1 n c1] 30) := ⟨_, rfl⟩
  have HW1 := Hid.mk hW1
  have HBI : Hid (Below w.heap.size w W1) := Hid.mk (by rw [hW1]; exact (Below.refl _ _).alloc (Nat.le_refl _) _)
  clear hW1
  go_enter Try.func22, Try.ntmps22
  go_wp2_with fail
  rw [← HW1.out]
  go_loopw [7] (fun c wr => ∃ i : Nat, i ≤ n ∧ c = .int .i64 i ∧ (∀ p ∈ ps.take i, ∀ t ∈ p.2, homeB worker m t.1 = true) ∧ Below W1.heap.size W1 wr) (fun c _ => n - (intOf c).toNat)
  case atStart => exact ⟨0, Nat.zero_le _, rfl, by simp, Below.refl _ _⟩
  case round =>
    obtain ⟨i, hi, rfl, hall, hbq⟩ := hrel
    have HA := Hid.mk hall
    have HBQ := Hid.mk hbq
    have HBW := Hid.mk (HBI.out.trans (hbq.mono HBI.out.size))
    have b0 := box1_below HW1.out hbq
    clear hall hbq
    by_cases hlt : i < n
    · have hltI : (i : Int) < (n : Int) := by omega
      obtain ⟨p, hp⟩ : ∃ p, ps[i]? = some p := ⟨_, List.getElem?_eq_getElem (by rw [← HN.out]; exact hlt)⟩
      have hpm := List.mem_of_getElem? hp
      obtain ⟨a2, c2, hv2⟩ := (H1.out.lists p hpm).sl.slice
      obtain ⟨nf, hnf⟩ : ∃ nf, nf = p.2.length := ⟨_, rfl⟩
      have hfl : nf ≤ 1000000 := by rw [hnf]; exact (HWD.out p hpm).1
      rw [← hnf] at hv2
      have HNF := Hid.mk hnf
      have HPL : Hid (TrisS S w (.slice a2 nf c2) p.2) := Hid.mk (by rw [← hv2]; exact (H1.out.lists p hpm).sl)
      have HC : Hid (∀ u, Below W1.heap.size W1 u → ∃ g1 o1, a1 = some ⟨g1, o1, none⟩ ∧ u.cell? ⟨g1, o1 + i, none⟩ = some (.slice a2 nf c2)) := Hid.mk (fun u hu => by
        obtain ⟨g1, o1, hao, _, hgb, hc1⟩ := (H1.out.sl.sl.below (HBI.out.trans (hu.mono HBI.out.size))).get hp
        refine ⟨g1, o1, hao, ?_⟩
        have := hc1 0 _ rfl
        rw [← hv2]
        rw [show o1 + i * 1 + 0 = o1 + i by omega] at this
        exact this)
      have HTK : Hid (ps.take (i + 1) = ps.take i ++ [p]) := Hid.mk (by rw [List.take_add_one, hp]; rfl)
      have HP := Hid.mk hpm
      obtain ⟨g1, o1, hao, q0⟩ := HC.out wr HBQ.out
      subst hao
      clear hp hpm hv2 hnf q0
      go_wp2_with fail
      go_loopw [8] (fun c wr => ∃ k : Nat, k ≤ nf ∧ c = .int .i64 k ∧ (∀ t ∈ p.2.take k, homeB worker m t.1 = true) ∧ Below W1.heap.size W1 wr) (fun c _ => nf - (intOf c).toNat)
      case atStart => exact ⟨0, Nat.zero_le _, rfl, by simp, HBQ.out⟩
      case round =>
        obtain ⟨k, hk, rfl, hallk, hbk⟩ := hrel
        have HAK := Hid.mk hallk
        have HBK := Hid.mk hbk
        have HBKW := Hid.mk (HBI.out.trans (hbk.mono HBI.out.size))
        have b0 := box1_below HW1.out hbk
        obtain ⟨g1', o1', hao, q0⟩ := HC.out wr hbk
        obtain ⟨rfl, rfl⟩ : g1 = g1' ∧ o1 = o1' := by
          have := Option.some.inj hao
          injection this with a b _
          exact ⟨a, b⟩
        clear hallk hbk hao
        by_cases hkn : k < nf
        · have hknI : (k : Int) < (nf : Int) := by omega
          obtain ⟨x, hx⟩ : ∃ x, p.2[k]? = some x := ⟨_, List.getElem?_eq_getElem (by rw [← HNF.out]; exact hkn)⟩
          have hxm := List.mem_of_getElem? hx
          obtain ⟨g5, o5, hao, _, hg5, hc5⟩ := (HPL.out.below HBKW.out).get hx
          subst hao
          obtain ⟨s0, s1, s2⟩ := get3 hc5
          have hwl := isW_len (isTW_parts ((HWD.out p HP.out).2 x hxm)).1
          have CH := Hid.mk (fun W => rHome_good ⟨x.1.toArray⟩ m W (by rw [size_list]; omega) hm1 hm2 (by rw [size_list]; omega))
          obtain ⟨hv, hhv⟩ : ∃ hv : Int, hv = ((sumN x.1 : Nat) : Int) % m := ⟨_, rfl⟩
          rw [show ((sumN (ByteArray.mk x.1.toArray).data.toList : Nat) : Int) % m = hv from hhv.symm] at CH
          have HNO : Hid (hv ≠ worker → ans = false) := Hid.mk (fun h => by
            rw [HANS.out]
            refine homesB_false (List.mem_map.2 ⟨p, HP.out, rfl⟩) hxm ?_
            simp only [homeB]
            exact decide_eq_false (fun h3 => h (by rw [hhv]; exact h3.2.2)))
          have HYES : Hid (hv = worker → ∀ t ∈ p.2.take (k + 1), homeB worker m t.1 = true) := Hid.mk (fun h t ht => by
            rw [List.take_add_one, hx] at ht
            rcases List.mem_append.1 ht with ht | ht
            · exact HAK.out t ht
            · simp at ht
              subst ht
              simp only [homeB]
              exact decide_eq_true ⟨hm1, hm2, by rw [← hhv]; exact h⟩)
          clear hx hxm hc5 hwl hhv
          go_wp2_with fail
          refine (CH.out _).mono ?_
          rintro e w5 ⟨rfl, hb5⟩
          have HB5 := Hid.mk (HBK.out.trans (hb5.mono HBK.out.size))
          have HB5W := Hid.mk (HBI.out.trans (HB5.out.mono HBI.out.size))
          clear hb5 b0 q0 s0 s1 s2
          by_cases hhw : hv = worker
          · have HR := Hid.mk (HYES.out hhw)
            have hw2 : (hv != worker) = false := by simpa using hhw
            clear hhw
            go_wp2
            go_roundw
            case rel => exact ⟨k + 1, by omega, by go_num, HR.out, HB5.out⟩
            case measure => simp [intOf]; omega
          · have HF := Hid.mk (HNO.out hhw)
            have hw2 : (hv != worker) = true := by simpa using hhw
            clear hhw
            go_wp2
            go_ret
            exact ⟨by rw [HF.out]; rfl, HB5W.out⟩
        · have hknI : ¬ (k : Int) < (nf : Int) := by omega
          have HA2 : Hid (∀ p ∈ ps.take (i + 1), ∀ t ∈ p.2, homeB worker m t.1 = true) := Hid.mk (fun p' hp' t ht => by
            rw [HTK.out] at hp'
            rcases List.mem_append.1 hp' with hp' | hp'
            · exact HA.out p' hp' t ht
            · simp at hp'
              subst hp'
              have := HAK.out t
              rw [List.take_of_length_le (by rw [← HNF.out]; omega)] at this
              exact this ht)
          go_wp2
          go_roundw
          case rel => exact ⟨i + 1, by omega, by go_num, HA2.out, HBK.out⟩
          case measure => simp [intOf]; omega
    · have hltI : ¬ (i : Int) < (n : Int) := by omega
      have HT : Hid (ans = true) := Hid.mk (by
        rw [HANS.out]
        simp only [homesB, List.all_eq_true]
        intro F hF t ht
        obtain ⟨p, hp, rfl⟩ := List.mem_map.1 hF
        refine HA.out p ?_ t ht
        rw [List.take_of_length_le (by rw [← HN.out]; omega)]
        exact hp)
      go_wp2
      go_ret
      exact ⟨by rw [HT.out]; rfl, HBW.out⟩
end Go.Proofs.Ytiabnjjdeikefaa
