/- Is and May of the document. -/
import Derived.Test.YtiabnjjdeikefaaSRefM
namespace Go.Proofs.Ytiabnjjdeikefaa
open Go.RowKit

set_option maxHeartbeats 2000000 in
set_option maxRecDepth 100000 in
theorem rIsT_any (t : Tri) (w : World) (hf : FineT t) : Calls Try.prog 27 #[encT t] w fun e w' => e = .returned (.bool (isTW t)) ∧ Below w.heap.size w w' := by
  have HB : Hid (∀ a : Obj, Below w.heap.size w (w.alloc a)) := Hid.mk (fun a => (Below.refl _ _).alloc (Nat.le_refl _) _)
  obtain ⟨a, b, c⟩ := t
  obtain ⟨f1, f2, f3⟩ := hf
  simp only [maxLen] at f1 f2 f3
  have C1 := Hid.mk (fun W => rIs_any ⟨a.toArray⟩ W (by rw [size_list]; omega))
  have C2 := Hid.mk (fun W => rIs_any ⟨b.toArray⟩ W (by rw [size_list]; omega))
  have C3 := Hid.mk (fun W => rIs_any ⟨c.toArray⟩ W (by rw [size_list]; omega))
  have e0 : isTW (a, b, c) = (isW a && isW b && isW c) := rfl
  rw [e0]
  rw [show (ByteArray.mk a.toArray).data.toList = a by simp] at C1
  rw [show (ByteArray.mk b.toArray).data.toList = b by simp] at C2
  rw [show (ByteArray.mk c.toArray).data.toList = c by simp] at C3
  obtain ⟨x1, h1⟩ : ∃ x, x = isW a := ⟨_, rfl⟩
  obtain ⟨x2, h2⟩ : ∃ x, x = isW b := ⟨_, rfl⟩
  obtain ⟨x3, h3⟩ : ∃ x, x = isW c := ⟨_, rfl⟩
  rw [← h1] at C1 ⊢
  rw [← h2] at C2 ⊢
  rw [← h3] at C3 ⊢
  clear h1 h2 h3 e0 f1 f2 f3
  cases x1 with
  | false =>
    go_enter Try.func27, Try.ntmps27
    go_wp2_with fail
    refine (C1.out _).mono ?_
    rintro e w1 ⟨rfl, hw⟩
    have hw := hw.symm
    subst hw
    go_wp2
    go_ret
    exact ⟨rfl, HB.out _⟩
  | true =>
    cases x2 with
    | false =>
      go_enter Try.func27, Try.ntmps27
      go_wp2_with fail
      refine (C1.out _).mono ?_
      rintro e w1 ⟨rfl, hw⟩
      have hw := hw.symm
      subst hw
      go_wp2_with fail
      refine (C2.out _).mono ?_
      rintro e w1 ⟨rfl, hw⟩
      have hw := hw.symm
      subst hw
      go_wp2
      go_ret
      exact ⟨rfl, HB.out _⟩
    | true =>
      go_enter Try.func27, Try.ntmps27
      go_wp2_with fail
      refine (C1.out _).mono ?_
      rintro e w1 ⟨rfl, hw⟩
      have hw := hw.symm
      subst hw
      go_wp2_with fail
      refine (C2.out _).mono ?_
      rintro e w1 ⟨rfl, hw⟩
      have hw := hw.symm
      subst hw
      go_wp2_with fail
      refine (C3.out _).mono ?_
      rintro e w1 ⟨rfl, hw⟩
      have hw := hw.symm
      subst hw
      go_wp2
      go_ret
      exact ⟨by simp, HB.out _⟩

set_option maxHeartbeats 4000000 in
set_option maxRecDepth 100000 in
theorem rMay_any {w : World} {v : Value} {bt : List Chg} (h : ChgsA w v bt) : Calls Try.prog 11 #[v] w fun e w' => e = .returned (.bool (mayT bt)) ∧ Below w.heap.size w w' := by
  obtain ⟨a1, c1, hv1⟩ := h.1.slice
  subst hv1
  have H1 := Hid.mk h
  obtain ⟨n, hn⟩ : ∃ n, n = bt.length := ⟨_, rfl⟩
  have hnl : n ≤ 9223372036854775807 := by rw [hn]; exact h.len
  rw [← hn] at H1 ⊢
  have HN := Hid.mk hn
  obtain ⟨ans, hans⟩ : ∃ a, a = mayT bt := ⟨_, rfl⟩
  rw [← hans]
  have HA := Hid.mk hans
  clear hn h hans
  go_enter Try.func11, Try.ntmps11
  go_wp2_with fail
  go_loopw [3] (fun c wr => ∃ i : Nat, i ≤ n ∧ c = .int .i64 i ∧ (∀ (j : Nat) x, j < i → bt[j]? = some x → isTW x.2 = true) ∧ Below w.heap.size w wr) (fun c _ => n - (intOf c).toNat)
  case atStart => exact ⟨0, Nat.zero_le _, rfl, fun j x hj => absurd hj (by omega), Below.refl _ _⟩
  case round =>
    obtain ⟨i, hi, rfl, hall, hbq⟩ := hrel
    have HAll := Hid.mk hall
    have HBQ := Hid.mk hbq
    clear hall
    by_cases hlt : i < n
    · have hltI : (i : Int) < (n : Int) := by omega
      obtain ⟨x, hx⟩ : ∃ x, bt[i]? = some x := ⟨_, List.getElem?_eq_getElem (by rw [← HN.out]; exact hlt)⟩
      obtain ⟨g1, o1, hao, _, _, hc1⟩ := (H1.out.below hbq).1.get hx
      subst hao
      obtain ⟨p0, p1, p2, p3⟩ := get4 hc1
      have CI := Hid.mk (rIsT_any x.2 wr (H1.out.2.1 x (List.mem_of_getElem? hx)))
      obtain ⟨r, hr⟩ : ∃ r, r = isTW x.2 := ⟨_, rfl⟩
      rw [← hr] at CI
      have HR := Hid.mk hr
      have HX := Hid.mk hx
      clear hx hr hbq hc1
      cases r with
      | true =>
        go_wp2_with fail
        refine CI.out.mono ?_
        rintro e w2 ⟨rfl, hb2⟩
        have HB2 := Hid.mk (HBQ.out.trans (hb2.mono HBQ.out.size))
        have HAll2 : Hid (∀ (j : Nat) x, j < i + 1 → bt[j]? = some x → isTW x.2 = true) := Hid.mk (fun j y hj hy => by
          by_cases e : j = i
          · subst e
            rw [HX.out] at hy
            rw [← Option.some.inj hy]; exact HR.out.symm
          · exact HAll.out j y (by omega) hy)
        clear hb2 CI p0 p1 p2 p3
        go_wp2
        go_roundw
        case rel => exact ⟨i + 1, by omega, by go_num, HAll2.out, HB2.out⟩
        case measure => simp [intOf]; omega
      | false =>
        have HF : Hid (ans = false) := Hid.mk (by
          rw [HA.out]
          cases hm : mayT bt with
          | false => rfl
          | true => have := mayT_word hm (List.mem_of_getElem? HX.out); rw [← HR.out] at this; cases this)
        go_wp2_with fail
        refine CI.out.mono ?_
        rintro e w2 ⟨rfl, hb2⟩
        have HB2 := Hid.mk (HBQ.out.trans (hb2.mono HBQ.out.size))
        clear hb2 CI p0 p1 p2 p3
        go_wp2
        go_ret
        exact ⟨by rw [HF.out]; rfl, HB2.out⟩
    · have hltI : ¬ (i : Int) < (n : Int) := by omega
      have HT : Hid (ans = decide ((n : Int) ≤ 64)) := Hid.mk (by
        rw [HA.out, mayT, ← HN.out]
        have h2 : (bt.all fun c => isTW c.2) = true := List.all_eq_true.2 (fun c hc => by
          obtain ⟨j, hj, e⟩ := List.getElem_of_mem hc
          refine HAll.out j c (by have := HN.out; omega) ?_
          rw [← e]; exact List.getElem?_eq_getElem hj)
        rw [h2, Bool.and_true]
        exact decide_eq_decide.2 (by omega))
      go_wp2
      go_ret
      exact ⟨by rw [HT.out]; first | rfl | simp, HBQ.out⟩
end Go.Proofs.Ytiabnjjdeikefaa
