/- Same, Like, Less of the document. -/
import Derived.Test.YtiabnjjdeikefaaSOpen
namespace Go.Proofs.Ytiabnjjdeikefaa
open Go.RowKit

theorem ext_take {L1 L2 : List Tri} (hl : L1.length = L2.length) (h : ∀ (j : Nat) x y, j < L1.length → L1[j]? = some x → L2[j]? = some y → x = y) : L1 = L2 := by
  apply List.ext_getElem hl
  intro i h1 h2
  exact h i _ _ h1 (List.getElem?_eq_getElem h1) (List.getElem?_eq_getElem h2)

set_option maxHeartbeats 2000000 in
set_option maxRecDepth 100000 in
theorem same_any {S T : Nat → Prop} {w : World} {v1 v2 : Value} {L1 L2 : List Tri} (h1 : TrisS S w v1 L1) (h2 : TrisS T w v2 L2) (hl : L1.length ≤ 9223372036854775807) :
    Calls Try.prog 20 #[v1, v2] w fun e w' => e = .returned (.bool (decide (L1 = L2))) ∧ Below w.heap.size w w' := by
  obtain ⟨a1, c1, rfl⟩ := h1.slice
  obtain ⟨a2, c2, rfl⟩ := h2.slice
  have H1 := Hid.mk h1
  have H2 := Hid.mk h2
  clear h1 h2
  by_cases hne : L1.length = L2.length
  · obtain ⟨n, hn⟩ : ∃ n, n = L1.length := ⟨_, rfl⟩
    have hn2 : L2.length = n := by omega
    rw [hn2] at H2 ⊢
    rw [← hn] at H1 hl ⊢
    have HN := Hid.mk hn
    have HN2 := Hid.mk hn2
    obtain ⟨ans, hans⟩ : ∃ a, a = decide (L1 = L2) := ⟨_, rfl⟩
    rw [← hans]
    have HA := Hid.mk hans
    clear hne hn hn2 hans
    go_enter Try.func20, Try.ntmps20
    go_wp2_with fail
    go_loopw [5] (fun c wr => ∃ i : Nat, i ≤ n ∧ c = .int .i64 i ∧ (∀ (j : Nat) x y, j < i → L1[j]? = some x → L2[j]? = some y → x = y) ∧ Below w.heap.size w wr) (fun c _ => n - (intOf c).toNat)
    case atStart => exact ⟨0, Nat.zero_le _, rfl, fun j x y hj => absurd hj (by omega), Below.refl _ _⟩
    case round =>
      obtain ⟨i, hi, rfl, hall, hbq⟩ := hrel
      have HAll := Hid.mk hall
      clear hall
      have HBQ := Hid.mk hbq
      by_cases hlt : i < n
      · have hltI : (i : Int) < (n : Int) := by omega
        obtain ⟨x, hx⟩ : ∃ x, L1[i]? = some x := ⟨_, List.getElem?_eq_getElem (by rw [← HN.out]; exact hlt)⟩
        obtain ⟨y, hy⟩ : ∃ y, L2[i]? = some y := ⟨_, List.getElem?_eq_getElem (by rw [HN2.out]; exact hlt)⟩
        obtain ⟨g1, o1, rfl, _, _, hc1⟩ := (H1.out.below hbq).get hx
        obtain ⟨g2, o2, rfl, _, _, hc2⟩ := (H2.out.below hbq).get hy
        obtain ⟨p0, p1, p2⟩ := get3 hc1
        obtain ⟨r0, r1, r2⟩ := get3 hc2
        have heq := eqT x y
        clear hc1 hc2 hbq
        by_cases hxy : x = y
        · have HAll2 : Hid (∀ (j : Nat) x y, j < i + 1 → L1[j]? = some x → L2[j]? = some y → x = y) := Hid.mk (fun j x' y' hj hx' hy' => by
            by_cases e : j = i
            · subst e
              rw [hx] at hx'; rw [hy] at hy'
              rw [← Option.some.inj hx', ← Option.some.inj hy']; exact hxy
            · exact HAll.out j x' y' (by omega) hx' hy')
          rw [decide_eq_true hxy] at heq
          clear hx hy hxy
          go_wp2_with fail
          go_region
          go_wp2
          go_roundw
          case rel => exact ⟨i + 1, by omega, by go_num, HAll2.out, HBQ.out.drew⟩
          case measure => simp [intOf]; omega
        · have HF : Hid (ans = false) := Hid.mk (by
            rw [HA.out]
            refine decide_eq_false (fun e => hxy ?_)
            rw [e, hy] at hx
            exact (Option.some.inj hx).symm)
          rw [decide_eq_false hxy] at heq
          clear hx hy hxy
          go_wp2_with fail
          go_region
          go_wp2
          go_ret
          exact ⟨by rw [HF.out]; rfl, HBQ.out.drew⟩
      · have hltI : ¬ (i : Int) < (n : Int) := by omega
        have HT : Hid (ans = true) := Hid.mk (by
          rw [HA.out]
          exact decide_eq_true (ext_take (by rw [← HN.out, HN2.out]) (fun j x y hj => HAll.out j x y (by have := HN.out; omega))))
        go_wp2
        go_ret
        exact ⟨by rw [HT.out]; rfl, HBQ.out⟩
  · have hd : decide (L1 = L2) = false := decide_eq_false (fun e => hne (by rw [e]))
    rw [hd]
    have hne2 : ((L1.length : Int) != (L2.length : Int)) = true := by simp; omega
    obtain ⟨n, hn⟩ : ∃ n, n = L1.length := ⟨_, rfl⟩
    obtain ⟨m, hm⟩ : ∃ m, m = L2.length := ⟨_, rfl⟩
    rw [← hn, ← hm] at hne2 ⊢
    clear hne hd hn hm
    go_enter Try.func20, Try.ntmps20
    go_wp2
    go_ret
    exact ⟨rfl, Below.refl _ _⟩
end Go.Proofs.Ytiabnjjdeikefaa
