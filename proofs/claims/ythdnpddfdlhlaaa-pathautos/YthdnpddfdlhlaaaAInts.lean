/- Lists of numbers: in, same, good, rising of the document. -/
import Derived.Test.YthdnpddfdlhlaaaAMath3
import Derived.Test.YthdnpddfdlhlaaaQShaped
import Derived.BigQuiet
import Derived.Deep.QuietTactic
namespace Go.Proofs.Ythdnpddfdlhlaaa
open Go.RowKit

/-- The cells of a number. -/
abbrev csZ (z : Int) : List Value := [.int .i64 z]
abbrev IntZ := SlS csZ 1
theorem getZ {w : World} {g o : Nat} {z : Int} (h : ∀ (c : Nat) u, (csZ z)[c]? = some u → w.cell? ⟨g, o + c, none⟩ = some u) : w.cell? ⟨g, o, none⟩ = some (.int .i64 z) := h 0 _ rfl
theorem infoZ : (Try.prog.info? 3).map (fun i => (i.zero, i.size, i.bytes)) = some (some (.int .i64 0), 1, 8) := by kernel_rfl

theorem below_drewN {B : Nat} {a w : World} (h : Below B a w) (n : Nat) : Below B a (w.drewN n) := ⟨h.os, h.tape, h.output, h.size, h.block⟩
set_option maxRecDepth 100000 in
set_option maxHeartbeats 1000000 in
theorem rIn_any {S : Nat → Prop} {w : World} {v : Value} {L : List Int} (h : IntZ S w v L) (hl : L.length ≤ 9223372036854775806) (z : Int) :
    Calls Try.prog 44 #[v, .int .i64 z] w fun e w' => e = .returned (.bool (decide (z ∈ L))) ∧ w' = w := by
  obtain ⟨ao, cap, rfl⟩ := h.slice
  have H := Hid.mk h
  obtain ⟨n, hn⟩ : ∃ n, n = L.length := ⟨_, rfl⟩
  rw [← hn] at hl H ⊢
  have HN := Hid.mk hn
  obtain ⟨ans, hans⟩ : ∃ a, a = decide (z ∈ L) := ⟨_, rfl⟩
  rw [← hans]
  have HA := Hid.mk hans
  clear h hn hans
  go_enter Try.func44, Try.ntmps44
  go_wp2_with fail
  go_loopw [5] (fun c wr => ∃ i : Nat, i ≤ n ∧ c = .int .i64 i ∧ z ∉ L.take i ∧ wr = w) (fun c _ => n - (intOf c).toNat)
  case atStart => exact ⟨0, Nat.zero_le _, rfl, by simp, rfl⟩
  case round =>
    obtain ⟨i, hi, rfl, hall, rfl⟩ := hrel
    have HAll := Hid.mk hall
    clear hall
    by_cases hlt : i < n
    · have hltI : (i : Int) < (n : Int) := by omega
      obtain ⟨x, hx⟩ : ∃ x, L[i]? = some x := ⟨_, List.getElem?_eq_getElem (by rw [← HN.out]; exact hlt)⟩
      obtain ⟨g, off, rfl, _, _, hcell⟩ := H.out.get hx
      have q0 := getZ hcell
      rw [Nat.mul_one] at q0
      have HX := Hid.mk hx
      clear hx hcell
      by_cases e : x = z
      · subst e
        have HT : Hid (ans = true) := Hid.mk (by rw [HA.out]; exact decide_eq_true (List.mem_of_getElem? HX.out))
        go_wp2
        go_ret
        exact ⟨by rw [HT.out]; rfl, rfl⟩
      · obtain ⟨e1, e2⟩ := not_both e
        have HA2 : Hid (z ∉ L.take (i + 1)) := Hid.mk (by
          rw [List.take_add_one, HX.out]
          intro h
          rcases List.mem_append.1 h with h | h
          · exact HAll.out h
          · simp at h; exact e h.symm)
        clear e
        go_wp2
        go_roundw
        case rel => exact ⟨i + 1, by omega, by go_num, HA2.out, by trivial⟩
        case measure => simp [intOf]; omega
    · have hltI : ¬ (i : Int) < (n : Int) := by omega
      have HF : Hid (ans = false) := Hid.mk (by
        rw [HA.out]
        refine decide_eq_false (fun h => HAll.out ?_)
        rw [List.take_of_length_le (by rw [← HN.out]; omega)]
        exact h)
      go_wp2
      go_ret
      exact ⟨by rw [HF.out]; rfl, rfl⟩

theorem ext_takeZ {L1 L2 : List Int} (hl : L1.length = L2.length) (h : ∀ (j : Nat) x y, j < L1.length → L1[j]? = some x → L2[j]? = some y → x = y) : L1 = L2 := by
  apply List.ext_getElem hl
  intro i h1 h2
  exact h i _ _ h1 (List.getElem?_eq_getElem h1) (List.getElem?_eq_getElem h2)
set_option maxHeartbeats 1000000 in
set_option maxRecDepth 100000 in
theorem rSameZ_any {S T : Nat → Prop} {w : World} {v1 v2 : Value} {L1 L2 : List Int} (h1 : IntZ S w v1 L1) (h2 : IntZ T w v2 L2) (hl : L1.length ≤ 9223372036854775806) :
    Calls Try.prog 35 #[v1, v2] w fun e w' => e = .returned (.bool (decide (L1 = L2))) ∧ ∃ k, w' = w.drewN k := by
  obtain ⟨a1, c1, rfl⟩ := h1.slice
  obtain ⟨a2, c2, rfl⟩ := h2.slice
  have H1 := Hid.mk h1
  have H2 := Hid.mk h2
  clear h1 h2
  by_cases hne : L1.length = L2.length
  · obtain ⟨n, hn⟩ : ∃ n, n = L1.length := ⟨_, rfl⟩
    have hn2 : L2.length = n := by omega
    rw [hn2] at H2 ⊢
    rw [← hn] at H1 hl ⊢
    have HN := Hid.mk hn
    have HN2 := Hid.mk hn2
    obtain ⟨ans, hans⟩ : ∃ a, a = decide (L1 = L2) := ⟨_, rfl⟩
    rw [← hans]
    have HA := Hid.mk hans
    clear hne hn hn2 hans
    go_enter Try.func35, Try.ntmps35
    go_wp2_with fail
    go_loopw [5] (fun c wr => ∃ i : Nat, i ≤ n ∧ c = .int .i64 i ∧ (∀ (j : Nat) x y, j < i → L1[j]? = some x → L2[j]? = some y → x = y) ∧ ∃ k, wr = w.drewN k) (fun c _ => n - (intOf c).toNat)
    case atStart => exact ⟨0, Nat.zero_le _, rfl, fun j x y hj => absurd hj (by omega), 0, rfl⟩
    case round =>
      obtain ⟨i, hi, rfl, hall, kq, hkq⟩ := hrel
      have hbq : Below w.heap.size w wr := by rw [hkq]; exact below_drewN (Below.refl _ _) _
      have HKQ := Hid.mk hkq
      clear hkq
      have HAll := Hid.mk hall
      clear hall
      by_cases hlt : i < n
      · have hltI : (i : Int) < (n : Int) := by omega
        obtain ⟨x, hx⟩ : ∃ x, L1[i]? = some x := ⟨_, List.getElem?_eq_getElem (by rw [← HN.out]; exact hlt)⟩
        obtain ⟨y, hy⟩ : ∃ y, L2[i]? = some y := ⟨_, List.getElem?_eq_getElem (by rw [HN2.out]; exact hlt)⟩
        obtain ⟨g1, o1, rfl, _, _, hc1⟩ := (H1.out.below hbq).get hx
        obtain ⟨g2, o2, rfl, _, _, hc2⟩ := (H2.out.below hbq).get hy
        have p0 := getZ hc1
        have r0 := getZ hc2
        rw [Nat.mul_one] at p0 r0
        clear hc1 hc2 hbq
        by_cases hxy : x = y
        · have HAll2 : Hid (∀ (j : Nat) x y, j < i + 1 → L1[j]? = some x → L2[j]? = some y → x = y) := Hid.mk (fun j x' y' hj hx' hy' => by
            by_cases e : j = i
            · subst e
              rw [hx] at hx'; rw [hy] at hy'
              rw [← Option.some.inj hx', ← Option.some.inj hy']; exact hxy
            · exact HAll.out j x' y' (by omega) hx' hy')
          subst hxy
          clear hx hy
          go_wp2_with fail
          go_region
          go_wp2
          go_roundw
          case rel => exact ⟨i + 1, by omega, by go_num, HAll2.out, kq + 1, by rw [HKQ.out]; rfl⟩
          case measure => simp [intOf]; omega
        · have HF : Hid (ans = false) := Hid.mk (by
            rw [HA.out]
            refine decide_eq_false (fun e => hxy ?_)
            rw [e, hy] at hx
            exact (Option.some.inj hx).symm)
          have hd : (x != y) = true := by simpa using hxy
          clear hx hy
          go_wp2_with fail
          go_region
          go_wp2
          go_ret
          exact ⟨by rw [HF.out]; rfl, kq + 1, by rw [HKQ.out]; rfl⟩
      · have hltI : ¬ (i : Int) < (n : Int) := by omega
        have HT : Hid (ans = true) := Hid.mk (by
          rw [HA.out]
          exact decide_eq_true (ext_takeZ (by rw [← HN.out, HN2.out]) (fun j x y hj => HAll.out j x y (by have := HN.out; omega))))
        go_wp2
        go_ret
        exact ⟨by rw [HT.out]; rfl, kq, HKQ.out⟩
  · have hd : decide (L1 = L2) = false := decide_eq_false (fun e => hne (by rw [e]))
    rw [hd]
    have hne2 : ((L1.length : Int) != (L2.length : Int)) = true := by simp; omega
    obtain ⟨n, hn⟩ : ∃ n, n = L1.length := ⟨_, rfl⟩
    obtain ⟨m, hm⟩ : ∃ m, m = L2.length := ⟨_, rfl⟩
    rw [← hn, ← hm] at hne2 ⊢
    clear hne hd hn hm
    go_enter Try.func35, Try.ntmps35
    go_wp2
    go_ret
    exact ⟨rfl, 0, rfl⟩

def lastD : Int → List Int → Int
  | b, [] => b
  | _, x :: l => lastD x l
theorem goodF_snoc {n : Nat} (z : Int) : ∀ (l : List Int) (b : Int), goodF n b (l ++ [z]) = (goodF n b l && decide (lastD b l < z) && decide (z < n))
  | [], b => by
    show (decide (b < z) && decide (z < (n : Int)) && true) = (true && decide (b < z) && decide (z < (n : Int)))
    rw [Bool.and_true, Bool.true_and]
  | x :: l, b => by
    rw [List.cons_append, goodF, goodF_snoc z l x, goodF, lastD]
    simp only [Bool.and_assoc]
theorem goodF_part {n : Nat} (m : List Int) : ∀ (l : List Int) (b : Int), goodF n b (l ++ m) = true → goodF n b l = true
  | [], _, _ => rfl
  | x :: l, b, h => by
    rw [List.cons_append, goodF, Bool.and_eq_true] at h
    rw [goodF, h.1, goodF_part m l x h.2]; rfl
theorem lastD_take {L : List Int} {y : Int} : ∀ (i : Nat) (b : Int), L[i]? = some y → lastD b (L.take (i + 1)) = y := by
  induction L with
  | nil => intro i b h; simp at h
  | cons x l ih =>
    intro i b h
    cases i with
    | zero => simp at h; subst h; simp [lastD]
    | succ i =>
      rw [List.take_succ_cons, lastD]
      exact ih i x (by simpa using h)
set_option maxHeartbeats 2000000 in
set_option maxRecDepth 100000 in
theorem rGood_any {S : Nat → Prop} {w : World} {v : Value} {L : List Int} (h : IntZ S w v L) (hl : L.length ≤ 9223372036854775806) (m : Nat) :
    Calls Try.prog 37 #[v, .int .i64 (m : Int)] w fun e w' => e = .returned (.bool (goodL m L)) ∧ Below w.heap.size w w' := by
  obtain ⟨ao, cap, rfl⟩ := h.slice
  have H := Hid.mk h
  obtain ⟨n, hn⟩ : ∃ n, n = L.length := ⟨_, rfl⟩
  rw [← hn] at hl H ⊢
  have HN := Hid.mk hn
  obtain ⟨ans, hans⟩ : ∃ a, a = goodL m L := ⟨_, rfl⟩
  rw [← hans]
  have HA := Hid.mk hans
  clear h hn hans
  go_enter Try.func37, Try.ntmps37
  go_wp2_with fail
  go_loopw [5] (fun c wr => ∃ i : Nat, i ≤ n ∧ c = .int .i64 i ∧ goodF m (-1) (L.take i) = true ∧ Below w.heap.size w wr) (fun c _ => n - (intOf c).toNat)
  case atStart => exact ⟨0, Nat.zero_le _, rfl, rfl, Below.refl _ _⟩
  case round =>
    obtain ⟨i, hi, rfl, hall, hbq⟩ := hrel
    have HAll := Hid.mk hall
    have HBQ := Hid.mk hbq
    clear hall hbq
    by_cases hlt : i < n
    · have hltI : (i : Int) < (n : Int) := by omega
      obtain ⟨z, hz⟩ : ∃ z, L[i]? = some z := ⟨_, List.getElem?_eq_getElem (by rw [← HN.out]; exact hlt)⟩
      obtain ⟨g, off, rfl, _, _, hcell⟩ := (H.out.below HBQ.out).get hz
      have q0 := getZ hcell
      rw [Nat.mul_one] at q0
      have HZ := Hid.mk hz
      have HS : Hid (goodF m (-1) (L.take (i + 1)) = (decide (lastD (-1) (L.take i) < z) && decide (z < (m : Int)))) := Hid.mk (by
        rw [List.take_add_one, hz]
        show goodF m (-1) (L.take i ++ [z]) = _
        rw [goodF_snoc, HAll.out]; rfl)
      have HNO : Hid (goodF m (-1) (L.take (i + 1)) = false → ans = false) := Hid.mk (fun hf => by
        rw [HA.out]
        cases hg : goodL m L with
        | false => rfl
        | true =>
          have : goodF m (-1) (L.take (i + 1) ++ L.drop (i + 1)) = true := by rw [List.take_append_drop]; exact hg
          rw [goodF_part _ _ _ this] at hf
          cases hf)
      clear hz hcell
      by_cases h0 : z < 0
      · have HF : Hid (ans = false) := Hid.mk (HNO.out (by
          rw [HS.out]
          have : ¬ lastD (-1) (L.take i) < z := by
            intro hh
            have h2 : -1 ≤ lastD (-1) (L.take i) := by
              rcases i with _ | i
              · simp [lastD]
              · obtain ⟨y, hy⟩ : ∃ y, L[i]? = some y := ⟨_, List.getElem?_eq_getElem (by rw [← HN.out]; omega)⟩
                rw [lastD_take i (-1) hy]
                have := goodF_mem _ _ HAll.out y (List.mem_of_getElem? (i := i) (by rw [List.getElem?_take_of_lt (by omega)]; exact hy))
                omega
            omega
          rw [decide_eq_false this]; rfl))
        go_wp2_with fail
        go_quiet (fail)
        go_wp2
        go_ret
        exact ⟨by rw [HF.out]; rfl, below_drewN HBQ.out _⟩
      · have d0 : decide (z < 0) = false := decide_eq_false h0
        by_cases hm : (m : Int) ≤ z
        · have HF : Hid (ans = false) := Hid.mk (HNO.out (by
            rw [HS.out, decide_eq_false (show ¬ z < (m : Int) by omega), Bool.and_false]))
          go_wp2_with fail
          go_quiet (fail)
          go_wp2
          go_ret
          exact ⟨by rw [HF.out]; rfl, below_drewN HBQ.out _⟩
        · have d1 : decide ((m : Int) ≤ z) = false := decide_eq_false hm
          by_cases hi0 : i = 0
          · have HT : Hid (goodF m (-1) (L.take (i + 1)) = true) := Hid.mk (by
              rw [HS.out, hi0, decide_eq_true (show z < (m : Int) by omega)]
              simp [lastD]
              omega)
            subst hi0
            rw [Nat.add_zero] at q0
            go_wp2_with fail
            go_quiet (fail)
            go_wp2
            go_roundw
            case rel => exact ⟨1, by omega, by go_num, HT.out, below_drewN HBQ.out _⟩
            case measure => simp [intOf]; omega
          · obtain ⟨j, hj⟩ : ∃ j, i = j + 1 := ⟨i - 1, by omega⟩
            obtain ⟨y, hy⟩ : ∃ y, L[j]? = some y := ⟨_, List.getElem?_eq_getElem (by rw [← HN.out]; omega)⟩
            obtain ⟨g2, off2, e2, _, _, hcell2⟩ := (H.out.below HBQ.out).get hy
            injection e2 with e2; injection e2 with e2 e3
            subst e2 e3
            have q1 := getZ hcell2
            rw [Nat.mul_one] at q1
            have HLD : Hid (lastD (-1) (L.take i) = y) := Hid.mk (by rw [hj]; exact lastD_take j (-1) hy)
            have hiN : 0 < i := by omega
            have hiI : (0 : Int) < (i : Int) := by omega
            have hjI : (i : Int) - 1 = (j : Int) := by omega
            have hjn : (j : Int) < (n : Int) := by omega
            by_cases hyz : z ≤ y
            · have HF : Hid (ans = false) := Hid.mk (HNO.out (by
                rw [HS.out, HLD.out, decide_eq_false (show ¬ y < z by omega)]; rfl))
              clear hy hcell2 hj hi0
              go_wp2_with fail
              go_quiet (fail)
              go_wp2
              go_ret
              exact ⟨by rw [HF.out]; rfl, below_drewN HBQ.out _⟩
            · have d2 : decide (z ≤ y) = false := decide_eq_false hyz
              have HT : Hid (goodF m (-1) (L.take (i + 1)) = true) := Hid.mk (by
                rw [HS.out, HLD.out, decide_eq_true (show y < z by omega), decide_eq_true (show z < (m : Int) by omega)]; rfl)
              clear hy hcell2 hj hi0
              go_wp2_with fail
              go_quiet (fail)
              go_wp2
              go_roundw
              case rel => exact ⟨i + 1, by omega, by go_num, HT.out, below_drewN HBQ.out _⟩
              case measure => simp [intOf]; omega
    · have hltI : ¬ (i : Int) < (n : Int) := by omega
      have HT : Hid (ans = true) := Hid.mk (by
        rw [HA.out]
        have := HAll.out
        rw [List.take_of_length_le (by rw [← HN.out]; omega)] at this
        exact this)
      go_wp2
      go_ret
      exact ⟨by rw [HT.out]; rfl, HBQ.out⟩
end Go.Proofs.Ythdnpddfdlhlaaa
