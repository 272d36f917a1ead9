/- Sets of places: a bit for each. only, has, setOf, list of the program. -/
import Derived.Test.YthdnpddfdlhlaaaAAuto
import Derived.Test.YthdnpddfdlhlaaaAMath4
import Derived.Laws.BitsAllLaws
namespace Go.Proofs.Ythdnpddfdlhlaaa
open Go.RowKit

theorem pow_lt24 {p : Nat} (h : p < 24) : 2 ^ p < 16777216 := by
  have : 2 ^ p < 2 ^ 24 := Nat.pow_lt_pow_right (by omega) h
  simpa using this
theorem or_lt24 {a b : Nat} (ha : a < 16777216) (hb : b < 16777216) : a ||| b < 16777216 := Nat.or_lt_two_pow (n := 24) ha hb
theorem and_lt24 {a b : Nat} (ha : a < 16777216) : a &&& b < 16777216 := Nat.lt_of_le_of_lt Nat.and_le_left ha
theorem bit_lt24 {a k : Nat} (ha : a < 16777216) (h : a.testBit k = true) : k < 24 := by
  apply Decidable.byContradiction
  intro hk
  rw [Nat.testBit_lt_two_pow (Nat.lt_of_lt_of_le ha (by
    have : 2 ^ 24 ≤ 2 ^ k := Nat.pow_le_pow_right (by omega) (by omega)
    simpa using this))] at h
  cases h
theorem and_pow (a k : Nat) : a &&& 2 ^ k = if a.testBit k = true then 2 ^ k else 0 := by
  apply Nat.eq_of_testBit_eq
  intro i
  rw [Nat.testBit_and, Nat.testBit_two_pow]
  by_cases h : k = i
  · subst h
    cases hb : a.testBit k <;> simp
  · split <;> simp [h]
theorem and_some {a b : Nat} (h : a &&& b ≠ 0) : ∃ k, a.testBit k = true ∧ b.testBit k = true := by
  apply Classical.byContradiction
  intro hn
  apply h
  apply Nat.eq_of_testBit_eq
  intro i
  rw [Nat.testBit_and, Nat.zero_testBit]
  cases ha : a.testBit i with
  | false => rfl
  | true =>
    cases hb : b.testBit i with
    | false => rfl
    | true => exact absurd ⟨i, ha, hb⟩ hn
theorem and_none {a b : Nat} (h : a &&& b = 0) (k : Nat) (ha : a.testBit k = true) : b.testBit k = false := by
  have : (a &&& b).testBit k = false := by rw [h, Nat.zero_testBit]
  rw [Nat.testBit_and, ha] at this
  simpa using this
/-- The set of the places of a list. -/
def setN (L : List Int) : Nat := L.foldl (fun s z => s ||| 2 ^ z.toNat) 0
theorem setF_bit (k : Nat) : ∀ (L : List Int) (s : Nat), (∀ z ∈ L, 0 ≤ z) → ((L.foldl (fun s z => s ||| 2 ^ z.toNat) s).testBit k = true ↔ s.testBit k = true ∨ (k : Int) ∈ L)
  | [], s, _ => by simp
  | z :: L, s, h => by
    rw [List.foldl_cons, setF_bit k L _ (fun y hy => h y (List.mem_cons_of_mem _ hy)), Nat.testBit_or, Bool.or_eq_true, Nat.testBit_two_pow, decide_eq_true_eq, List.mem_cons]
    have := h z (List.mem_cons_self ..)
    constructor
    · rintro ((h1 | h1) | h1)
      · exact .inl h1
      · exact .inr (.inl (by omega))
      · exact .inr (.inr h1)
    · rintro (h1 | h1 | h1)
      · exact .inl (.inl h1)
      · exact .inl (.inr (by omega))
      · exact .inr h1
theorem setN_bit {L : List Int} (h : ∀ z ∈ L, 0 ≤ z) (k : Nat) : (setN L).testBit k = true ↔ (k : Int) ∈ L := by
  rw [setN, setF_bit k L 0 h]
  simp
theorem setF_lt : ∀ (L : List Int) (s : Nat), s < 16777216 → (∀ z ∈ L, z < 24) → L.foldl (fun s z => s ||| 2 ^ z.toNat) s < 16777216
  | [], s, h, _ => h
  | z :: L, s, h, hz => setF_lt L _ (or_lt24 h (pow_lt24 (by have := hz z (List.mem_cons_self ..); omega))) (fun y hy => hz y (List.mem_cons_of_mem _ hy))
theorem setN_lt {L : List Int} (h : ∀ z ∈ L, z < 24) : setN L < 16777216 := setF_lt L 0 (by omega) h
/-- The places of a set, rising. -/
def listN (k s : Nat) : List Int := ((List.range k).filter (fun i => s.testBit i)).map Int.ofNat
theorem listN_succ (k s : Nat) : listN (k + 1) s = listN k s ++ (if s.testBit k = true then [(k : Int)] else []) := by
  unfold listN
  rw [List.range_succ, List.filter_append, List.map_append]
  congr 1
  by_cases h : s.testBit k = true
  · rw [if_pos h]; simp [h]
  · rw [if_neg h]; simp [h]
theorem listN_len (k s : Nat) : (listN k s).length ≤ k := by
  unfold listN
  rw [List.length_map]
  exact Nat.le_trans (List.length_filter_le _ _) (by simp)
theorem listN_rise {n s : Nat} {l : List Nat} (h : ∀ i, s.testBit i = true ↔ i ∈ l) (hl : ∀ i ∈ l, i < n) (hn : n ≤ 24) : listN 24 s = rise n l := by
  have key : ∀ m, n ≤ m → listN m s = rise n l := by
    intro m
    induction m with
    | zero =>
      intro hm
      have : n = 0 := by omega
      subst this
      rfl
    | succ m ih =>
      intro hm
      by_cases e : n = m + 1
      · subst e
        unfold listN rise
        congr 1
        apply List.filter_congr
        intro i _
        cases hb : s.testBit i with
        | true => exact (decide_eq_true ((h i).1 hb)).symm
        | false => exact (decide_eq_false (fun hi => by rw [(h i).2 hi] at hb; cases hb)).symm
      · rw [listN_succ, ih (by omega), if_neg (fun hb => by have := hl m ((h m).1 hb); omega), List.append_nil]
  exact key 24 hn

set_option maxRecDepth 100000 in
set_option maxHeartbeats 400000 in
theorem only_any (p : Nat) (w : World) (hp : p < 24) :
    Calls Try.prog 62 #[.int .i64 (p : Int)] w fun e w' => e = .returned (.int .u32 ((2 ^ p : Nat) : Int)) ∧ w' = w := by
  have hq : (2 : Int) ^ p % 4294967296 = (2 : Int) ^ p := by
    have := pow_lt24 hp
    have h2 : ((2 : Int) ^ p) = ((2 ^ p : Nat) : Int) := by rw [Int.natCast_pow]; rfl
    rw [h2]
    generalize 2 ^ p = q at this ⊢
    omega
  have HQ := Hid.mk hq
  clear hq
  go_enter Try.func62, Try.ntmps62
  go_wp2
  go_ret
  exact ⟨by simp [HQ.out], rfl⟩

set_option maxRecDepth 100000 in
set_option maxHeartbeats 400000 in
theorem has_any (s p : Nat) (w : World) (hs : s < 16777216) (hp : p < 24) :
    Calls Try.prog 63 #[.int .u32 (s : Int), .int .i64 (p : Int)] w fun e w' => e = .returned (.bool (s.testBit p)) ∧ w' = w := by
  have C := Hid.mk (only_any p w hp)
  have hb : bits .and .u32 (s : Int) ((2 ^ p : Nat) : Int) = ((if s.testBit p = true then 2 ^ p else 0 : Nat) : Int) := by
    have := pow_lt24 hp
    rw [u32_and_nat s (2 ^ p) (by omega) (by omega), and_pow]
  have hq := Nat.two_pow_pos p
  obtain ⟨q, hqe⟩ : ∃ q, q = 2 ^ p := ⟨_, rfl⟩
  rw [← hqe] at C hb hq
  clear hqe
  cases h : s.testBit p with
  | true =>
    rw [h, if_pos rfl] at hb
    have e2 : ((q : Int) != 0) = true := by simp; omega
    go_enter Try.func63, Try.ntmps63
    go_wp2_with fail
    refine C.out.mono ?_
    rintro e w1 ⟨rfl, rfl⟩
    go_wp2
    go_ret
    exact ⟨by simp_all, rfl⟩
  | false =>
    rw [h, if_neg (by decide)] at hb
    go_enter Try.func63, Try.ntmps63
    go_wp2_with fail
    refine C.out.mono ?_
    rintro e w1 ⟨rfl, rfl⟩
    go_wp2
    go_ret
    exact ⟨by simp, rfl⟩

set_option maxRecDepth 100000 in
set_option maxHeartbeats 1000000 in
theorem setOf_any {S : Nat → Prop} {w : World} {v : Value} {L : List Int} (h : IntZ S w v L) (hl : L.length ≤ 1000000) (hz : ∀ z ∈ L, 0 ≤ z ∧ z < 24) :
    Calls Try.prog 40 #[v] w fun e w' => e = .returned (.int .u32 (setN L : Int)) ∧ w' = w := by
  obtain ⟨ao, cap, rfl⟩ := h.slice
  have H := Hid.mk h
  obtain ⟨n, hn⟩ : ∃ n, n = L.length := ⟨_, rfl⟩
  rw [← hn] at hl H ⊢
  have HN := Hid.mk hn
  have HZ := Hid.mk hz
  obtain ⟨ans, hans⟩ : ∃ a, a = setN L := ⟨_, rfl⟩
  rw [← hans]
  have HA := Hid.mk hans
  clear h hn hans hz
  go_enter Try.func40, Try.ntmps40
  go_wp2_with fail
  go_loopw [3, 8] (fun s c wr => ∃ (i x : Nat), i ≤ n ∧ c = .int .i64 i ∧ s = .int .u32 (x : Int) ∧ setN (L.take i) = x ∧ wr = w) (fun _ c _ => n - (intOf c).toNat)
  case atStart => exact ⟨0, 0, Nat.zero_le _, rfl, rfl, rfl, rfl⟩
  case round =>
    obtain ⟨i, x, hi, rfl, rfl, hx, rfl⟩ := hrel
    have hxl : x < 16777216 := by rw [← hx]; exact setN_lt (fun z hz => (HZ.out z (List.mem_of_mem_take hz)).2)
    have HX := Hid.mk hx
    clear hx
    by_cases hlt : i < n
    · have hltI : (i : Int) < (n : Int) := by omega
      obtain ⟨z, hz⟩ : ∃ z, L[i]? = some z := ⟨_, List.getElem?_eq_getElem (by rw [← HN.out]; exact hlt)⟩
      obtain ⟨g, off, rfl, _, _, hcell⟩ := H.out.get hz
      have q0 := getZ hcell
      rw [Nat.mul_one] at q0
      obtain ⟨h0, h24⟩ := HZ.out z (List.mem_of_getElem? hz)
      obtain ⟨p, rfl⟩ : ∃ p : Nat, z = p := ⟨z.toNat, by omega⟩
      have hp : p < 24 := by omega
      have C := Hid.mk (only_any p wr hp)
      have hpow := pow_lt24 hp
      have HS : Hid (setN (L.take (i + 1)) = x ||| 2 ^ p) := Hid.mk (by
        rw [setN, foldl_take hz]
        show setN (L.take i) ||| _ = _
        rw [HX.out]; rfl)
      obtain ⟨q, hqe⟩ : ∃ q, q = 2 ^ p := ⟨_, rfl⟩
      rw [← hqe] at C HS hpow
      have hb : bits .or .u32 (x : Int) (q : Int) = ((x ||| q : Nat) : Int) := u32_or_nat x q (by omega) (by omega)
      clear hqe hcell hz h0 h24
      go_wp2_with fail
      refine C.out.mono ?_
      rintro e w1 ⟨rfl, rfl⟩
      go_wp2
      go_roundw
      case rel => exact ⟨i + 1, x ||| q, by omega, by go_num, rfl, HS.out, by trivial⟩
      case measure => simp [intOf]; omega
    · have hltI : ¬ (i : Int) < (n : Int) := by omega
      have HF : Hid (ans = x) := Hid.mk (by
        rw [HA.out, ← HX.out, List.take_of_length_le (by rw [← HN.out]; omega)])
      go_wp2
      go_ret
      exact ⟨by rw [HF.out]; rfl, rfl⟩

set_option maxRecDepth 100000 in
set_option maxHeartbeats 1000000 in
theorem list_any (s : Nat) (w : World) (hs : s < 16777216) :
    Calls Try.prog 57 #[.int .u32 (s : Int)] w fun e w' => ∃ v', e = .returned v' ∧ w'.ownsRow w.heap.size 3 1 v' (listN 24 s).length ((listN 24 s).flatMap csZ) ∧ Below w.heap.size w w' := by
  obtain ⟨i0, hi0, hz0, hz1, hz2⟩ := info_parts infoZ
  go_enter Try.func57, Try.ntmps57
  go_wp2_with fail
  go_loopw [3, 5] (fun vl c wr => ∃ (k : Nat) (u : Value), u = vl ∧ k ≤ 24 ∧ c = .int .i64 k ∧ wr.ownsRow w.heap.size 3 1 u (listN k s).length ((listN k s).flatMap csZ) ∧ Below w.heap.size w wr) (fun _ c _ => 24 - (intOf c).toNat)
  case atStart => exact ⟨0, _, rfl, Nat.zero_le _, rfl, World.ownsRow_nil _ _ _ _, Below.refl _ _⟩
  case round =>
    obtain ⟨k, u, rfl, hk, rfl, hrow, hbq⟩ := hrel
    obtain ⟨ua, uc, hu⟩ := own_slice hrow
    obtain ⟨nu, hnu⟩ : ∃ n, n = (listN k s).length := ⟨_, rfl⟩
    rw [← hnu] at hu
    subst hu
    have hnb : nu ≤ 1000000 := by have := listN_len k s; omega
    have HROW := Hid.mk hrow
    have HBQ := Hid.mk hbq
    have HNU := Hid.mk hnu
    have hsx : w.heap.size ≤ wr.heap.size := hbq.size
    clear hrow hbq hnu
    by_cases hlt : k < 24
    · have hltI : (k : Int) < 24 := by omega
      have C := Hid.mk (has_any s k wr hs hlt)
      cases hbit : s.testBit k with
      | true =>
        rw [hbit] at C
        rw [HNU.out] at HROW
        rw [← HNU.out] at HROW
        have HBIT := Hid.mk hbit
        clear hbit
        go_wp2_with fail
        refine C.out.mono ?_
        rintro e w1 ⟨rfl, rfl⟩
        go_wp2_with (at_builtin; refine wpList_append_lies _ rfl _ _ _ rfl w.heap.size 3 i0 _ 1 8 Try.underlying28 hi0 hz0 hz1 hz2 rfl (by decide) (.slice ua nu uc) _ _ (by rfl) (HROW.out.alloc _) ⟨w1.heap.size, 0, none⟩ 1 1 (csZ (k : Int)) (by rfl) (by rfl) ?d1 ?d2 (by decide) ?d3 ?d4 ?d5 (w1.heap.size + 1) (by simp) ?_)
        case d1 => exact World.news_of_block (cs := #[.int .i64 (k : Int)]) (t := 3) (fr := (0, 0)) (heap_alloc_new w1 _)
        case d2 => simp [Value.oneCell']
        case d3 => unfold maxLen; have := HNU.out; omega
        case d4 => have := HNU.out; omega
        case d5 => simp; omega
        intro gg cap2 w9 hown9 hgrow9 hat9 hlt9
        have ba : Below w1.heap.size w1 (w1.alloc (.cells #[.int .i64 (k : Int)] 3)) := (Below.refl _ _).alloc (Nat.le_refl _) _
        have HB9 : Hid (Below w.heap.size w w9) := Hid.mk ((HBQ.out.trans (ba.mono HBQ.out.size)).grown hgrow9 (by simp; omega) (fun k e => (HROW.out.lt k e).1))
        have HR9 : Hid (w9.ownsRow w.heap.size 3 1 (.slice (some ⟨gg, 0, none⟩) (nu + 1) cap2) (listN (k + 1) s).length ((listN (k + 1) s).flatMap csZ)) := Hid.mk (by
          rw [listN_succ, if_pos HBIT.out, List.length_append, ← HNU.out, List.flatMap_append]
          have h2 := hown9
          simpa [csZ] using h2)
        clear hown9 hgrow9 hat9 hlt9 ba
        go_wp2
        go_roundw
        case rel => exact ⟨k + 1, _, rfl, by omega, by go_num, HR9.out, HB9.out⟩
        case measure => simp [intOf]; omega
      | false =>
        rw [hbit] at C
        have HR9 : Hid (wr.ownsRow w.heap.size 3 1 (.slice ua nu uc) (listN (k + 1) s).length ((listN (k + 1) s).flatMap csZ)) := Hid.mk (by
          rw [listN_succ, if_neg (by rw [hbit]; decide), List.append_nil]
          exact HROW.out)
        clear hbit
        go_wp2_with fail
        refine C.out.mono ?_
        rintro e w1 ⟨rfl, rfl⟩
        go_wp2
        go_roundw
        case rel => exact ⟨k + 1, _, rfl, by omega, by go_num, HR9.out, HBQ.out⟩
        case measure => simp [intOf]; omega
    · have hltI : ¬ (k : Int) < 24 := by omega
      have hke : k = 24 := by omega
      have HKE := Hid.mk hke
      clear hke
      go_wp2
      go_ret
      refine ⟨_, rfl, ?_, HBQ.out⟩
      rw [HKE.out] at HROW
      exact HROW.out
end Go.Proofs.Ythdnpddfdlhlaaa
