/- Parts of words, and how many cells there are: the program's and the document's. -/
import Derived.Test.YtojjepkmnifngaaHBase
namespace Go.Proofs.Ytojjepkmnifngaa
open Go.RowKit

/-- The part of a word, of so many. -/
def partM (s : ByteArray) (p : Int) : Int := if p < 1 ∨ 64 < p then 0 else (sumN (s ++ ⟨#[35]⟩).data.toList : Int) % p
theorem partM_bad {s : ByteArray} {p : Int} (h : p < 1 ∨ 64 < p) : partM s p = 0 := if_pos h
theorem partM_good {s : ByteArray} {p : Int} (h0 : 1 ≤ p) (h1 : p ≤ 64) : partM s p = (sumN (s ++ ⟨#[35]⟩).data.toList : Int) % p := if_neg (by omega)
theorem partM_range (s : ByteArray) {p : Int} (h0 : 1 ≤ p) (h1 : p ≤ 64) : 0 ≤ partM s p ∧ partM s p < p := by
  rw [partM_good h0 h1]
  exact ⟨Int.emod_nonneg _ (by omega), Int.emod_lt_of_pos _ (by omega)⟩
theorem mark_size (s : ByteArray) : (s ++ (⟨#[35]⟩ : ByteArray)).size = s.size + 1 := ByteArray.size_append
set_option maxRecDepth 100000 in
set_option maxHeartbeats 1000000 in
theorem part_any (s : ByteArray) (p : Int) (w : World) (hs : s.size ≤ 140737488351000) :
    Calls Try.prog 14 #[.string s, .int .i64 p] w fun e w' => e = .returned (.int .i64 (partM s p)) ∧ Below w.heap.size w w' := by
  by_cases h1 : p < 1
  · rw [partM_bad (.inl h1)]
    go_enter Try.func14, Try.ntmps14
    go_wp2
    go_ret
    exact ⟨rfl, Below.refl _ _⟩
  · by_cases h2 : 64 < p
    · rw [partM_bad (.inr h2)]
      go_enter Try.func14, Try.ntmps14
      go_wp2
      go_ret
      exact ⟨rfl, Below.refl _ _⟩
    · have hM := partM_good (s := s) (p := p) (by omega) (by omega)
      have hr := partM_range s (p := p) (by omega) (by omega)
      have hsl := sumN_lt (s ++ ⟨#[35]⟩).data.toList
      have C := Hid.mk (sum_any (s ++ ⟨#[35]⟩) w (by rw [mark_size]; omega))
      obtain ⟨n, hn⟩ : ∃ n, n = sumN (s ++ ⟨#[35]⟩).data.toList := ⟨_, rfl⟩
      obtain ⟨m, hm⟩ : ∃ m, m = partM s p := ⟨_, rfl⟩
      rw [← hn] at hM C hsl
      rw [← hm] at hM hr ⊢
      have hrem : ((n : Int)).tmod p = m := by rw [Int.tmod_eq_emod_of_nonneg (by omega), hM]
      clear hn hm hM
      go_enter Try.func14, Try.ntmps14
      go_wp2_with fail
      refine C.out.mono ?_
      rintro e w1 ⟨rfl, hb⟩
      go_wp2
      go_ret
      exact ⟨rfl, hb⟩
set_option maxRecDepth 100000 in
set_option maxHeartbeats 1000000 in
theorem rPart_any (s : ByteArray) (p : Int) (w : World) (hs : s.size ≤ 140737488351000) :
    Calls Try.prog 15 #[.string s, .int .i64 p] w fun e w' => e = .returned (.int .i64 (partM s p)) ∧ w' = w := by
  by_cases h1 : p < 1
  · rw [partM_bad (.inl h1)]
    go_enter Try.func15, Try.ntmps15
    go_wp2
    go_ret
    exact ⟨rfl, rfl⟩
  · by_cases h2 : 64 < p
    · rw [partM_bad (.inr h2)]
      go_enter Try.func15, Try.ntmps15
      go_wp2
      go_ret
      exact ⟨rfl, rfl⟩
    · have hM := partM_good (s := s) (p := p) (by omega) (by omega)
      have hr := partM_range s (p := p) (by omega) (by omega)
      have hsl := sumN_lt (s ++ ⟨#[35]⟩).data.toList
      have C := Hid.mk (rSum_any (s ++ ⟨#[35]⟩) w (by rw [mark_size]; omega))
      obtain ⟨n, hn⟩ : ∃ n, n = sumN (s ++ ⟨#[35]⟩).data.toList := ⟨_, rfl⟩
      obtain ⟨m, hm⟩ : ∃ m, m = partM s p := ⟨_, rfl⟩
      rw [← hn] at hM C hsl
      rw [← hm] at hM hr ⊢
      have hrem : ((n : Int)).tmod p = m := by rw [Int.tmod_eq_emod_of_nonneg (by omega), hM]
      clear hn hm hM
      go_enter Try.func15, Try.ntmps15
      go_wp2_with fail
      refine C.out.mono ?_
      rintro e w1 ⟨rfl, hb⟩
      rw [hb]
      clear hb
      go_wp2
      go_ret
      exact ⟨rfl, rfl⟩
/-- What Cells answers. -/
def cellE (L : List Int) : Value := if okL L = true then .tuple #[.int .i64 (prodI L), .int .i64 0] else .tuple #[.int .i64 0, .int .i64 1]
theorem ok_take {L : List Int} (i : Nat) (h : okL L = true) : okL (L.take i) = true := okL_part (b := L.drop i) (by rw [List.take_append_drop]; exact h)
theorem ok_step {L : List Int} {i : Nat} {x : Int} (hi : i < 16) (h : okL (L.take i) = true) (hx : L[i]? = some x) : okL (L.take (i + 1)) = (decide (1 ≤ x) && decide (prodI (L.take i) * x ≤ 64)) := by
  obtain ⟨h1, h2, h3⟩ := okL_iff.1 h
  rw [Bool.eq_iff_iff, okL_iff, take_snoc hx]
  simp only [List.length_append, List.length_singleton, Bool.and_eq_true, decide_eq_true_eq, prodI_app, prodI, Int.mul_one]
  constructor
  · rintro ⟨_, g2, g3⟩; exact ⟨g2 x (by simp), g3⟩
  · rintro ⟨g1, g2⟩
    refine ⟨by rw [List.length_take]; omega, fun y hy => ?_, g2⟩
    rcases List.mem_append.1 hy with hy | hy
    · exact h2 y hy
    · rw [List.mem_singleton.1 hy]; exact g1
set_option maxRecDepth 100000 in
set_option maxHeartbeats 2000000 in
theorem cells_any {S : Nat → Prop} {w : World} {v : Value} {L : List Int} (h : IntZ S w v L) (hl : L.length ≤ 9223372036854775807) :
    Calls Try.prog 12 #[v] w fun e w' => e = .returned (cellE L) ∧ w' = w := by
  obtain ⟨ao, cap, rfl⟩ := h.slice
  have H := Hid.mk h
  obtain ⟨n, hn⟩ : ∃ n, n = L.length := ⟨_, rfl⟩
  rw [← hn] at hl H ⊢
  have HN := Hid.mk hn
  obtain ⟨ans, hans⟩ : ∃ a, a = cellE L := ⟨_, rfl⟩
  rw [← hans]
  have HA := Hid.mk hans
  clear h hn hans
  by_cases h16 : 16 < n
  · have HF : Hid (ans = .tuple #[.int .i64 0, .int .i64 1]) := Hid.mk (by
      rw [HA.out, cellE, if_neg]
      intro hk
      have := (okL_iff.1 hk).1
      rw [← HN.out] at this
      omega)
    have hI : (16 : Int) < (n : Int) := by omega
    go_enter Try.func12, Try.ntmps12
    go_wp2
    go_ret2
    exact ⟨by rw [HF.out]; rfl, rfl⟩
  · have hI : ¬ (16 : Int) < (n : Int) := by omega
    go_enter Try.func12, Try.ntmps12
    go_wp2_with fail
    go_loopw [4, 12] (fun k c wr => ∃ i : Nat, i ≤ n ∧ c = .int .i64 i ∧ okL (L.take i) = true ∧ k = .int .i64 (prodI (L.take i)) ∧ wr = w) (fun _ c _ => n - (intOf c).toNat)
    case atStart => exact ⟨0, Nat.zero_le _, rfl, rfl, rfl, rfl⟩
    case round =>
      obtain ⟨i, hi, rfl, hok, rfl, rfl⟩ := hrel
      have hp1 := prodI_pos (okL_iff.1 hok).2.1
      have hp2 := (okL_iff.1 hok).2.2
      have HOK := Hid.mk hok
      clear hok
      obtain ⟨P, hP⟩ : ∃ P, P = prodI (L.take i) := ⟨_, rfl⟩
      rw [← hP] at hp1 hp2 ⊢
      have HP := Hid.mk hP
      clear hP
      by_cases hlt : i < n
      · have hltI : (i : Int) < (n : Int) := by omega
        obtain ⟨x, hx⟩ : ∃ x, L[i]? = some x := ⟨_, List.getElem?_eq_getElem (by rw [← HN.out]; exact hlt)⟩
        obtain ⟨g, off, rfl, _, _, hcell⟩ := H.out.get hx
        have q0 := getZ hcell
        rw [Nat.mul_one] at q0
        have HST := Hid.mk (ok_step (by omega) HOK.out hx)
        rw [← HP.out] at HST
        have HPS := Hid.mk (prodI_snoc hx)
        rw [← HP.out] at HPS
        have HBAD : Hid (okL (L.take (i + 1)) = false → ans = .tuple #[.int .i64 0, .int .i64 1]) := Hid.mk (fun hf => by
          rw [HA.out, cellE, if_neg]
          intro hk
          rw [ok_take (i + 1) hk] at hf
          cases hf)
        clear hx hcell
        by_cases h1 : x < 1
        · have HF : Hid (ans = .tuple #[.int .i64 0, .int .i64 1]) := Hid.mk (HBAD.out (by rw [HST.out, decide_eq_false (by omega)]; rfl))
          go_wp2
          go_ret2
          exact ⟨by rw [HF.out]; rfl, rfl⟩
        · obtain ⟨q, hq⟩ : ∃ q, (64 : Int).tdiv P = q := ⟨_, rfl⟩
          have hq2 : (64 : Int) / P = q := by rw [← hq, Int.tdiv_eq_ediv_of_nonneg (by omega)]
          have hqr : 0 ≤ q ∧ q ≤ 64 := by
            rw [← hq2]
            exact ⟨Int.ediv_nonneg (by omega) (by omega), Int.ediv_le_self _ (by omega)⟩
          have HIF : Hid (x ≤ q ↔ P * x ≤ 64) := Hid.mk (by
            rw [← hq2, Int.le_ediv_iff_mul_le (by omega), Int.mul_comm])
          obtain ⟨hq3, hq4⟩ := hqr
          clear hq2
          by_cases h2 : q < x
          · have HF : Hid (ans = .tuple #[.int .i64 0, .int .i64 1]) := Hid.mk (HBAD.out (by
              rw [HST.out, decide_eq_false (show ¬ P * x ≤ 64 from fun hh => by have := HIF.out.2 hh; omega), Bool.and_false]))
            go_wp2
            go_ret2
            exact ⟨by rw [HF.out]; rfl, rfl⟩
          · have hle := HIF.out.1 (by omega)
            have hx1 : 1 ≤ x := by omega
            have hge : 1 ≤ P * x := by have := Int.mul_le_mul hp1 hx1 (by omega) (by omega); omega
            have HT : Hid (okL (L.take (i + 1)) = true) := Hid.mk (by rw [HST.out, decide_eq_true hle, decide_eq_true hx1]; rfl)
            go_wp2
            go_roundw
            case rel => exact ⟨i + 1, by omega, by go_num, HT.out, by rw [HPS.out], by trivial⟩
            case measure => simp [intOf]; omega
      · have hltI : ¬ (i : Int) < (n : Int) := by omega
        have HT : Hid (L.take i = L) := Hid.mk (List.take_of_length_le (by rw [← HN.out]; omega))
        have HF : Hid (ans = .tuple #[.int .i64 P, .int .i64 0]) := Hid.mk (by
          have := HOK.out
          rw [HT.out] at this
          rw [HA.out, cellE, if_pos this, HP.out, HT.out])
        go_wp2
        go_ret2
        exact ⟨by rw [HF.out]; rfl, rfl⟩
end Go.Proofs.Ytojjepkmnifngaa
