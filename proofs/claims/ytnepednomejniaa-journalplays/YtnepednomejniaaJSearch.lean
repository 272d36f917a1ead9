/- What Fail looks up: the library's search over the notes' ends, and the last end. -/
import Derived.Test.YtnepednomejniaaJWrite
namespace Go.Proofs.Ytnepednomejniaa
open Go.RowKit

/-- Where the note k ends, as a number. -/
def endAt (ns : List NoteD) (k : Nat) : Nat := (seals (ns.take (k + 1))).length
theorem endAt_mono (ns : List NoteD) {i j : Nat} (h : i ≤ j) : endAt ns i ≤ endAt ns j := seals_mono ns (by omega)

/-- The value of the function that Fail hands to the search. -/
abbrev pastV (bj bt : Nat) : Value := .func (.func 32) #[] #[.pointer (some ⟨bj, 0, none⟩), .pointer (some ⟨bt, 0, none⟩)]

/-- What the function reads. -/
structure PastAt (w : World) (b bj bt : Nat) (T : Nat) (ve : Value) (ns : List NoteD) : Prop where
  cj : One w bj 23 (.pointer (some ⟨b, 0, none⟩))
  ct : One w bt 3 (.int .i64 T)
  ce : w.cell? ⟨b, 3, none⟩ = some ve
  lt : b < w.heap.size
  ve : IntsAt w ve (endsOf ns)
theorem PastAt.below {w w' : World} {b bj bt T : Nat} {ve : Value} {ns : List NoteD} (h : PastAt w b bj bt T ve ns) (hb : Below w.heap.size w w') : PastAt w' b bj bt T ve ns :=
  ⟨(hb.block bj (lt_of_block h.cj)).trans h.cj, (hb.block bt (lt_of_block h.ct)).trans h.ct, (hb.cell (p := ⟨b, 3, none⟩) h.lt).trans h.ce, Nat.lt_of_lt_of_le h.lt hb.size, h.ve.below hb⟩

set_option maxRecDepth 100000 in
theorem past_any (w : World) (b bj bt T : Nat) (ve : Value) (ns : List NoteD) (h : PastAt w b bj bt T ve ns) (i : Nat) (hi : i < ns.length) :
    Calls Try.prog 32 #[.int .i64 i, .pointer (some ⟨bj, 0, none⟩), .pointer (some ⟨bt, 0, none⟩)] w fun e w' => e = .returned (.bool (decide (T < endAt ns i))) ∧ Below w.heap.size w w' := by
  have c1 := cell_of_one h.cj
  have c2 := cell_of_one h.ct
  have c3 := h.ce
  obtain ⟨_, ao, cap, rfl, hc⟩ := h.ve.parts
  have hx := endsOf_at ns i hi
  have hlen := endsOf_len ns
  have hiI : (i : Int) < ((endsOf ns).length : Int) := by omega
  rcases hc with hnil | ⟨g, o, rfl, hl, hc⟩
  · rw [hnil] at hx; simp at hx
  · have hcx := hc i _ hx
    obtain ⟨X, hX⟩ : ∃ X, X = endAt ns i := ⟨_, rfl⟩
    have hcx2 : w.cell? ⟨g, o + i, none⟩ = some (.int .i64 (X : Int)) := by rw [hX]; exact hcx
    rw [← hX]
    clear hX hcx hc hx h
    go_enter Try.func32, Try.ntmps32
    go_wp2_with fail
    go_quiet (fail)
    have hbq := below_drewN (Below.refl w.heap.size w) nq
    go_wp2
    go_ret
    exact ⟨by simp, hbq⟩

set_option maxHeartbeats 1000000 in
set_option maxRecDepth 100000 in
theorem search_any (w : World) (b bj bt T : Nat) (ve : Value) (ns : List NoteD) (h : PastAt w b bj bt T ve ns) (hn : ns.length ≤ 8388608) :
    Calls Try.prog 31 #[.int .i64 ns.length, pastV bj bt] w fun e w' => ∃ m : Nat, e = .returned (.int .i64 m) ∧ m ≤ ns.length ∧ (∀ k, k < m → endAt ns k ≤ T) ∧ (m < ns.length → T < endAt ns m) ∧ Below w.heap.size w w' := by
  have H := Hid.mk h
  clear h
  go_enter Try.func31, Try.ntmps31
  go_wp2
  go_loopw [5, 6] (fun s5 s6 wr => ∃ i j : Nat, i ≤ j ∧ j ≤ ns.length ∧ s5 = .int .i64 i ∧ s6 = .int .i64 j ∧ (∀ k, k < i → endAt ns k ≤ T) ∧ (j < ns.length → T < endAt ns j) ∧ Below w.heap.size w wr) (fun s5 s6 _ => (intOf s6).toNat - (intOf s5).toNat)
  case atStart => exact ⟨0, ns.length, Nat.zero_le _, Nat.le_refl _, rfl, rfl, by intro k hk; omega, by intro hk; omega, Below.refl _ _⟩
  case round =>
    obtain ⟨i, j, hij, hjn, rfl, rfl, hlo, hhi, hbw⟩ := hrel
    have HLO := Hid.mk hlo
    have HHI := Hid.mk hhi
    have HB := Hid.mk hbw
    clear hlo hhi hbw
    by_cases hlt : i < j
    · have hltI : (i : Int) < (j : Int) := by omega
      obtain ⟨m, hm⟩ : ∃ m : Nat, ((i : Int) + (j : Int)) / 2 = (m : Int) := ⟨(i + j) / 2, by omega⟩
      have him : i ≤ m := by omega
      have hmj : m < j := by omega
      have C := Hid.mk (past_any wr b bj bt T ve ns (H.out.below HB.out) m (by omega))
      by_cases hp : T < endAt ns m
      · rw [decide_eq_true hp] at C
        have HHI2 : Hid (m < ns.length → T < endAt ns m) := Hid.mk (fun _ => hp)
        clear hp
        go_wp2_with fail
        refine C.out.mono ?_
        rintro e w1 ⟨rfl, hb1⟩
        have HB1 := Hid.mk (keepB HB.out hb1 (Nat.le_refl _))
        clear hb1
        go_wp2
        go_roundw
        case rel => exact ⟨i, m, by omega, by omega, rfl, rfl, HLO.out, HHI2.out, HB1.out⟩
        case measure => simp [intOf]; omega
      · rw [decide_eq_false hp] at C
        have HLO2 : Hid (∀ k, k < m + 1 → endAt ns k ≤ T) := Hid.mk (fun k hk => Nat.le_trans (endAt_mono ns (by omega)) (Nat.le_of_not_lt hp))
        clear hp
        go_wp2_with fail
        refine C.out.mono ?_
        rintro e w1 ⟨rfl, hb1⟩
        have HB1 := Hid.mk (keepB HB.out hb1 (Nat.le_refl _))
        clear hb1
        go_wp2
        go_roundw
        case rel => exact ⟨m + 1, j, by omega, by omega, by go_num, rfl, HLO2.out, HHI.out, HB1.out⟩
        case measure => simp [intOf]; omega
    · have hltI : ¬ (i : Int) < (j : Int) := by omega
      have he : i = j := by omega
      subst he
      go_wp2
      go_ret
      exact ⟨i, rfl, hjn, HLO.out, HHI.out, HB.out⟩

set_option maxRecDepth 100000 in
theorem lastEnd_any (w : World) (b : Nat) (ve : Value) (ns : List NoteD) (hc : w.cell? ⟨b, 3, none⟩ = some ve) (hv : IntsAt w ve (endsOf ns)) (hn : ns.length ≤ 8388608) :
    Calls Try.prog 33 #[.pointer (some ⟨b, 0, none⟩)] w fun e w' => e = .returned (.int .i64 ((seals ns).length : Int)) ∧ Below w.heap.size w w' := by
  obtain ⟨_, ao, cap, rfl, hcs⟩ := hv.parts
  have hlen := endsOf_len ns
  by_cases h0 : ns.length = 0
  · have he : ns = [] := List.length_eq_zero_iff.1 h0
    subst he
    have hl0 : (endsOf []).length = 0 := rfl
    rw [hl0] at hc
    clear hcs hv
    go_enter Try.func33, Try.ntmps33
    go_wp2
    go_ret
    exact ⟨rfl, Below.refl _ _⟩
  · obtain ⟨k, hk⟩ : ∃ k, ns.length = k + 1 := ⟨ns.length - 1, by omega⟩
    have hx := endsOf_at ns k (by omega)
    rw [← hk, List.take_of_length_le (Nat.le_refl _)] at hx
    rw [hlen, hk] at hc
    rcases hcs with hnil | ⟨g, o, rfl, hl, hcs⟩
    · rw [hnil] at hx; simp at hx
    · have hcx := hcs k _ hx
      obtain ⟨X, hX⟩ : ∃ X, X = (seals ns).length := ⟨_, rfl⟩
      rw [← hX] at hcx ⊢
      have hk2 : k ≤ 8388608 := by omega
      clear hcs hv hx hlen hk hX h0 hn
      go_enter Try.func33, Try.ntmps33
      go_wp2_with fail
      go_quiet (fail)
      have hbq := below_drewN (Below.refl w.heap.size w) nq
      go_wp2
      go_ret
      exact ⟨rfl, hbq⟩
end Go.Proofs.Ytnepednomejniaa
