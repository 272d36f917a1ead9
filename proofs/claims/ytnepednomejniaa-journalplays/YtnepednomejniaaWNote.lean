/- Notes in memory; whether a note's kind and numbers are within their limits. -/
import Derived.Test.YtnepednomejniaaLaws4
import Derived.Test.YtnepednomejniaaWMath
namespace Go.Proofs.Ytnepednomejniaa
open Go.RowKit

/-- A slice of one-cell elements in memory, read-only. -/
def ValsAt (w : World) (v : Value) (vs : List Value) : Prop :=
  vs.length ≤ 9223372036854775807 ∧ ∃ ao cap, v = .slice ao vs.length cap ∧ (vs = [] ∨ ∃ b o, ao = some ⟨b, o, none⟩ ∧ b < w.heap.size ∧ ∀ j x, vs[j]? = some x → w.cell? ⟨b, o + j, none⟩ = some x)

theorem ValsAt.below {w w' : World} {v : Value} {vs : List Value} (h : ValsAt w v vs) (hb : Below w.heap.size w w') : ValsAt w' v vs := by
  obtain ⟨h1, ao, cap, h2, h3⟩ := h
  refine ⟨h1, ao, cap, h2, ?_⟩
  rcases h3 with h3 | ⟨b, o, ha, hl, hc⟩
  · exact .inl h3
  · exact .inr ⟨b, o, ha, Nat.lt_of_lt_of_le hl hb.size, fun j t hj => (hb.cell (p := ⟨b, o + j, none⟩) hl).trans (hc j t hj)⟩

theorem valsAt_own {w : World} {B : Nat} {e : TypeId} {v : Value} {vs : List Value} (h : w.ownsRow B e 1 v vs.length vs) (hl : vs.length ≤ 9223372036854775807) : ValsAt w v vs := by
  refine ⟨hl, ?_⟩
  have h2 := h.2
  rcases h2 with ⟨rfl, h0⟩ | ⟨g, cap, cur, rfl, h2⟩
  · exact ⟨none, 0, by rw [h0], .inl (List.length_eq_zero_iff.1 h0)⟩
  · refine ⟨_, cap, rfl, .inr ⟨g, 0, rfl, (h.lt g rfl).2, fun j t hj => ?_⟩⟩
    rw [Nat.zero_add, h.cellAt j (by have := (List.getElem?_eq_some_iff.1 hj).1; omega), hj]

def intCs (ns : List Int) : List Value := ns.map (Value.int .i64)
theorem intCs_snoc (ns : List Int) (x : Int) : intCs (ns ++ [x]) = intCs ns ++ [.int .i64 x] := by simp [intCs]
theorem intCs_len (ns : List Int) : (intCs ns).length = ns.length := by simp [intCs]
def IntsAt (w : World) (v : Value) (ns : List Int) : Prop := ValsAt w v (intCs ns)
theorem IntsAt.below {w w' : World} {v : Value} {ns : List Int} (h : IntsAt w v ns) (hb : Below w.heap.size w w') : IntsAt w' v ns := ValsAt.below h hb

def RowsAt (w : World) (v : Value) (rs : List (List (List UInt8))) : Prop :=
  ∃ vs, ValsAt w v vs ∧ vs.length = rs.length ∧ ∀ (j : Nat) x r, vs[j]? = some x → rs[j]? = some r → StrsAt w x r
theorem RowsAt.below {w w' : World} {v : Value} {rs : List (List (List UInt8))} (h : RowsAt w v rs) (hb : Below w.heap.size w w') : RowsAt w' v rs := by
  obtain ⟨vs, h1, h2, h3⟩ := h
  exact ⟨vs, h1.below hb, h2, fun j x r hx hr => (h3 j x r hx hr).below hb⟩

theorem RowsAt.parts {w : World} {v : Value} {rs : List (List (List UInt8))} (h : RowsAt w v rs) :
    rs.length ≤ 9223372036854775807 ∧ ∃ ao cap vs, v = .slice ao rs.length cap ∧ vs.length = rs.length ∧ (vs = [] ∨ ∃ b o, ao = some ⟨b, o, none⟩ ∧ b < w.heap.size ∧ ∀ j x, vs[j]? = some x → w.cell? ⟨b, o + j, none⟩ = some x) ∧ ∀ (j : Nat) x r, vs[j]? = some x → rs[j]? = some r → StrsAt w x r := by
  obtain ⟨vs, ⟨hlen, ao, cap, rfl, hc⟩, hvl, hrs⟩ := h
  exact ⟨by omega, ao, cap, vs, by rw [hvl], hvl, hc, hrs⟩

def NoteAt (w : World) (v : Value) (n : NoteD) : Prop :=
  ∃ vn vt vr, v = .agg #[.int .i64 n.kind, vn, vt, vr] ∧ IntsAt w vn n.nums ∧ StrsAt w vt n.texts ∧ RowsAt w vr n.rows
theorem NoteAt.below {w w' : World} {v : Value} {n : NoteD} (h : NoteAt w v n) (hb : Below w.heap.size w w') : NoteAt w' v n := by
  obtain ⟨vn, vt, vr, h1, h2, h3, h4⟩ := h
  exact ⟨vn, vt, vr, h1, h2.below hb, h3.below hb, h4.below hb⟩

theorem take_good {P : Int → Prop} {ls : List Int} {i : Nat} {t : Int} (h : ∀ u ∈ ls.take i, P u) (hx : ls[i]? = some t) (ht : P t) : ∀ u ∈ ls.take (i + 1), P u := by
  intro u hu
  rw [List.take_add_one, hx] at hu
  simp at hu
  rcases hu with hu | rfl
  · exact h u hu
  · exact ht

set_option maxRecDepth 100000 in
set_option maxHeartbeats 1000000 in
theorem numsMayBe_any (v : Value) (n : NoteD) (w : World) (h : NoteAt w v n) :
    Calls Try.prog 47 #[v] w fun e w' => e = .returned (.bool (decide n.numsOk)) ∧ Below w.heap.size w w' := by
  obtain ⟨vn, vt, vr, rfl, hn, _, _⟩ := h
  obtain ⟨kind, nums, texts, rows⟩ := n
  simp only at *
  obtain ⟨hlen, ao, cap, rfl, hc⟩ := hn
  rw [intCs_len] at *
  have HC := Hid.mk hc
  clear hc
  by_cases h1 : kind < 1
  · have HV : Hid (decide (NoteD.mk kind nums texts rows).numsOk = false) := Hid.mk (decide_eq_false (fun h => by have := h.1; simp only at this; omega))
    go_enter Try.func47, Try.ntmps47
    go_wp2
    go_ret
    exact ⟨by rw [HV.out]; rfl, (Below.refl _ _).alloc (Nat.le_refl _) _⟩
  · by_cases h2 : 255 < kind
    · have HV : Hid (decide (NoteD.mk kind nums texts rows).numsOk = false) := Hid.mk (decide_eq_false (fun h => by have := h.2.1; simp only at this; omega))
      go_enter Try.func47, Try.ntmps47
      go_wp2
      go_ret
      exact ⟨by rw [HV.out]; rfl, (Below.refl _ _).alloc (Nat.le_refl _) _⟩
    · by_cases h3 : 64 < nums.length
      · have HV : Hid (decide (NoteD.mk kind nums texts rows).numsOk = false) := Hid.mk (decide_eq_false (fun h => by have := h.2.2.1; simp only at this; omega))
        go_enter Try.func47, Try.ntmps47
        go_wp2
        go_ret
        exact ⟨by rw [HV.out]; rfl, (Below.refl _ _).alloc (Nat.le_refl _) _⟩
      · go_enter Try.func47, Try.ntmps47
        go_wp2
        go_loop [22] (fun c => ∃ i : Nat, i ≤ nums.length ∧ c = .int .i64 i ∧ ∀ x ∈ nums.take i, goodNum x) (fun c => nums.length - (intOf c).toNat)
        case atStart => exact ⟨0, Nat.zero_le _, rfl, by simp⟩
        case round =>
          obtain ⟨i, hi, rfl, hall⟩ := hrel
          have HALL := Hid.mk hall
          clear hall
          by_cases hlt : i < nums.length
          · obtain ⟨x, hx⟩ : ∃ x, nums[i]? = some x := ⟨_, List.getElem?_eq_getElem hlt⟩
            rcases HC.out with hnil | ⟨b, o, rfl, hl, hc⟩
            · exfalso
              have := intCs_len nums
              rw [hnil] at this
              simp at this
              omega
            · have hcx := hc i (.int .i64 x) (by rw [intCs, List.getElem?_map, hx]; rfl)
              have HX := Hid.mk hx
              have hltI : (i : Int) < (nums.length : Int) := by omega
              clear hc hx
              by_cases hg : goodNum x
              · have HA2 := Hid.mk (take_good HALL.out HX.out hg)
                obtain ⟨g1, g2⟩ := hg
                go_wp2
                go_round
                case rel => exact ⟨i + 1, by omega, by go_num, HA2.out⟩
                case measure => simp [intOf]; omega
              · have HV : Hid (decide (NoteD.mk kind nums texts rows).numsOk = false) := Hid.mk (decide_eq_false (fun h => hg (h.2.2.2 x (List.mem_of_getElem? HX.out))))
                by_cases g1 : x < 0
                · clear hg
                  go_wp2
                  go_ret
                  exact ⟨by rw [HV.out]; rfl, (Below.refl _ _).alloc (Nat.le_refl _) _⟩
                · have g2 : 4611686018427387903 < x := by
                    rw [goodNum] at hg; omega
                  clear hg
                  go_wp2
                  go_ret
                  exact ⟨by rw [HV.out]; rfl, (Below.refl _ _).alloc (Nat.le_refl _) _⟩
          · have hall := HALL.out
            rw [List.take_of_length_le (by omega)] at hall
            have HV : Hid (decide (NoteD.mk kind nums texts rows).numsOk = true) := Hid.mk (decide_eq_true ⟨by simp only; omega, by simp only; omega, by simp only; omega, hall⟩)
            clear hall
            go_wp2
            go_ret
            exact ⟨by rw [HV.out]; rfl, (Below.refl _ _).alloc (Nat.le_refl _) _⟩
end Go.Proofs.Ytnepednomejniaa
