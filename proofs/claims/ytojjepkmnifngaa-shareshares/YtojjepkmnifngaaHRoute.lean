/- Route: the program's. -/
import Derived.Test.YtojjepkmnifngaaHWith
namespace Go.Proofs.Ytojjepkmnifngaa
open Go.RowKit

/-- May cells of words be asked for? -/
def askR (L vs : List Int) (m : Nat) : Prop := okL L = true ∧ m = vs.length ∧ vs.length ≤ 16 ∧ ∀ v ∈ vs, 0 ≤ v ∧ v < (L.length : Int)
/-- What Route ends with. -/
def RouE (L vs : List Int) (ws : List (List UInt8)) (w : World) (e : Ending) (w' : World) : Prop :=
  Below w.heap.size w w' ∧ ((askR L vs ws.length ∧ ∃ v, e = .returned (.tuple #[v, .int .i64 0]) ∧ IntZ (fun k => w.heap.size ≤ k) w' v (routeL L (prs L vs ws))) ∨ (¬ askR L vs ws.length ∧ e = .returned (.tuple #[.slice none 0 0, .int .i64 1])))
set_option maxHeartbeats 4000000 in
set_option maxRecDepth 100000 in
theorem route_any {S : Nat → Prop} {w : World} {v1 v2 v3 : Value} {L vs : List Int} {ws : List (List UInt8)} (h1 : IntZ S w v1 L) (h2 : IntZ S w v2 vs) (h3 : TxtW S w v3 ws) (hb1 : L.length ≤ 9223372036854775807) (hb2 : vs.length ≤ 9223372036854775807)
    (hs : ∀ s ∈ ws, s.length ≤ 140737488351000) :
    Calls Try.prog 10 #[v1, v2, v3] w (RouE L vs ws w) := by
  have HCL := Hid.mk (cells_any h1 hb1)
  have HCP : Hid (okL L = true → (∀ v ∈ vs, 0 ≤ v ∧ v < (L.length : Int)) → ws.length = vs.length → vs.length ≤ 16 → Calls Try.prog 21 #[v1, v2, v3] w (PrtE L (prs L vs ws) w)) := Hid.mk (fun a b c d => partsOf_any h1 h2 h3 a b c d hs)
  have HCW : Hid (∀ W (T : Nat → Prop) (v : Value) (Bd : List Int), Below w.heap.size w W → IntZ T W v Bd → okL L = true → Bd.length = L.length → Calls Try.prog 22 #[v1, v] W fun e w' => ∃ v, e = .returned v ∧ IntZ (fun k => W.heap.size ≤ k) w' v (cellsL (L.zip Bd)) ∧ Below W.heap.size W w') := Hid.mk (fun W T v Bd hW hB a b => cellsWith_any (h1.below hW) hB a b)
  obtain ⟨a1, c1, rfl⟩ := h1.slice
  obtain ⟨a2, c2, rfl⟩ := h2.slice
  obtain ⟨a3, c3, rfl⟩ := h3.slice
  have H2 := Hid.mk h2
  have HQ1 : Hid (askR L vs ws.length → ∀ e w', Below w.heap.size w w' → (∃ v, e = .returned (.tuple #[v, .int .i64 0]) ∧ IntZ (fun k => w.heap.size ≤ k) w' v (routeL L (prs L vs ws))) → RouE L vs ws w e w') := Hid.mk (fun a e w' b c => ⟨b, .inl ⟨a, c⟩⟩)
  have HQ2 : Hid (¬ askR L vs ws.length → ∀ w', Below w.heap.size w w' → RouE L vs ws w (.returned (.tuple #[.slice none 0 0, .int .i64 1])) w') := Hid.mk (fun a w' b => ⟨b, .inr ⟨a, rfl⟩⟩)
  clear h1 h2 h3 hs
  by_cases hL : okL L = true
  · have HL := Hid.mk hL
    have hce : cellE L = .tuple #[.int .i64 (prodI L), .int .i64 0] := if_pos hL
    rw [hce] at HCL
    clear hce hL
    by_cases hm : ws.length = vs.length
    · have HM := Hid.mk hm
      rw [hm] at HQ1 HQ2 HCP ⊢
      obtain ⟨n, hn⟩ : ∃ n, n = L.length := ⟨_, rfl⟩
      obtain ⟨m, hmm⟩ : ∃ m, m = vs.length := ⟨_, rfl⟩
      have HN := Hid.mk hn
      have HM2 := Hid.mk hmm
      rw [← hn] at HCL HCP HCW hb1 ⊢
      rw [← hmm] at HCP HQ1 HQ2 H2 hb2 ⊢
      clear hn hmm hm
      by_cases h16 : 16 < m
      · have hI : (16 : Int) < (m : Int) := by omega
        have HNO : Hid (¬ askR L vs m) := Hid.mk (fun ⟨_, _, c, _⟩ => by have := HM2.out; omega)
        go_enter Try.func10, Try.ntmps10
        go_wp2_with fail
        refine HCL.out.mono ?_
        rintro e w1 ⟨rfl, h⟩
        rw [h]
        clear h
        go_wp2
        go_ret2
        exact HQ2.out HNO.out _ (Below.refl _ _)
      · have hI : ¬ (16 : Int) < (m : Int) := by omega
        go_enter Try.func10, Try.ntmps10
        go_wp2_with fail
        refine HCL.out.mono ?_
        rintro e w1 ⟨rfl, h⟩
        rw [h]
        clear h
        go_wp2_with fail
        go_loopw [34] (fun c wr => ∃ i : Nat, i ≤ m ∧ c = .int .i64 i ∧ (∀ (j : Nat) v, j < i → vs[j]? = some v → 0 ≤ v ∧ v < (n : Int)) ∧ wr = w) (fun c _ => m - (intOf c).toNat)
        case atStart => exact ⟨0, Nat.zero_le _, rfl, fun j v hj => absurd hj (by omega), rfl⟩
        case round =>
          obtain ⟨i, hi, rfl, hall, h⟩ := hrel
          rw [h]
          clear h
          have HALL := Hid.mk hall
          clear hall
          by_cases hlt : i < m
          · have hltI : (i : Int) < (m : Int) := by omega
            obtain ⟨v, hv⟩ : ∃ v, vs[i]? = some v := ⟨_, List.getElem?_eq_getElem (by rw [← HM2.out]; exact hlt)⟩
            obtain ⟨g2, o2, e2, _, _, d2⟩ := H2.out.get hv
            have q2 := getZ d2
            rw [Nat.mul_one] at q2
            have HVV := Hid.mk hv
            clear d2 hv
            subst e2
            by_cases h0 : v < 0
            · have HNO : Hid (¬ askR L vs m) := Hid.mk (fun ⟨_, _, _, d⟩ => by have := d v (List.mem_of_getElem? HVV.out); omega)
              go_wp2
              go_ret2
              exact HQ2.out HNO.out _ (Below.refl _ _)
            · by_cases h1 : (n : Int) ≤ v
              · have HNO : Hid (¬ askR L vs m) := Hid.mk (fun ⟨_, _, _, d⟩ => by have := d v (List.mem_of_getElem? HVV.out); have := HN.out; omega)
                go_wp2
                go_ret2
                exact HQ2.out HNO.out _ (Below.refl _ _)
              · have HA2 : Hid (∀ (j : Nat) u, j < i + 1 → vs[j]? = some u → 0 ≤ u ∧ u < (n : Int)) := Hid.mk (fun j u hj hu => by
                  by_cases e : j = i
                  · subst e
                    rw [HVV.out] at hu
                    have := Option.some.inj hu
                    omega
                  · exact HALL.out j u (by omega) hu)
                go_wp2
                go_roundw
                case rel => exact ⟨i + 1, by omega, by go_num, HA2.out, by trivial⟩
                case measure => simp [intOf]; omega
          · have hltI : ¬ (i : Int) < (m : Int) := by omega
            have HV : Hid (∀ v ∈ vs, 0 ≤ v ∧ v < (n : Int)) := Hid.mk (fun v hv => by
              obtain ⟨j, hj⟩ := List.getElem?_of_mem hv
              exact HALL.out j v (by have := (List.getElem?_eq_some_iff.1 hj).1; have := HM2.out; omega) hj)
            have HASK : Hid (askR L vs m) := Hid.mk ⟨HL.out, HM2.out, by rw [← HM2.out]; omega, by rw [← HN.out]; exact HV.out⟩
            have HC2 := Hid.mk (HCP.out HL.out HV.out (by trivial) (by omega))
            clear HALL hlt hi
            go_wp2_with fail
            refine HC2.out.mono ?_
            rintro e w1 ⟨hb, h⟩
            have HB := Hid.mk hb
            rcases h with ⟨Bd, rfl, hrow, hbl, hbnd⟩ | ⟨rfl, hno⟩
            · have HRO : Hid (routeL L (prs L vs ws) = cellsL (L.zip Bd)) := Hid.mk (route_eq (okL_iff.1 HL.out).2.1 hbl hbnd (prs_range HL.out (by rw [← HN.out]; exact HV.out)))
              have HC3 := Hid.mk (HCW.out w1 _ _ Bd hb (VRow.sl (enc := csZ) (fun _ => rfl) hrow rfl) HL.out (by rw [hbl, HN.out]))
              rw [← HRO.out, hbl, ← HN.out] at HC3
              rw [← HN.out]
              clear hb hrow hbl hbnd
              go_wp2_with fail
              refine HC3.out.mono ?_
              rintro e w2 ⟨v, rfl, hv, hb2⟩
              have HV2 : Hid (IntZ (fun k => w.heap.size ≤ k) w2 v (routeL L (prs L vs ws))) := Hid.mk (hv.sub (fun b hb _ => by have := HB.out.size; omega))
              have HB2 : Hid (Below w.heap.size w w2) := Hid.mk (HB.out.trans (hb2.mono HB.out.size))
              clear hv hb2
              go_wp2
              go_ret2
              exact HQ1.out HASK.out _ _ HB2.out ⟨_, rfl, HV2.out⟩
            · have HNO := Hid.mk hno
              clear hno hb
              go_wp2
              go_ret2
              exact HQ1.out HASK.out _ _ HB.out ⟨_, rfl, by rw [HNO.out]; exact SlS.nil _ _⟩
    · have HNO : Hid (¬ askR L vs ws.length) := Hid.mk (fun ⟨_, b, _⟩ => hm b)
      have hd : ((ws.length : Int) != (vs.length : Int)) = true := by simp; omega
      obtain ⟨n, hn⟩ : ∃ n, n = ws.length := ⟨_, rfl⟩
      obtain ⟨m, hmm⟩ : ∃ m, m = vs.length := ⟨_, rfl⟩
      rw [← hn, ← hmm] at hd
      rw [← hn] at HQ2 HNO ⊢
      rw [← hmm] at ⊢
      clear hn hmm hm HQ1 HCP HCW
      go_enter Try.func10, Try.ntmps10
      go_wp2_with fail
      refine HCL.out.mono ?_
      rintro e w1 ⟨rfl, h⟩
      rw [h]
      clear h
      go_wp2
      go_ret2
      exact HQ2.out HNO.out _ (Below.refl _ _)
  · have hce : cellE L = .tuple #[.int .i64 0, .int .i64 1] := if_neg hL
    have HNO : Hid (¬ askR L vs ws.length) := Hid.mk (fun ⟨a, _⟩ => hL a)
    rw [hce] at HCL
    clear hce hL
    go_enter Try.func10, Try.ntmps10
    go_wp2_with fail
    refine HCL.out.mono ?_
    rintro e w1 ⟨rfl, h⟩
    rw [h]
    clear h
    go_wp2
    go_ret2
    exact HQ2.out HNO.out _ (Below.refl _ _)
end Go.Proofs.Ytojjepkmnifngaa
