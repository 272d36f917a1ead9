/- What comes whatever the arguments are; whether a note has few bytes. -/
import Derived.Test.YtnepednomejniaaJFail
namespace Go.Proofs.Ytnepednomejniaa
open Go.RowKit

set_option maxHeartbeats 1000000 in
set_option maxRecDepth 100000 in
theorem jlight_any (v : Value) (n : NoteD) (w : World) (h : NoteAt w v n) :
    Calls Try.prog 12 #[v] w fun e w' => IsBool e ∧ Below w.heap.size w w' := by
  obtain ⟨vn, vt, vr, rfl, _, ht, hr⟩ := h
  obtain ⟨hl1, a1, c1, rfl, hc1⟩ := ht
  obtain ⟨hl2, a2, c2, vs, rfl, hvl, hc2, hrs⟩ := hr.parts
  have H1 := Hid.mk hc1
  have H2 := Hid.mk hc2
  have HV := Hid.mk hvl
  have HR := Hid.mk hrs
  clear hc1 hc2 hvl hrs hr
  go_enter Try.func12, Try.ntmps12
  go_wp2
  go_loop [3, 4] (fun k c => ∃ (i : Nat) (K : Int), i ≤ n.texts.length ∧ k = .int .i64 K ∧ c = .int .i64 i) (fun _ c => n.texts.length - (intOf c).toNat)
  case atStart => exact ⟨0, 0, Nat.zero_le _, rfl, rfl⟩
  case round =>
    obtain ⟨i, K, hi, rfl, rfl⟩ := hrel
    by_cases hlt : i < n.texts.length
    · obtain ⟨t, hx⟩ : ∃ t, n.texts[i]? = some t := ⟨_, List.getElem?_eq_getElem hlt⟩
      rcases H1.out with hnil | ⟨b, o, rfl, hl, hc⟩
      · rw [hnil] at hx; simp at hx
      · have hcx := hc i t hx
        have hltI : (i : Int) < (n.texts.length : Int) := by omega
        clear hc hx
        go_wp2
        go_round
        case rel => exact ⟨i + 1, _, by omega, rfl, by go_num⟩
        case measure => simp [intOf]; omega
    · go_wp2
      go_loop [3, 5] (fun k c => ∃ (j : Nat) (K : Int), j ≤ n.rows.length ∧ k = .int .i64 K ∧ c = .int .i64 j) (fun _ c => n.rows.length - (intOf c).toNat)
      case atStart => exact ⟨0, K, Nat.zero_le _, rfl, rfl⟩
      case round =>
        obtain ⟨j, K2, hj, rfl, rfl⟩ := hrel
        by_cases hlt2 : j < n.rows.length
        · obtain ⟨r, hx⟩ : ∃ t, n.rows[j]? = some t := ⟨_, List.getElem?_eq_getElem hlt2⟩
          obtain ⟨x, hvx⟩ : ∃ x, vs[j]? = some x := ⟨_, List.getElem?_eq_getElem (by rw [HV.out]; exact hlt2)⟩
          rcases H2.out with hnil | ⟨b, o, rfl, hl, hc⟩
          · rw [hnil] at hvx; simp at hvx
          · have hcx := hc j x hvx
            have hltI : (j : Int) < (n.rows.length : Int) := by omega
            obtain ⟨hl3, a3, c3, rfl, hc3⟩ := HR.out j x r hvx hx
            have H3 := Hid.mk hc3
            clear hc hx hvx hc3
            go_wp2
            go_loop [3, 6] (fun k c => ∃ (m : Nat) (K : Int), m ≤ r.length ∧ k = .int .i64 K ∧ c = .int .i64 m) (fun _ c => r.length - (intOf c).toNat)
            case atStart => exact ⟨0, K2, Nat.zero_le _, rfl, rfl⟩
            case round =>
              obtain ⟨m, K3, hm, rfl, rfl⟩ := hrel
              by_cases hlt3 : m < r.length
              · obtain ⟨t, hx⟩ : ∃ t, r[m]? = some t := ⟨_, List.getElem?_eq_getElem hlt3⟩
                rcases H3.out with hnil | ⟨b3, o3, rfl, hl4, hc⟩
                · rw [hnil] at hx; simp at hx
                · have hcy := hc m t hx
                  have hltJ : (m : Int) < (r.length : Int) := by omega
                  clear hc hx
                  go_wp2
                  go_round
                  case rel => exact ⟨m + 1, _, by omega, rfl, by go_num⟩
                  case measure => simp [intOf]; omega
              · go_wp2
                go_round
                case rel => exact ⟨j + 1, _, by omega, rfl, by go_num⟩
                case measure => simp [intOf]; omega
        · go_wp2
          go_ret
          exact ⟨isBool _, (Below.refl _ _).alloc (Nat.le_refl _) _⟩

section
variable {S : Nat → Prop} {w : World} {b room : Nat} {ns : List NoteD} {s : Nat}
theorem write_ok (hJ : J S w b room ns s) (hS : Low S w) (vn : Value) (n : NoteD) (hn : NoteAt w vn n) (hm : n.may) (hr : (seals (ns ++ [n])).length ≤ room) :
    Calls Try.prog 18 #[.pointer (some ⟨b, 0, none⟩), vn] w fun e w' => e = .returned (.int .i64 0) ∧ J S w' b room (ns ++ [n]) s ∧ Fr S w w' := by
  refine (write_any hJ hS vn n hn (may_sane hm)).mono ?_
  rintro e w' ⟨h1, h2 | h2 | h2⟩
  · exact absurd hm h2.1
  · exfalso
    have h3 := h2.2.1
    rw [seals_snoc, List.length_append] at hr
    omega
  · exact ⟨h2.2.2.1, h2.2.2.2, h1⟩
end

def n2 : NoteD := ⟨2, [], [], []⟩
theorem n2_body : n2.body = [1, 2, 0, 0, 0] := by decide +kernel
theorem n2_may : n2.may := by decide +kernel
theorem n2_at (w : World) : NoteAt w (.agg #[.int .i64 2, .slice none 0 0, .slice none 0 0, .slice none 0 0]) n2 :=
  ⟨_, _, _, rfl, ⟨by simp [n2, intCs], none, 0, rfl, .inl rfl⟩, ⟨by simp [n2], none, 0, rfl, .inl rfl⟩, ⟨[], ⟨by simp, none, 0, rfl, .inl rfl⟩, rfl, by simp⟩⟩
theorem seals_n1 : (seals [n1]).length = 13 := by
  rw [show [n1] = [] ++ [n1] from rfl, seals_snoc, List.length_append, sealB_len, n1_body]; rfl
theorem seals_n12 : (seals [n1, n2]).length = 26 := by
  rw [show [n1, n2] = [n1] ++ [n2] from rfl, seals_snoc, List.length_append, sealB_len, n2_body, seals_n1]; rfl
theorem awake_whole {m : Nat} (h1 : 1 ≤ m) (h : Whole [n1, n2] (thereOf 26 13 12) m) : m = 1 := by
  obtain ⟨h2, h3, _⟩ := h
  have h4 : m ≤ 2 := h2
  rcases Nat.lt_or_ge m 2 with h5 | h5
  · omega
  · exfalso
    have := h3 1 (by omega)
    have e : endAt [n1, n2] 1 = 26 := seals_n12
    rw [e] at this
    revert this
    decide

set_option maxHeartbeats 2000000 in
set_option maxRecDepth 100000 in
theorem jawake_any (w : World) : Calls Try.prog 11 #[] w fun e w' => e = .returned (.bool true) ∧ Below w.heap.size w w' := by
  have hS : Low (fun k => k < w.heap.size) w := fun k hk => hk
  have HS := Hid.mk hS
  clear hS
  obtain ⟨S, hSd⟩ : ∃ S : Nat → Prop, S = fun k => k < w.heap.size := ⟨_, rfl⟩
  rw [← hSd] at HS
  have HSD := Hid.mk hSd
  clear hSd
  go_enter Try.func11, Try.ntmps11
  go_wp2_with fail
  refine (new_any 100 w).mono ?_
  rintro e w1 ⟨hb1, ⟨hno, _⟩ | ⟨_, rfl, hz⟩⟩
  · exact absurd ⟨by decide, by decide⟩ hno
  · have J1 := Hid.mk (J.zero HS.out hz (by decide))
    have F1 := Hid.mk (fr_below HS.out hb1)
    clear hz hb1
    obtain ⟨b, hb⟩ : ∃ b, b = w.heap.size := ⟨_, rfl⟩
    rw [← hb] at J1 ⊢
    clear hb
    go_wp2_with fail
    refine (write_ok J1.out (HS.out.fr F1.out) _ n1 (n1_at _) n1_may (by rw [List.nil_append, seals_n1]; decide)).mono ?_
    rintro e w2 ⟨rfl, hj2, hf2⟩
    have J2 := Hid.mk hj2
    have F2 := Hid.mk (F1.out.trans hf2)
    clear hj2 hf2 J1 F1
    go_wp2_with fail
    refine (jsure_any J2.out).mono ?_
    rintro e w3 ⟨rfl, hj3, hf3⟩
    have J3 := Hid.mk hj3
    have F3 := Hid.mk (F2.out.trans hf3)
    clear hj3 hf3 J2 F2
    go_wp2_with fail
    refine (write_ok J3.out (HS.out.fr F3.out) _ n2 (n2_at _) n2_may (by rw [show [] ++ [n1] ++ [n2] = [n1, n2] from rfl, seals_n12]; decide)).mono ?_
    rintro e w4 ⟨rfl, hj4, hf4⟩
    have J4 : Hid (J S w4 b (Int.toNat 100) [n1, n2] 1) := Hid.mk hj4
    have F4 := Hid.mk (F3.out.trans hf4)
    clear hj4 hf4 J3 F3
    go_wp2_with fail
    refine (jnotes_any J4.out).mono ?_
    rintro e w5 ⟨v5, rfl, ⟨cs5, ho5, _⟩, hb5⟩
    obtain ⟨a5, c5, rfl⟩ := own_slice ho5
    have J5 := Hid.mk (J4.out.below hb5)
    have F5 := Hid.mk (F4.out.next HS.out hb5)
    have hl5 : [n1, n2].length = 2 := rfl
    rw [hl5]
    clear ho5 hb5 J4 F4 hl5
    have CZ := Hid.mk (jsize_any J5.out)
    rw [seals_n12, show [n1, n2].take 1 = [n1] from rfl, seals_n1] at CZ
    go_wp2_with fail
    refine CZ.out.mono ?_
    rintro e w6 ⟨rfl, hb6⟩
    have J6 := Hid.mk (J5.out.below hb6)
    have F6 := Hid.mk (F5.out.next HS.out hb6)
    clear hb6 J5 F5 CZ
    have CF := Hid.mk (fail_any J6.out (HS.out.fr F6.out) 12)
    rw [seals_n12, show [n1, n2].take 1 = [n1] from rfl, seals_n1] at CF
    go_wp2_with fail
    refine CF.out.mono ?_
    rintro e w7 ⟨rfl, hf7, m, hm1, hwh, hj7⟩
    have hm := awake_whole hm1 hwh
    subst hm
    have J7 : Hid (J S w7 b (Int.toNat 100) [n1] 1) := Hid.mk hj7
    have F7 := Hid.mk (F6.out.trans hf7)
    clear hj7 hf7 hwh J6 F6 CF hm1
    go_wp2_with fail
    refine (jnotes_any J7.out).mono ?_
    rintro e w8 ⟨v8, rfl, ⟨cs8, ho8, _⟩, hb8⟩
    obtain ⟨a8, c8, rfl⟩ := own_slice ho8
    have hl8 : [n1].length = 1 := rfl
    rw [hl8]
    have F8 := Hid.mk (F7.out.next HS.out hb8)
    clear ho8 hb8 J7 F7 hl8
    go_wp2
    go_ret
    exact ⟨rfl, F8.out.below (fun k hk => by rw [HSD.out]; exact hk)⟩
end Go.Proofs.Ytnepednomejniaa
