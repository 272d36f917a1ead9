/- The variables of an atom, each once; loads of shares: the program's. -/
import Derived.Test.YtojjepkmnifngaaHRoute
namespace Go.Proofs.Ytojjepkmnifngaa
open Go.RowKit

set_option maxRecDepth 100000 in
set_option maxHeartbeats 2000000 in
theorem indexZ_any {S : Nat → Prop} {w : World} {v : Value} {L : List Int} (h : IntZ S w v L) (hl : L.length ≤ 9223372036854775806) (z : Int) :
    Calls Try.prog 34 #[v, .int .i64 z] w fun e w' => (∃ y : Int, e = .returned (.int .i64 y) ∧ decide (0 ≤ y) = decide (z ∈ L)) ∧ w' = w := by
  obtain ⟨ao, cap, rfl⟩ := h.slice
  have H := Hid.mk h
  obtain ⟨n, hn⟩ : ∃ n, n = L.length := ⟨_, rfl⟩
  rw [← hn] at hl H ⊢
  have HN := Hid.mk hn
  obtain ⟨ans, hans⟩ : ∃ a, a = decide (z ∈ L) := ⟨_, rfl⟩
  rw [← hans]
  have HA := Hid.mk hans
  clear h hn hans
  go_enter Try.func34, Try.ntmps34
  go_wp2_with fail
  go_loopw [8] (fun c wr => ∃ i : Nat, i ≤ n ∧ c = .int .i64 i ∧ z ∉ L.take i ∧ wr = w) (fun c _ => n - (intOf c).toNat)
  case atStart => exact ⟨0, Nat.zero_le _, rfl, by simp, rfl⟩
  case round =>
    obtain ⟨i, hi, rfl, hall, rfl⟩ := hrel
    have HAll := Hid.mk hall
    clear hall
    by_cases hlt : i < n
    · have hltI : (i : Int) < (n : Int) := by omega
      obtain ⟨x, hx⟩ : ∃ x, L[i]? = some x := ⟨_, List.getElem?_eq_getElem (by rw [← HN.out]; exact hlt)⟩
      obtain ⟨g, off, rfl, _, _, hcell⟩ := H.out.get hx
      have q0 := getZ hcell
      rw [Nat.mul_one] at q0
      have HX := Hid.mk hx
      clear hx hcell
      by_cases e : z = x
      · subst e
        have HT : Hid (ans = true) := Hid.mk (by rw [HA.out]; exact decide_eq_true (List.mem_of_getElem? HX.out))
        go_wp2
        go_ret
        exact ⟨⟨_, rfl, by rw [HT.out]; simp⟩, rfl⟩
      · obtain ⟨e1, e2⟩ := not_both e
        have HA2 : Hid (z ∉ L.take (i + 1)) := Hid.mk (by
          rw [List.take_add_one, HX.out]
          intro h
          rcases List.mem_append.1 h with h | h
          · exact HAll.out h
          · simp at h; exact e h)
        clear e
        go_wp2
        go_roundw
        case rel => exact ⟨i + 1, by omega, by go_num, HA2.out, by trivial⟩
        case measure => simp [intOf]; omega
    · have hltI : ¬ (i : Int) < (n : Int) := by omega
      have HF : Hid (ans = false) := Hid.mk (by
        rw [HA.out]
        refine decide_eq_false (fun h => HAll.out ?_)
        rw [List.take_of_length_le (by rw [← HN.out]; omega)]
        exact h)
      go_wp2
      go_ret
      exact ⟨⟨_, rfl, by rw [HF.out]; rfl⟩, rfl⟩
set_option maxRecDepth 100000 in
set_option maxHeartbeats 2000000 in
theorem containsZ_any {S : Nat → Prop} {w : World} {v : Value} {L : List Int} (h : IntZ S w v L) (hl : L.length ≤ 9223372036854775806) (z : Int) :
    Calls Try.prog 27 #[v, .int .i64 z] w fun e w' => e = .returned (.bool (decide (z ∈ L))) ∧ w' = w := by
  have C := Hid.mk (indexZ_any h hl z)
  obtain ⟨ans, hans⟩ : ∃ a, a = decide (z ∈ L) := ⟨_, rfl⟩
  rw [← hans] at C ⊢
  clear h hl hans
  go_enter Try.func27, Try.ntmps27
  go_wp2_with fail
  refine C.out.mono ?_
  rintro e w1 ⟨⟨y, rfl, hy⟩, rfl⟩
  have HY := Hid.mk hy
  clear hy
  go_wp2
  go_ret
  exact ⟨by rw [← HY.out]; rfl, rfl⟩

theorem len_sub : ∀ (d R : List Int), d.Nodup → (∀ x ∈ d, x ∈ R) → d.length ≤ R.length
  | [], R, _, _ => by simp
  | x :: d, R, hd, hs => by
    rw [List.nodup_cons] at hd
    have hx := hs x (by simp)
    have := len_sub d (R.erase x) hd.2 (fun y hy => (List.mem_erase_of_ne (fun e : y = x => hd.1 (e ▸ hy))).2 (hs y (by simp [hy])))
    rw [List.length_erase_of_mem hx] at this
    have := List.length_pos_of_mem hx
    simp only [List.length_cons]
    omega
theorem mem_rngI {n : Nat} {x : Int} : x ∈ rngI n ↔ 0 ≤ x ∧ x < (n : Int) := by
  unfold rngI
  rw [Int.toNat_natCast]
  simp only [List.mem_map, List.mem_range]
  constructor
  · rintro ⟨c, hc, rfl⟩; omega
  · rintro ⟨h0, h1⟩; exact ⟨x.toNat, by omega, by omega⟩
theorem once_len {l : List Int} {n : Nat} (h : ∀ x ∈ l, 0 ≤ x ∧ x < (n : Int)) : (onceL l).length ≤ n := by
  have := len_sub (onceL l) (rngI n) (onceL_nodup l) (fun x hx => mem_rngI.2 (h x ((mem_onceL l x).1 hx)))
  simpa [rngI] using this
/-- What variables ends with. -/
def VarE (k : Nat) (l : List Int) (w : World) (e : Ending) (w' : World) : Prop :=
  Below w.heap.size w w' ∧ (((∀ x ∈ l, 0 ≤ x ∧ x < (k : Int)) ∧ ∃ v, e = .returned (.tuple #[v, .bool true]) ∧ w'.ownsRow w.heap.size 3 1 v (onceL l).length ((onceL l).flatMap csZ)) ∨ ((∃ x ∈ l, x < 0 ∨ (k : Int) ≤ x) ∧ e = .returned (.tuple #[.slice none 0 0, .bool false])))
set_option maxHeartbeats 4000000 in
set_option maxRecDepth 100000 in
theorem variables_any {S : Nat → Prop} {w : World} {v : Value} {l : List Int} (h : IntZ S w v l) (hl : l.length ≤ 9223372036854775807) (k : Nat) (hk : k ≤ 6) :
    Calls Try.prog 16 #[.int .i64 (k : Int), v] w (VarE k l w) := by
  obtain ⟨i0, hi0, hz0, hz1, hz2⟩ := info_parts infoZ
  obtain ⟨a1, c1, rfl⟩ := h.slice
  have H1 := Hid.mk h
  obtain ⟨n, hn⟩ : ∃ n, n = l.length := ⟨_, rfl⟩
  rw [← hn] at H1 hl ⊢
  have HN := Hid.mk hn
  clear h hn
  go_enter Try.func16, Try.ntmps16
  go_wp2_with fail
  go_loopw [6, 11] (fun vl c wr => ∃ (i : Nat) (u : Value), u = vl ∧ i ≤ n ∧ c = .int .i64 i ∧ (∀ x ∈ l.take i, 0 ≤ x ∧ x < (k : Int)) ∧ wr.ownsRow w.heap.size 3 1 u (onceL (l.take i)).length ((onceL (l.take i)).flatMap csZ) ∧ Below w.heap.size w wr) (fun _ c _ => n - (intOf c).toNat)
  case atStart => exact ⟨0, _, rfl, Nat.zero_le _, rfl, by simp, by simpa [onceL] using World.ownsRow_nil _ _ _ _, Below.refl _ _⟩
  case round =>
    obtain ⟨i, u, rfl, hi, rfl, hall, hrow, hbw⟩ := hrel
    obtain ⟨wx, hwx⟩ : ∃ wx, wx = wr := ⟨_, rfl⟩
    subst hwx
    have hol := once_len hall
    have HALL := Hid.mk hall
    obtain ⟨D, hD⟩ : ∃ D, D = onceL (l.take i) := ⟨_, rfl⟩
    have HD := Hid.mk hD
    rw [← hD] at hrow hol
    obtain ⟨ua, uc, hu⟩ := own_slice hrow
    obtain ⟨nd, hnd⟩ : ∃ nd, nd = D.length := ⟨_, rfl⟩
    rw [← hnd] at hrow hu hol
    subst hu
    have HND := Hid.mk hnd
    have HROW := Hid.mk hrow
    have HBW := Hid.mk hbw
    clear hrow hbw hD hnd hall
    by_cases hlt : i < n
    · have hltI : (i : Int) < (n : Int) := by omega
      obtain ⟨z, hz⟩ : ∃ z, l[i]? = some z := ⟨_, List.getElem?_eq_getElem (by rw [← HN.out]; exact hlt)⟩
      obtain ⟨g1, o1, e1, _, _, d1⟩ := (H1.out.below HBW.out).get hz
      have q1 := getZ d1
      rw [Nat.mul_one] at q1
      have HSN : Hid (onceL (l.take (i + 1)) = onceF D z) := Hid.mk (by rw [take_snoc hz, onceL_snoc, ← HD.out])
      have HZ := Hid.mk hz
      clear hz d1
      subst e1
      by_cases h0 : z < 0
      · have HB : Hid (∃ x ∈ l, x < 0 ∨ (k : Int) ≤ x) := Hid.mk ⟨z, List.mem_of_getElem? HZ.out, .inl h0⟩
        go_wp2
        go_ret2
        exact ⟨HBW.out, .inr ⟨HB.out, rfl⟩⟩
      · by_cases h1 : (k : Int) ≤ z
        · have HB : Hid (∃ x ∈ l, x < 0 ∨ (k : Int) ≤ x) := Hid.mk ⟨z, List.mem_of_getElem? HZ.out, .inr h1⟩
          go_wp2
          go_ret2
          exact ⟨HBW.out, .inr ⟨HB.out, rfl⟩⟩
        · have HA2 : Hid (∀ x ∈ l.take (i + 1), 0 ≤ x ∧ x < (k : Int)) := Hid.mk (by
            rw [take_snoc HZ.out]
            intro x hx
            rcases List.mem_append.1 hx with hx | hx
            · exact HALL.out x hx
            · rw [List.mem_singleton.1 hx]; omega)
          have HC := Hid.mk (containsZ_any (own_int HROW.out HND.out) (by rw [← HND.out]; omega) z)
          by_cases hin : z ∈ D
          · rw [decide_eq_true hin] at HC
            have HR2 : Hid (wx.ownsRow w.heap.size 3 1 (.slice ua nd uc) (onceL (l.take (i + 1))).length ((onceL (l.take (i + 1))).flatMap csZ)) := Hid.mk (by
              rw [HSN.out, onceF, if_pos hin, ← HND.out]; exact HROW.out)
            clear hin
            go_wp2_with fail
            refine HC.out.mono ?_
            rintro e w1 ⟨rfl, h⟩
            rw [h]
            clear h
            go_wp2
            go_roundw
            case rel => exact ⟨i + 1, _, rfl, by omega, by go_num, HA2.out, HR2.out, HBW.out⟩
            case measure => simp [intOf]; omega
          · rw [decide_eq_false hin] at HC
            have HSN2 : Hid (onceL (l.take (i + 1)) = D ++ [z]) := Hid.mk (by rw [HSN.out, onceF, if_neg hin])
            clear hin
            go_wp2_with fail
            refine HC.out.mono ?_
            rintro e w1 ⟨rfl, h⟩
            rw [h]
            clear h
            go_wp2_with (at_builtin; refine wpList_append_lies _ rfl _ _ _ rfl w.heap.size 3 i0 _ 1 8 Try.underlying24 hi0 hz0 hz1 hz2 rfl (by decide) (.slice ua nd uc) _ _ (by rfl) (HROW.out.alloc _) ⟨wx.heap.size, 0, none⟩ 1 1 (csZ z) (by rfl) (by rfl) (World.news_of_block (cs := #[.int .i64 z]) (t := 3) (fr := (0, 0)) (heap_alloc_new wx _)) (by simp [Value.oneCell']) (by decide) (by unfold maxLen; omega) (by omega) (by simp; have := HBW.out.size; omega) (wx.heap.size + 1) (by simp) ?_)
            intro gg cap2 w9 hown9 hgrow9 _ _
            have HB9 : Hid (Below w.heap.size w w9) := Hid.mk ((HBW.out.alloc HBW.out.size _).grown hgrow9 (by simp; have := HBW.out.size; omega) (fun k e => (HROW.out.lt k e).1))
            have HR9 : Hid (w9.ownsRow w.heap.size 3 1 (.slice (some ⟨gg, 0, none⟩) (nd + 1) cap2) (onceL (l.take (i + 1))).length ((onceL (l.take (i + 1))).flatMap csZ)) := Hid.mk (by
              rw [HSN2.out, List.length_append, ← HND.out, List.flatMap_append]
              exact hown9)
            clear hown9 hgrow9
            go_wp2
            go_roundw
            case rel => exact ⟨i + 1, _, rfl, by omega, by go_num, HA2.out, HR9.out, HB9.out⟩
            case measure => simp [intOf]; omega
    · have hltI : ¬ (i : Int) < (n : Int) := by omega
      have HT : Hid (l.take i = l) := Hid.mk (List.take_of_length_le (by rw [← HN.out]; omega))
      have HAL : Hid (∀ x ∈ l, 0 ≤ x ∧ x < (k : Int)) := Hid.mk (by have := HALL.out; rw [HT.out] at this; exact this)
      have HRF : Hid (wx.ownsRow w.heap.size 3 1 (.slice ua nd uc) (onceL l).length ((onceL l).flatMap csZ)) := Hid.mk (by
        have e := HD.out
        rw [HT.out] at e
        rw [← e, ← HND.out]
        exact HROW.out)
      go_wp2
      go_ret2
      exact ⟨HBW.out, .inl ⟨HAL.out, _, rfl, HRF.out⟩⟩

/-! Atoms of the program: their variables, each once, and their sizes. -/
structure At where
  v : Value
  d : List Int
  z : Int
abbrev csL (a : At) : List Value := [a.v, .int .i64 a.z]
abbrev At.pr (a : At) : List Int × Int := (a.d, a.z)
structure LoadS (S : Nat → Prop) (w : World) (v : Value) (A : List At) : Prop where
  sl : SlS csL 2 S w v A
  el : ∀ a ∈ A, IntZ S w a.v a.d
theorem LoadS.below {S : Nat → Prop} {w w' : World} {v : Value} {A : List At} (h : LoadS S w v A) (hb : Below w.heap.size w w') : LoadS S w' v A := ⟨h.sl.below hb, fun p hp => (h.el p hp).below hb⟩
theorem LoadS.fr {S : Nat → Prop} {w w' : World} {v : Value} {A : List At} (h : LoadS S w v A) (hb : Fr S w w') : LoadS S w' v A := ⟨h.sl.fr hb, fun p hp => (h.el p hp).fr hb⟩
/-- Atoms with each variable once, that fit shares of so many variables. -/
def FitD (n : Nat) (A : List At) : Prop := A.length ≤ 12 ∧ ∀ a ∈ A, a.d.Nodup ∧ (∀ v ∈ a.d, 0 ≤ v ∧ v < (n : Int)) ∧ 0 ≤ a.z ∧ a.z ≤ 1048576
theorem fitD_k {L d : List Int} (hL : okL L = true) (hd : d.Nodup) (hr : ∀ v ∈ d, 0 ≤ v ∧ v < (L.length : Int)) : 1 ≤ kOf L d ∧ kOf L d ≤ 64 := by
  obtain ⟨h1, h2, h3⟩ := okL_iff.1 hL
  have := kOf_range h2 hd hr
  omega
theorem loadD_range {L : List Int} {A : List At} (hL : okL L = true) (hA : ∀ a ∈ A, a.d.Nodup ∧ (∀ v ∈ a.d, 0 ≤ v ∧ v < (L.length : Int)) ∧ 0 ≤ a.z ∧ a.z ≤ 1048576) : 0 ≤ loadP L (A.map At.pr) ∧ loadP L (A.map At.pr) ≤ 1048576 * (A.length : Int) := by
  induction A using snoc_ind with
  | nil => simp [loadP]
  | snoc A a ih =>
    obtain ⟨i1, i2⟩ := ih (fun b hb => hA b (by simp [hb]))
    obtain ⟨g1, g2, g3, g4⟩ := hA a (by simp)
    have hk := fitD_k hL g1 g2
    have hu := upI_range g3 g4 hk.1
    rw [List.map_append, List.map_singleton, show loadP L (A.map At.pr ++ [At.pr a]) = loadP L (A.map At.pr) + upI a.z (kOf L a.d) from loadP_snoc _ _ _, List.length_append, List.length_singleton]
    omega
set_option maxHeartbeats 4000000 in
set_option maxRecDepth 100000 in
theorem load_any {S T : Nat → Prop} {w : World} {v1 v2 : Value} {L : List Int} {A : List At} (h1 : IntZ S w v1 L) (h2 : LoadS T w v2 A) (hL : okL L = true) (hA : FitD L.length A) :
    Calls Try.prog 30 #[v1, v2] w fun e w' => e = .returned (.int .i64 (loadP L (A.map At.pr))) ∧ Below w.heap.size w w' := by
  obtain ⟨a1, c1, rfl⟩ := h1.slice
  obtain ⟨a2, c2, rfl⟩ := h2.sl.slice
  have H1 := Hid.mk h1
  have H2 := Hid.mk h2
  have HL := Hid.mk hL
  have HA := Hid.mk hA.2
  have h12 := hA.1
  obtain ⟨n, hn⟩ : ∃ n, n = L.length := ⟨_, rfl⟩
  obtain ⟨m, hm⟩ : ∃ m, m = A.length := ⟨_, rfl⟩
  rw [← hn] at H1 ⊢
  rw [← hm] at H2 h12 ⊢
  have HN := Hid.mk hn
  have HM := Hid.mk hm
  obtain ⟨ans, hans⟩ : ∃ a, a = loadP L (A.map At.pr) := ⟨_, rfl⟩
  rw [← hans]
  have HAN := Hid.mk hans
  clear h1 h2 hL hA hn hm hans
  go_enter Try.func30, Try.ntmps30
  go_wp2_with fail
  go_loopw [5, 13] (fun s c wr => ∃ i : Nat, i ≤ m ∧ c = .int .i64 i ∧ s = .int .i64 (loadP L ((A.take i).map At.pr)) ∧ Below w.heap.size w wr) (fun _ c _ => m - (intOf c).toNat)
  case atStart => exact ⟨0, Nat.zero_le _, rfl, rfl, Below.refl _ _⟩
  case round =>
    obtain ⟨i, hi, rfl, rfl, hbw⟩ := hrel
    obtain ⟨wx, hwx⟩ : ∃ wx, wx = wr := ⟨_, rfl⟩
    subst hwx
    have HBW := Hid.mk hbw
    obtain ⟨hr0, hr1⟩ := loadD_range (A := A.take i) HL.out (fun a ha => HA.out a (List.mem_of_mem_take ha))
    have hr2 : loadP L ((A.take i).map At.pr) ≤ 1048576 * 12 := by
      rw [List.length_take] at hr1
      have : ((min i A.length : Nat) : Int) ≤ 12 := by omega
      omega
    obtain ⟨sm, hsm⟩ : ∃ s, s = loadP L ((A.take i).map At.pr) := ⟨_, rfl⟩
    rw [← hsm] at hr0 hr2 ⊢
    have HSM := Hid.mk hsm
    clear hbw hr1 hsm
    by_cases hlt : i < m
    · have hltI : (i : Int) < (m : Int) := by omega
      obtain ⟨a, ha⟩ : ∃ a, A[i]? = some a := ⟨_, List.getElem?_eq_getElem (by rw [← HM.out]; exact hlt)⟩
      obtain ⟨hnd, hvr, hz0, hz1⟩ := HA.out a (List.mem_of_getElem? ha)
      have hel := H2.out.el a (List.mem_of_getElem? ha)
      obtain ⟨g2, o2, e2, _, _, d2⟩ := (H2.out.sl.below HBW.out).get ha
      have q1 := d2 0 a.v rfl
      have q2 := d2 1 (.int .i64 a.z) rfl
      have HSN : Hid (loadP L ((A.take (i + 1)).map At.pr) = sm + upI a.z (kOf L a.d)) := Hid.mk (by rw [take_snoc ha, List.map_append, List.map_singleton, loadP_snoc, HSM.out])
      obtain ⟨av, ad, az⟩ := a
      simp only at hnd hvr hz0 hz1 hel q1 q2 HSN
      obtain ⟨aa, ac, hav⟩ := hel.slice
      subst hav
      obtain ⟨nd, hndl⟩ : ∃ nd, nd = ad.length := ⟨_, rfl⟩
      have hnd16 : nd ≤ 16 := by
        have h1 := len_sub ad (rngI L.length) hnd (fun x hx => mem_rngI.2 (hvr x hx))
        have h2 := (okL_iff.1 HL.out).1
        simp [rngI] at h1
        omega
      rw [← hndl] at hel q1
      have HNDL := Hid.mk hndl
      have HEL := Hid.mk hel
      have HNDP := Hid.mk hnd
      have HVR := Hid.mk hvr
      rw [Nat.add_zero] at q1
      clear ha d2 hel hnd hvr hndl
      subst e2
      have HX : Hid (∃ W1, W1 = wx.alloc (.cells #[.slice aa nd ac, .int .i64 az] 42) ∧ W1.cell? ⟨wx.heap.size, 0, none⟩ = some (.slice aa nd ac) ∧ W1.cell? ⟨wx.heap.size, 1, none⟩ = some (.int .i64 az) ∧ Below w.heap.size w W1) := Hid.mk ⟨_, rfl, (cell_of_row _ _ 0 _ _ _ (heap_alloc_new wx _)).trans rfl, (cell_of_row _ _ 1 _ _ _ (heap_alloc_new wx _)).trans rfl, HBW.out.alloc HBW.out.size _⟩
      go_wp2_with fail
      obtain ⟨W1, hW1, b0, b1, hbW⟩ := HX.out
      rw [← hW1]
      clear hW1 q1 q2 HX
      have HBW1 := Hid.mk hbW
      clear hbW
      go_wp2_with fail
      go_loopw [8, 20] (fun s c wr => ∃ j : Nat, j ≤ nd ∧ c = .int .i64 j ∧ s = .int .i64 (kOf L (ad.take j)) ∧ wr = W1) (fun _ c _ => nd - (intOf c).toNat)
      case atStart => exact ⟨0, Nat.zero_le _, rfl, rfl, rfl⟩
      case round =>
        obtain ⟨j, hj, rfl, rfl, h⟩ := hrel
        rw [h]
        clear h
        obtain ⟨hk1, hk2⟩ := fitD_k (d := ad.take j) HL.out (HNDP.out.sublist (List.take_sublist _ _)) (fun v hv => HVR.out v (List.mem_of_mem_take hv))
        obtain ⟨kk, hkk⟩ : ∃ k, k = kOf L (ad.take j) := ⟨_, rfl⟩
        rw [← hkk] at hk1 hk2 ⊢
        have HKK := Hid.mk hkk
        clear hkk
        by_cases hltj : j < nd
        · have hltjI : (j : Int) < (nd : Int) := by omega
          obtain ⟨v, hv⟩ : ∃ v, ad[j]? = some v := ⟨_, List.getElem?_eq_getElem (by rw [← HNDL.out]; exact hltj)⟩
          obtain ⟨hv0, hv1⟩ := HVR.out v (List.mem_of_getElem? hv)
          rw [← HN.out] at hv1
          obtain ⟨x, hx⟩ : ∃ x, L[v.toNat]? = some x := ⟨_, List.getElem?_eq_getElem (by rw [← HN.out]; omega)⟩
          obtain ⟨hx1, hx2⟩ := okL_mem HL.out (List.mem_of_getElem? hx)
          have HKS : Hid (kOf L (ad.take (j + 1)) = kk * x) := Hid.mk (by rw [take_snoc hv, kOf_snoc, HKK.out, gI_at hx])
          obtain ⟨g1, o1, e1, _, _, d1⟩ := (HEL.out.below HBW1.out).get hv
          obtain ⟨g3, o3, e3, _, _, d3⟩ := (H1.out.below HBW1.out).get hx
          obtain ⟨y, rfl⟩ : ∃ y : Nat, v = (y : Int) := ⟨v.toNat, by omega⟩
          have q1 := getZ d1
          have q3 := getZ d3
          rw [Nat.mul_one] at q1 q3
          rw [Int.toNat_natCast] at q3
          have hyn : y < n := by omega
          have hmul : 0 ≤ kk * x ∧ kk * x ≤ 64 * 64 := ⟨Int.mul_nonneg (by omega) (by omega), Int.mul_le_mul hk2 hx2 (by omega) (by omega)⟩
          obtain ⟨hm0, hm1⟩ := hmul
          clear hv hx d1 d3 hv0
          subst e1 e3
          go_wp2
          go_roundw
          case rel => exact ⟨j + 1, by omega, by go_num, by rw [HKS.out], by trivial⟩
          case measure => simp [intOf]; omega
        · have hltjI : ¬ (j : Int) < (nd : Int) := by omega
          have HKE : Hid (kk = kOf L ad) := Hid.mk (by rw [HKK.out, List.take_of_length_le (by rw [← HNDL.out]; omega)])
          obtain ⟨hu0, hu1⟩ := upI_range hz0 hz1 hk1
          have hdiv : (az + kk - 1).tdiv kk = upI az kk := by rw [Int.tdiv_eq_ediv_of_nonneg (by omega)]; rfl
          obtain ⟨q, hq⟩ : ∃ q, q = upI az kk := ⟨_, rfl⟩
          rw [← hq] at hu0 hu1 hdiv
          have HQ : Hid (loadP L ((A.take (i + 1)).map At.pr) = sm + q) := Hid.mk (by rw [HSN.out, hq, HKE.out])
          clear hq
          go_wp2
          go_roundw
          case rel => exact ⟨i + 1, by omega, by go_num, by rw [HQ.out], HBW1.out⟩
          case measure => simp [intOf]; omega
    · have hltI : ¬ (i : Int) < (m : Int) := by omega
      have HT : Hid (ans = sm) := Hid.mk (by rw [HAN.out, HSM.out, List.take_of_length_le (by rw [← HM.out]; omega)])
      go_wp2
      go_ret
      exact ⟨by rw [HT.out]; rfl, HBW.out⟩
end Go.Proofs.Ytojjepkmnifngaa
