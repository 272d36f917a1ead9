/- The document's own Unpack and All: they answer as the program's. -/
import Derived.Test.YtgmeehkikamkoaaWRReadW
import Derived.Test.YtgmeehkikamkoaaWSameA
namespace Go.Proofs.Ytgmeehkikamkoaa
open Go.RowKit

set_option maxHeartbeats 1000000 in
theorem rNumber_any (s : ByteArray) (w : World) (hs : 4 ≤ s.size) :
    Calls Try.prog 31 #[.string s] w fun e w' => e = .returned (.int .i64 (fourN s.data.toList)) ∧ Below w.heap.size w w' := by
  have h0 : 0 < s.size := by omega
  have h1 : 1 < s.size := by omega
  have h2 : 2 < s.size := by omega
  have h3 : 3 < s.size := by omega
  have h1I : (1 : Int) < (s.size : Int) := by omega
  have h2I : (2 : Int) < (s.size : Int) := by omega
  have h3I : (3 : Int) < (s.size : Int) := by omega
  go_enter Try.func31, Try.ntmps31
  go_wp2_with fail
  go_quiet (fail)
  have hbq : Below w.heap.size w (w.drewN nq) := below_drewN (Below.refl _ _) nq
  have hor := or_four (s[0]'h0) (s[1]'h1) (s[2]'h2) (s[3]'h3)
  go_wp2
  go_ret
  exact ⟨(congrArg (fun z => Ending.returned (Value.int .i64 z)) hor).trans (by rw [fourN, take_four s h3]), hbq⟩

set_option maxHeartbeats 2000000 in
set_option maxRecDepth 100000 in
theorem rUnpack_any (l : List UInt8) (w : World) (hl : l.length ≤ 140737488351232) :
    Calls Try.prog 17 #[.string ⟨l.toArray⟩] w (UEnd l w) := by
  have hsz := size_list l
  by_cases h8 : l.length < 8
  · have HE : Hid (UEnd l w (.returned (.tuple #[zeroN, .int .i64 0, .int .i64 11])) (resW w)) := Hid.mk (uEnd_of (unpackP_1 h8) (zeroN_own _ _) ((Below.refl _ _).alloc (Nat.le_refl _) _))
    go_enter Try.func17, Try.ntmps17
    go_wp2
    refine bodyPost_ret (v := .tuple #[zeroN, .int .i64 0, .int .i64 11]) ?_ rfl HE.out
    simp [results, Try.results17, go_sem]
  · have hx4 := extract_from l 4
    rw [hsz] at hx4
    obtain ⟨l4, hl4⟩ : ∃ l4, l4 = l.drop 4 := ⟨_, rfl⟩
    rw [← hl4] at hx4
    have h48 : 4 ≤ l4.length := by rw [hl4, List.length_drop]; omega
    have HL4 := Hid.mk hl4
    clear hl4
    have h4I : (4 : Int) ≤ (l.length : Int) := by omega
    have C1 : Hid (∀ w, Calls Try.prog 31 #[.string ⟨l.toArray⟩] w fun e w' => e = .returned (.int .i64 (fourN l)) ∧ Below w.heap.size w w') := Hid.mk (fun w => by
      have := rNumber_any ⟨l.toArray⟩ w (by rw [hsz]; omega)
      rw [data_list] at this; exact this)
    have C2 : Hid (∀ w, Calls Try.prog 31 #[.string ⟨l4.toArray⟩] w fun e w' => e = .returned (.int .i64 (fourN l4)) ∧ Below w.heap.size w w') := Hid.mk (fun w => by
      have := rNumber_any ⟨l4.toArray⟩ w (by rw [size_list]; exact h48)
      rw [data_list] at this; exact this)
    have hRN : w.heap.size + 1 ≤ (resW w).heap.size := by simp
    have HRN := Hid.mk hRN
    clear hRN
    have hflt := fourN_lt l
    obtain ⟨k, hk⟩ : ∃ k, k = fourN l := ⟨_, rfl⟩
    obtain ⟨x, hx⟩ : ∃ x, x = fourN l4 := ⟨_, rfl⟩
    rw [← hk] at C1 hflt
    rw [← hx] at C2
    have HK := Hid.mk hk
    have HX := Hid.mk hx
    clear hk hx
    have hx8 : (⟨l.toArray⟩ : ByteArray).extract 8 (8 + k) = ⟨((l.drop 8).take k).toArray⟩ := by
      rw [extract_list]
    go_enter Try.func17, Try.ntmps17
    go_wp2_with fail
    refine (C1.out _).mono ?_
    rintro e w1 ⟨rfl, hb1⟩
    have HB := Hid.mk (show Below (w.heap.size + 1) (resW w) w1 from keepB (Below.refl _ _) hb1 HRN.out)
    obtain ⟨⟨r0, r1, r2, r3⟩, ⟨f0, f1, f2, f3⟩⟩ := four_cells (res_block HB.out)
    clear hb1 C1
    by_cases hk1 : 1048576 < k
    · have HE : Hid (UEnd l w (.returned (.tuple #[zeroN, .int .i64 0, .int .i64 31])) (set4 w1 w.heap.size (.int .i64 0) (.slice none 0 0) (.slice none 0 0) (.slice none 0 0))) :=
        Hid.mk (uEnd_of (unpackP_2 h8 (by rw [← HK.out]; exact hk1)) (zeroN_own _ _) (set4_below (res_below HB.out) (Nat.le_refl _) _ _ _ _))
      obtain ⟨⟨z0, z1, z2, z3⟩, _⟩ := four_cells (set4_block (res_block HB.out) (.int .i64 0) (.slice none 0 0) (.slice none 0 0) (.slice none 0 0))
      have Z0 := Hid.mk z0
      have Z1 := Hid.mk z1
      have Z2 := Hid.mk z2
      have Z3 := Hid.mk z3
      clear z0 z1 z2 z3
      go_wp2
      refine bodyPost_ret (v := .tuple #[zeroN, .int .i64 0, .int .i64 31]) ?_ rfl HE.out
      simp [results, Try.results17, go_sem, Z0.out, Z1.out, Z2.out, Z3.out]
    · by_cases hk2 : l.length - 8 < k
      · have HE : Hid (UEnd l w (.returned (.tuple #[zeroN, .int .i64 0, .int .i64 11])) (set4 w1 w.heap.size (.int .i64 0) (.slice none 0 0) (.slice none 0 0) (.slice none 0 0))) :=
          Hid.mk (uEnd_of (unpackP_3 h8 (by rw [← HK.out]; exact hk1) (by rw [← HK.out]; exact hk2)) (zeroN_own _ _) (set4_below (res_below HB.out) (Nat.le_refl _) _ _ _ _))
        obtain ⟨⟨z0, z1, z2, z3⟩, _⟩ := four_cells (set4_block (res_block HB.out) (.int .i64 0) (.slice none 0 0) (.slice none 0 0) (.slice none 0 0))
        have Z0 := Hid.mk z0
        have Z1 := Hid.mk z1
        have Z2 := Hid.mk z2
        have Z3 := Hid.mk z3
        have hk2I : (l.length : Int) - 8 < (k : Int) := by omega
        clear z0 z1 z2 z3
        go_wp2
        refine bodyPost_ret (v := .tuple #[zeroN, .int .i64 0, .int .i64 11]) ?_ rfl HE.out
        simp [results, Try.results17, go_sem, Z0.out, Z1.out, Z2.out, Z3.out]
      · have hk2I : ¬ (l.length : Int) - 8 < (k : Int) := by omega
        have hk3I : (8 : Int) + (k : Int) ≤ (l.length : Int) := by omega
        have H8 := Hid.mk h8
        have H82 : Hid (¬ l.length - 8 < fourN l) := Hid.mk (by rw [← HK.out]; exact hk2)
        have H81 : Hid (¬ 1048576 < fourN l) := Hid.mk (by rw [← HK.out]; exact hk1)
        obtain ⟨B, hBd⟩ : ∃ B, B = (l.drop 8).take k := ⟨_, rfl⟩
        rw [← hBd] at hx8
        have hBl : B.length ≤ 1048576 := by rw [hBd, List.length_take]; omega
        have HBD : Hid (B = (l.drop 8).take (fourN l)) := Hid.mk (by rw [hBd, HK.out])
        have HBL := Hid.mk hBl
        have HSUM := fun w => rSum_any ⟨B.toArray⟩ w (by rw [size_list]; omega)
        rw [data_list] at HSUM
        have HSUM := Hid.mk HSUM
        obtain ⟨y, hy⟩ : ∃ y, y = sumN B := ⟨_, rfl⟩
        rw [← hy] at HSUM
        have HY := Hid.mk hy
        clear hy hBd h8 hBl
        go_wp2_with fail
        refine (C2.out _).mono ?_
        rintro e w2 ⟨rfl, hb2⟩
        have HB2 := Hid.mk (keepB HB.out hb2 HRN.out)
        clear hb2 r0 r1 r2 r3 f0 f1 f2 f3 HB C2
        obtain ⟨⟨r0, r1, r2, r3⟩, ⟨f0, f1, f2, f3⟩⟩ := four_cells (res_block HB2.out)
        by_cases hs : x = y
        · have hsI : ((x : Int) != (y : Int)) = false := by simp; omega
          have HSE : Hid (sumN ((l.drop 8).take (fourN l)) = fourN (l.drop 4)) := Hid.mk (by rw [← HBD.out, ← HY.out, ← hs, HX.out, HL4.out])
          clear hs
          go_wp2_with fail
          refine (HSUM.out _).mono ?_
          rintro e w3 ⟨rfl, hw3⟩
          subst hw3
          go_wp2_with fail
          refine (rRead_any B _ HBL.out).mono ?_
          rintro e w4 ⟨hb4, ⟨n, v, hread, rfl, hown⟩ | ⟨hread, kk, a0, l0, c0, a1, l1, c1, a2, l2, c2, rfl⟩⟩
          · obtain ⟨a0, l0, c0, a1, l1, c1, a2, l2, c2, rfl⟩ := own_parts hown
            have HB4 := Hid.mk (keepB HB2.out hb4 HRN.out)
            have hb0 : w.heap.size < w3.heap.size := Nat.lt_of_lt_of_le (by have := HRN.out; omega) HB2.out.size
            have hb04 : w.heap.size < w4.heap.size := Nat.lt_of_lt_of_le hb0 hb4.size
            have HE : Hid (UEnd l w (.returned (.tuple #[.agg #[.int .i64 n.kind, .slice a0 l0 c0, .slice a1 l1 c1, .slice a2 l2 c2], .int .i64 ((8 + k : Nat) : Int), .int .i64 0])) ((set4 w4 w.heap.size (.int .i64 n.kind) (.slice a0 l0 c0) (.slice a1 l1 c1) (.slice a2 l2 c2)).alloc (.cells #[.int .i64 n.kind, .slice a0 l0 c0, .slice a1 l1 c1, .slice a2 l2 c2] 26))) :=
              Hid.mk (uEnd_of (by rw [HK.out]; exact unpackP_6 H8.out H81.out H82.out HSE.out (by rw [← HBD.out]; exact hread)) (((set4_own hown hb0 _ _ _ _).below ((Below.refl _ _).alloc (Nat.le_refl _) _)).base (by omega)) ((set4_below (res_below HB4.out) (Nat.le_refl _) _ _ _ _).alloc (by simp; omega) _))
            clear r0 r1 r2 r3 f0 f1 f2 f3 hread hown hb4
            obtain ⟨⟨r0, r1, r2, r3⟩, ⟨f0, f1, f2, f3⟩⟩ := four_cells (res_block HB4.out)
            obtain ⟨⟨z0, z1, z2, z3⟩, _⟩ := four_cells (set4_block (res_block HB4.out) (.int .i64 n.kind) (.slice a0 l0 c0) (.slice a1 l1 c1) (.slice a2 l2 c2))
            have Z0 := Hid.mk z0
            have Z1 := Hid.mk z1
            have Z2 := Hid.mk z2
            have Z3 := Hid.mk z3
            clear z0 z1 z2 z3
            go_wp2
            refine bodyPost_ret (v := .tuple #[.agg #[.int .i64 n.kind, .slice a0 l0 c0, .slice a1 l1 c1, .slice a2 l2 c2], .int .i64 ((8 + k : Nat) : Int), .int .i64 0]) ?_ rfl HE.out
            simp [results, Try.results17, go_sem, Z0.out, Z1.out, Z2.out, Z3.out, hb04]
          · have HB4 := Hid.mk (keepB HB2.out hb4 HRN.out)
            have hb0 : w.heap.size < w3.heap.size := Nat.lt_of_lt_of_le (by have := HRN.out; omega) HB2.out.size
            have hb04 : w.heap.size < w4.heap.size := Nat.lt_of_lt_of_le hb0 hb4.size
            have HE : Hid (UEnd l w (.returned (.tuple #[zeroN, .int .i64 0, .int .i64 31])) ((set4 w4 w.heap.size (.int .i64 0) (.slice none 0 0) (.slice none 0 0) (.slice none 0 0)).alloc (.cells #[.int .i64 kk, .slice a0 l0 c0, .slice a1 l1 c1, .slice a2 l2 c2] 26))) :=
              Hid.mk (uEnd_of (unpackP_5 H8.out H81.out H82.out HSE.out (by rw [← HBD.out]; exact hread)) (zeroN_own _ _) ((set4_below (res_below HB4.out) (Nat.le_refl _) _ _ _ _).alloc (by simp; omega) _))
            clear r0 r1 r2 r3 f0 f1 f2 f3 hread hb4
            obtain ⟨⟨r0, r1, r2, r3⟩, ⟨f0, f1, f2, f3⟩⟩ := four_cells (res_block HB4.out)
            obtain ⟨⟨z0, z1, z2, z3⟩, _⟩ := four_cells (set4_block (res_block HB4.out) (.int .i64 0) (.slice none 0 0) (.slice none 0 0) (.slice none 0 0))
            have Z0 := Hid.mk z0
            have Z1 := Hid.mk z1
            have Z2 := Hid.mk z2
            have Z3 := Hid.mk z3
            clear z0 z1 z2 z3
            go_wp2
            refine bodyPost_ret (v := .tuple #[zeroN, .int .i64 0, .int .i64 31]) ?_ rfl HE.out
            simp [results, Try.results17, go_sem, Z0.out, Z1.out, Z2.out, Z3.out, hb04]
        · have hsI : ((x : Int) != (y : Int)) = true := by simp; omega
          have HSE : Hid (sumN ((l.drop 8).take (fourN l)) ≠ fourN (l.drop 4)) := Hid.mk (by rw [← HBD.out, ← HY.out, ← HL4.out, ← HX.out]; exact fun h => hs h.symm)
          clear hs
          have HE : Hid (UEnd l w (.returned (.tuple #[zeroN, .int .i64 0, .int .i64 30])) (set4 w2 w.heap.size (.int .i64 0) (.slice none 0 0) (.slice none 0 0) (.slice none 0 0))) :=
            Hid.mk (uEnd_of (unpackP_4 H8.out H81.out H82.out HSE.out) (zeroN_own _ _) (set4_below (res_below HB2.out) (Nat.le_refl _) _ _ _ _))
          obtain ⟨⟨z0, z1, z2, z3⟩, _⟩ := four_cells (set4_block (res_block HB2.out) (.int .i64 0) (.slice none 0 0) (.slice none 0 0) (.slice none 0 0))
          have Z0 := Hid.mk z0
          have Z1 := Hid.mk z1
          have Z2 := Hid.mk z2
          have Z3 := Hid.mk z3
          clear z0 z1 z2 z3
          go_wp2_with fail
          refine (HSUM.out _).mono ?_
          rintro e w3 ⟨rfl, hw3⟩
          subst hw3
          go_wp2
          refine bodyPost_ret (v := .tuple #[zeroN, .int .i64 0, .int .i64 30]) ?_ rfl HE.out
          simp [results, Try.results17, go_sem, Z0.out, Z1.out, Z2.out, Z3.out]

set_option maxHeartbeats 1000000 in
set_option maxRecDepth 100000 in
theorem rAll_any (l : List UInt8) (w : World) (hl : l.length ≤ 1073741824) :
    Calls Try.prog 19 #[.string ⟨l.toArray⟩] w (AEnd l w) := by
  have hsz := size_list l
  obtain ⟨i0, hi0, hz0, hz1, hz2⟩ := info_parts infoNote
  go_enter Try.func19, Try.ntmps19
  go_wp2
  go_loopw [4, 5] (fun v u wr => ∃ (at_ : Nat) (acc : List NoteD) (vl : Value), vl = v ∧ u = .int .i64 at_ ∧ at_ ≤ l.length ∧ acc.length * 8 ≤ at_ ∧ acc ++ (allP (l.drop at_)).1 = (allP l).1 ∧ at_ + (allP (l.drop at_)).2 = (allP l).2 ∧ NotesOwn wr w.heap.size vl acc ∧ Below w.heap.size w wr) (fun _ u _ => l.length - (intOf u).toNat)
  case atStart => exact ⟨0, [], _, rfl, rfl, Nat.zero_le _, by simp, by simp, by simp, ⟨[], ⟨rfl, .inl ⟨rfl, rfl⟩⟩, by simp⟩, Below.refl _ _⟩
  case round =>
    obtain ⟨k, acc, vl, rfl, rfl, hk, hac, ha1, ha2, hno, hbw⟩ := hrel
    have HA1 := Hid.mk ha1
    have HA2 := Hid.mk ha2
    have HNO := Hid.mk hno
    have HBW := Hid.mk hbw
    have hkI : (k : Int) ≤ (l.length : Int) := by omega
    have hx := extract_from l k
    rw [hsz] at hx
    clear ha1 ha2 hno hbw
    obtain ⟨q, hq⟩ : ∃ q, q = l.drop k := ⟨_, rfl⟩
    rw [← hq] at hx
    have hql : q.length = l.length - k := by rw [hq, List.length_drop]
    have HQ := Hid.mk hq
    have HU : Hid (∀ w, Calls Try.prog 17 #[.string ⟨q.toArray⟩] w (UEnd q w)) := Hid.mk (fun w => rUnpack_any q w (by omega))
    clear hq
    obtain ⟨n, m, e, hu⟩ : ∃ n m e, unpackP q = (n, m, e) := ⟨_, _, _, rfl⟩
    unfold UEnd at HU
    rw [hu] at HU
    simp only at HU
    by_cases he : e = 0
    · subst he
      obtain ⟨u1, u2⟩ := unpackP_used (l := q) (by rw [hu])
      rw [hu] at u1 u2
      simp only at u1 u2
      have hall := allP_ok hu
      have HALL := Hid.mk hall
      clear hu hall
      go_wp2_with fail
      refine (HU.out _).mono ?_
      rintro e w2 ⟨v2, rfl, hown, hb2⟩
      obtain ⟨a0, l0, c0, a1, l1, c1, a2, l2, c2, rfl⟩ := own_parts hown
      have HN2 := Hid.mk (HNO.out.below hb2)
      have HB2 := Hid.mk (HBW.out.trans (hb2.mono HBW.out.size))
      have HOW := Hid.mk (hown.base HBW.out.size)
      clear hown hb2 HU HBW HNO
      obtain ⟨cs, h1, h2⟩ := HN2.out
      have H1 := Hid.mk h1
      have H2 := Hid.mk h2
      clear h1 h2 HN2
      go_wp2_with (at_builtin; refine wpList_append_lies _ rfl _ _ _ rfl w.heap.size 26 i0 _ 4 80 Try.underlying37 hi0 hz0 hz1 hz2 rfl (by decide) vl acc.length cs (by rfl) ((H1.out.alloc _).alloc _) ⟨w2.heap.size + 1, 0, none⟩ 1 1 [.int .i64 n.kind, .slice a0 l0 c0, .slice a1 l1 c1, .slice a2 l2 c2] (by rfl) (by rfl) ?c1 ?c2 (by decide) ?c3 ?c4 ?c5 (w2.heap.size + 1 + 1) (by simp) ?_)
      case c1 => exact World.news_of_block (cs := #[.int .i64 n.kind, .slice a0 l0 c0, .slice a1 l1 c1, .slice a2 l2 c2]) (t := 26) (fr := (0, 0)) (by have := box_at (w2.alloc (.cells #[.int .i64 n.kind, .slice a0 l0 c0, .slice a1 l1 c1, .slice a2 l2 c2] 26)) (.cells #[.int .i64 n.kind, .slice a0 l0 c0, .slice a1 l1 c1, .slice a2 l2 c2] 26); rwa [show (w2.alloc (.cells #[.int .i64 n.kind, .slice a0 l0 c0, .slice a1 l1 c1, .slice a2 l2 c2] 26)).heap.size = w2.heap.size + 1 from by simp] at this)
      case c2 => intro u hu; simp at hu; rcases hu with rfl | rfl | rfl | rfl <;> rfl
      case c3 => unfold maxLen; omega
      case c4 => omega
      case c5 => have := HB2.out.size; simp; omega
      intro g cap w3 hown3 hgrow hat hlt3
      have bel2 : Below w2.heap.size w2 ((w2.alloc (.cells #[.int .i64 n.kind, .slice a0 l0 c0, .slice a1 l1 c1, .slice a2 l2 c2] 26)).alloc (.cells #[.int .i64 n.kind, .slice a0 l0 c0, .slice a1 l1 c1, .slice a2 l2 c2] 26)) := ((Below.refl _ _).alloc (Nat.le_refl _) _).alloc (by simp) _
      have N3 := Hid.mk (NotesOwn.snoc ((H1.out.alloc _).alloc _) (fun j n hn => by obtain ⟨d1, d2, d3, b0, b1, b2, b3, b4⟩ := H2.out j n hn; exact ⟨d1, d2, d3, b0, b1, b2, b3, b4.below bel2⟩) (HOW.out.below bel2) hgrow hown3)
      have B3 := Hid.mk ((HB2.out.trans (bel2.mono HB2.out.size)).grown hgrow (by have := HB2.out.size; simp; omega) (fun k hk => own_ge H1.out hk))
      clear hown3 hgrow hat hlt3 bel2 H1 H2 HOW HB2
      go_wp2
      go_roundw
      case rel =>
        have e1 := HALL.out
        have e2 := HA1.out
        have e3 := HA2.out
        rw [← HQ.out, e1] at e2 e3
        simp only at e2 e3
        rw [HQ.out, List.drop_drop] at e2 e3
        exact ⟨k + m, acc ++ [n], _, rfl, by go_num, by omega, by rw [List.length_append, List.length_singleton]; omega, by rw [List.append_assoc]; exact e2, by rw [Nat.add_assoc]; exact e3, N3.out, B3.out⟩
      case measure => simp [intOf]; omega
    · have heI : ((e : Int) != 0) = true := by simp; omega
      have hend := allP_end (l := q) (by rw [hu]; exact he)
      have HEND := Hid.mk hend
      clear hend he hu
      go_wp2_with fail
      refine (HU.out _).mono ?_
      rintro e1 w2 ⟨v2, rfl, hown, hb2⟩
      obtain ⟨a0, l0, c0, a1, l1, c1, a2, l2, c2, rfl⟩ := own_parts hown
      have bel2 : Below w2.heap.size w2 (w2.alloc (.cells #[.int .i64 n.kind, .slice a0 l0 c0, .slice a1 l1 c1, .slice a2 l2 c2] 26)) := (Below.refl _ _).alloc (Nat.le_refl _) _
      have HN2 := Hid.mk ((HNO.out.below hb2).below bel2)
      have HB2 := Hid.mk ((HBW.out.trans (hb2.mono HBW.out.size)).trans (bel2.mono (Nat.le_trans HBW.out.size hb2.size)))
      clear hown hb2 HU HBW HNO bel2
      go_wp2
      go_ret2
      have e2 := HA1.out
      have e3 := HA2.out
      rw [← HQ.out, HEND.out] at e2 e3
      simp only [List.append_nil, Nat.add_zero] at e2 e3
      exact ⟨_, by rw [← e3]; rfl, by rw [← e2]; exact HN2.out, HB2.out⟩
end Go.Proofs.Ytgmeehkikamkoaa
