/- LinkWindow: of many payloads (up to 199) that wait the first 64 alone are sent, and once they came the next ones are, until all came in their order and nothing waits; for every number. -/
import Derived.Test.YtifmpcldiimdbaaXEBits
namespace Go.Proofs.Ytifmpcldiimdbaa
open Go.RowKit Go.Shelf

def aS (o at_ n : Nat) : En := ⟨1, o, at_ + 1, 1, qs 5 at_ n⟩
def bS (o at_ : Nat) : En := ⟨1, o, 1, at_ + 1, []⟩
theorem aS_ok {o at_ n : Nat} (ho : o ≤ 1) (ha : at_ ≤ 200) (hn : n < 200) : (aS o at_ n).ok := end_ok (by omega) (by omega) (by omega) (by omega) (by omega) (by omega) (by omega)
theorem bS_ok {o at_ : Nat} (ho : o ≤ 1) (ha : at_ ≤ 200) : (bS o at_).ok := by
  have h : (En.mk 1 o 1 (at_ + 1) (qs 5 0 0)).ok := end_ok (by omega) (by omega) (by omega) (by omega) (by omega) (by omega) (by omega)
  rw [qs_nil] at h
  exact h
theorem aS_new : newE 1 = aS 0 0 0 := by rw [aS, qs_nil]; rfl
theorem bS_new : newE 1 = bS 0 0 := rfl
theorem win_put {i : Nat} (hi : i < 200) : putE (aS 0 0 i) (nk 5 i) = (aS 0 0 (i + 1), if i < 64 then [carB (aS 0 0 i) (1 + i) (pk 5 i)] else [], 0) := by
  have hf : fitsN (nk 5 i) := nk_fits (by omega) (by omega)
  have hl : (aS 0 0 i).q.length = i := by rw [aS, qs_len]; omega
  have hp : pushE (aS 0 0 i) (sealB (nk 5 i).body) = aS 0 0 (i + 1) := by rw [pushE, aS, aS]; simp only; rw [qs_snoc (by omega)]; rfl
  rw [putE, if_neg (fun h => h hf), hl, if_neg (by omega), hp]
  by_cases h : i < 64
  · rw [if_neg (by omega), if_pos h]; rfl
  · rw [if_pos (by omega), if_neg h]
theorem win_first {n : Nat} (hn : n < 200) : takeE (bS 0 0) (carB (aS 0 0 n) 1 (pk 5 0)) = (bS 1 0, [], [telB (bS 1 0)], false) :=
  take_first (e := bS 0 0) (aS_ok (by omega) (by omega) hn) (by simp [aS]) (by omega) (nk_fits (by omega) (by omega)) rfl (by simp [aS, bS])
theorem win_back {n : Nat} : takeE (aS 0 0 n) (telB (bS 1 0)) = (aS 1 0 n, [], [], false) := by
  rw [tell_first (e := aS 0 0 n) (bS_ok (by omega) (by omega)) (by simp [bS]) rfl rfl, dropE_none (by simp [bS, aS])]
  rfl
theorem win_take (n : Nat) (hn : n < 200) (at_ q : Nat) (ha : at_ ≤ n) (hq : q < n) : takeE (bS 1 q) (carB (aS 1 at_ n) (q + 1) (pk 5 q)) = (bS 1 (q + 1), [nk 5 q], [telB (bS 1 (q + 1))], false) := by
  rw [pk, take_here (e := bS 1 q) (aS_ok (by omega) (by omega) hn) (by simp [aS]) (by omega) (nk_fits (by omega) (by omega)) rfl rfl, dropE_none (by simp [bS, aS]), took_next rfl (by simp [bS])]
  rfl
theorem win_tell (n : Nat) (hn : n < 200) (q : Nat) (hq : q < n) : takeE (aS 1 q n) (telB (bS 1 (q + 1))) = (aS 1 (q + 1) n, [], [], false) := by
  rw [tell_here (e := aS 1 q n) (bS_ok (by omega) (by omega)) (by simp [bS]; omega) rfl rfl]
  have h := drop_qs (ep := 1) (ot := 1) (fs := q + 1) (wt := 1) (k := 5) (a := q) (b := n) (g := 1) (by omega)
  rw [show (bS 1 (q + 1)).wt = q + 1 + 1 from rfl, aS, h]
  rfl
set_option maxRecDepth 100000 in
set_option maxHeartbeats 4000000 in
theorem linkWindow_walk (many : Int) (w : World) (_hm : (Lit.int .i64 many).wf = true) : Calls Try.prog 8 #[.int .i64 many] w fun e w' => e = .returned (.bool true) ∧ Below w.heap.size w w' := by
  clear _hm
  have C1 : Hid (∀ W : World, Calls Try.prog 9 #[.int .i64 1] W (NewE 1 W)) := Hid.mk (fun W => new_any 1 W)
  unfold NewE at C1
  have HEP : Hid (EpOk 1) := Hid.mk ⟨by omega, by omega⟩
  obtain ⟨n, hmod, hn⟩ := mask16_mod many 200 (by omega)
  have hmod2 : (bits .and .i64 many 65535).tmod 200 = (n : Int) := hmod
  clear hmod
  go_enter Try.func8, Try.ntmps8
  go_wp2_with fail
  refine (C1.out _).mono ?_
  rintro x w1 ⟨hb1, ⟨h, -⟩ | ⟨-, b1, rfl, hlo1, hk1⟩⟩
  · exact absurd HEP.out h
  have HB1 := Hid.mk hb1
  have HK1 := Hid.mk hk1
  have HL1 := Hid.mk hlo1
  clear hb1 hk1 hlo1
  go_wp2_with fail
  refine (C1.out _).mono ?_
  rintro x w2 ⟨hb2, ⟨h, -⟩ | ⟨-, b2, rfl, hlo2, hk2⟩⟩
  · exact absurd HEP.out h
  have hb1lt := lt_of_block HK1.out
  have ht := two_new (S := fun k => k < w.heap.size) (kpB hb2 HK1.out) hk2 newE1 newE1 (by have := HL1.out; omega) (by have := HB1.out.size; omega) (by omega)
  rw [show newE (Int.toNat 1) = newE 1 from rfl] at ht
  have HT : Hid (Two (fun k => k < w.heap.size) w2 b1 (aS 0 0 0) b2 (bS 0 0)) := Hid.mk (by rw [← aS_new, ← bS_new]; exact ht)
  have HBL : Hid (Below w.heap.size w w2) := Hid.mk (HB1.out.trans (hb2.mono HB1.out.size))
  clear hb2 hk2 hlo2 HB1 HK1 HL1 C1 hb1lt ht
  go_wp2_with fail
  go_loopw [9] (fun c wr => ∃ i : Nat, i ≤ n ∧ c = .int .i64 i ∧ Two (fun k => k < w.heap.size) wr b1 (aS 0 0 i) b2 (bS 0 0) ∧ Below w.heap.size w wr) (fun c _ => n - (intOf c).toNat)
  case atStart => exact ⟨0, by omega, rfl, HT.out, HBL.out⟩
  case round =>
    obtain ⟨i, hi, rfl, htw, hbw⟩ := hrel
    obtain ⟨wx, hwx⟩ : ∃ wx, wx = wr := ⟨_, rfl⟩
    subst hwx
    clear HT HBL
    by_cases hlt : i < n
    · have hltI : (i : Int) < (n : Int) := by omega
      have ba : Below wx.heap.size wx (wx.alloc (.cells #[.int .i64 (i : Int)] 3)) := (Below.refl _ _).alloc (Nat.le_refl _) _
      have hbA : Below w.heap.size w (wx.alloc (.cells #[.int .i64 (i : Int)] 3)) := hbw.trans (ba.mono hbw.size)
      have CP := Hid.mk (putT_any (htw.below ba) (fun k hk => Nat.lt_of_lt_of_le hk hbA.size) (.agg #[.int .i64 5, .slice (some ⟨wx.heap.size, 0, none⟩) 1 1, .slice none 0 0, .slice none 0 0]) (nk 5 i) ⟨_, _, _, rfl, ints_new (ns := [(i : Int)]) (box_at wx _) (by simp), strs_nil _, rows_nil _⟩ ⟨by simp [nk], by simp [nk]⟩)
      unfold PtT at CP
      rw [win_put (by omega)] at CP
      have HBA := Hid.mk hbA
      clear ba htw hbw hbA
      by_cases h64 : i < 64
      · rw [if_pos h64] at CP
        have h64I : (i : Int) < 64 := by omega
        have h64J : ¬ (64 : Int) ≤ (i : Int) := by omega
        go_wp2_with fail
        refine CP.out.mono ?_
        clear CP
        rintro x w3 ⟨⟨a0, l0, c0, rfl, ho⟩, ht3, hf3⟩
        obtain ⟨e1, -, -⟩ := oneT_cells ho
        obtain rfl : l0 = 1 := e1
        have HT3 := Hid.mk ht3
        have HB3 : Hid (Below w.heap.size w w3) := Hid.mk (HBA.out.trans (hf3.below (fun _ h => h)))
        clear ht3 hf3 ho
        go_wp2
        go_roundw
        case rel => exact ⟨i + 1, by omega, by go_num, HT3.out, HB3.out⟩
        case measure => simp [intOf]; omega
      · rw [if_neg h64] at CP
        have h64I : ¬ (i : Int) < 64 := by omega
        have h64J : (64 : Int) ≤ (i : Int) := by omega
        go_wp2_with fail
        refine CP.out.mono ?_
        clear CP
        rintro x w3 ⟨⟨a0, l0, c0, rfl, ho⟩, ht3, hf3⟩
        obtain ⟨e1, -, -⟩ := oneT_cells ho
        obtain rfl : l0 = 0 := e1
        have HT3 := Hid.mk ht3
        have HB3 : Hid (Below w.heap.size w w3) := Hid.mk (HBA.out.trans (hf3.below (fun _ h => h)))
        clear ht3 hf3 ho
        go_wp2
        go_roundw
        case rel => exact ⟨i + 1, by omega, by go_num, HT3.out, HB3.out⟩
        case measure => simp [intOf]; omega
    · have hltI : ¬ (i : Int) < (n : Int) := by omega
      obtain rfl : n = i := by omega
      by_cases h0 : n = 0
      · have h0I : ¬ (0 : Int) < (n : Int) := by omega
        obtain ⟨o, ho⟩ : ∃ o : Nat, o = 0 := ⟨_, rfl⟩
        have HO : Hid (n = 0 ∨ o = 1) := Hid.mk (.inl h0)
        have HT : Hid (Two (fun k => k < w.heap.size) wx b1 (aS o 0 n) b2 (bS o 0)) := Hid.mk (by rw [ho]; exact htw)
        have HBL := Hid.mk hbw
        clear htw hbw h0 ho
        go_wp2_with fail
        go_loopw [8, 13] (fun ca cr wr => ∃ r at_ : Nat, r ≤ 8 ∧ ca = .int .i64 at_ ∧ cr = .int .i64 r ∧ at_ = min n (64 * r) ∧ Two (fun k => k < w.heap.size) wr b1 (aS o at_ n) b2 (bS o at_) ∧ Below w.heap.size w wr) (fun _ cr _ => 8 - (intOf cr).toNat)
        case atStart => exact ⟨0, 0, by omega, rfl, rfl, by omega, HT.out, HBL.out⟩
        case round =>
          obtain ⟨r, at_, hr, rfl, rfl, hat, htw, hbw⟩ := hrel
          obtain ⟨wx, hwx⟩ : ∃ wx, wx = wr := ⟨_, rfl⟩
          subst hwx
          have HTW := Hid.mk htw
          have HBW := Hid.mk hbw
          have HAT := Hid.mk hat
          have hatn : at_ ≤ n := by omega
          clear htw hbw hat
          by_cases hlt : r < 8
          · have hltI : (r : Int) < 8 := by omega
            obtain ⟨d, hd⟩ : ∃ d : Nat, n - at_ = d := ⟨_, rfl⟩
            obtain ⟨m, hm⟩ : ∃ m : Nat, min 64 d = m := ⟨_, rfl⟩
            have hmin : min (64 : Int) (d : Int) = (m : Int) := by omega
            have hdI : (n : Int) - (at_ : Int) = (d : Int) := by omega
            have CT := Hid.mk (tickT_any HTW.out)
            unfold TckE at CT
            obtain ⟨L, hL⟩ : ∃ L, tickE (aS o at_ n) = L := ⟨_, rfl⟩
            rw [hL] at CT
            have hLl : L.length = m := by rw [← hL, tickE_len, aS, qs_len]; omega
            rw [hLl] at CT
            have HLG : Hid (∀ j, j < m → L[j]? = some (carB (aS o at_ n) (at_ + 1 + j) (pk 5 (at_ + j)))) := Hid.mk (fun j hj => by rw [← hL]; exact tick_get (k := 5) (a := at_) (b := n) rfl (by omega) (by omega))
            have CWQ : Hid (∀ W, Two (fun k => k < w.heap.size) W b1 (aS o at_ n) b2 (bS o at_) → Calls Try.prog 22 #[.pointer (some ⟨b1, 0, none⟩)] W fun x w' => x = .returned (.int .i64 (d : Int)) ∧ w' = W) := Hid.mk (fun W hW => by
              have h := waitsT_any hW
              rw [show (aS o at_ n).q.length = d from by rw [aS, qs_len]; exact hd] at h
              exact h)
            have HM := Hid.mk hm
            have HD := Hid.mk hd
            clear hm hd hL hLl
            go_wp2_with fail
            refine CT.out.mono ?_
            clear CT
            rintro x w1 ⟨⟨vl, rfl, hrow⟩, hb1⟩
            obtain ⟨la, lc, hvl⟩ := own_slice hrow
            subst hvl
            have HT1 := Hid.mk (HTW.out.below hb1)
            have HTN := Hid.mk (HTW.out.nw hb1)
            have HB1 : Hid (Below w.heap.size w w1) := Hid.mk (HBW.out.trans (hb1.mono HBW.out.size))
            have HROW := Hid.mk hrow
            have HL1 : Hid (Low (Nw (fun k => k < w.heap.size) wx w1) w1) := Hid.mk (Nw.low (fun k hk => Nat.lt_of_lt_of_le hk HBW.out.size) hb1.size)
            have C := Hid.mk (CWQ.out w1 HT1.out)
            clear hb1 hrow CWQ
            go_wp2_with fail
            refine C.out.mono ?_
            rintro x w2 ⟨rfl, hw⟩
            rw [hw]; clear hw w2
            go_wp2_with fail
            refine C.out.mono ?_
            rintro x w2 ⟨rfl, hw⟩
            rw [hw]; clear hw w2 C
            obtain ⟨T0, hT0⟩ : ∃ T0, T0 = Nw (fun k => k < w.heap.size) wx w1 := ⟨_, rfl⟩
            have HLC : Hid (∀ j, j < m → ∃ g, la = some ⟨g, 0, none⟩ ∧ T0 g ∧ g < w1.heap.size ∧ w1.cell? ⟨g, j, none⟩ = some (.string ⟨(carB (aS o at_ n) (at_ + 1 + j) (pk 5 (at_ + j))).toArray⟩)) := Hid.mk (fun j hj => by
              rcases HROW.out.2 with ⟨_, h1⟩ | ⟨g, cap2, cur, e1, e2, e3, _⟩
              · omega
              · injection e1 with e1
                subst e1
                refine ⟨g, rfl, by rw [hT0]; exact .inr ⟨e2, lt_of_block e3⟩, lt_of_block e3, ?_⟩
                have hc := HROW.out.cellAt j (by omega)
                rw [hc, strCs, List.getElem?_map, HLG.out j hj]
                rfl)
            rw [← hT0] at HTN HL1
            have HT0S : Hid (∀ k, k < w.heap.size → T0 k) := Hid.mk (fun k hk => by rw [hT0]; exact .inl hk)
            clear hT0 HROW HLG HT1
            go_wp2_with fail
            go_loopw [8, 15] (fun ca cj wr => ∃ (j : Nat) (T : Nat → Prop), j ≤ m ∧ ca = .int .i64 ((at_ + j : Nat) : Int) ∧ cj = .int .i64 j ∧ Two T wr b1 (aS o (at_ + j) n) b2 (bS o (at_ + j)) ∧ (∀ k, T0 k → T k) ∧ Low T wr ∧ Fr T0 w1 wr) (fun _ cj _ => m - (intOf cj).toNat)
            case atStart => exact ⟨0, T0, by omega, rfl, rfl, HTN.out, fun _ h => h, HL1.out, Fr.refl _ _⟩
            case round =>
              obtain ⟨j, T, hj, rfl, rfl, htw, hsub, hlow, hfr⟩ := hrel
              obtain ⟨wy, hwy⟩ : ∃ wy, wy = wr := ⟨_, rfl⟩
              subst hwy
              have HTY := Hid.mk htw
              have HSY := Hid.mk hsub
              have HLY := Hid.mk hlow
              have HFY := Hid.mk hfr
              clear htw hsub hlow hfr
              by_cases hjm : j < m
              · have hjI : (j : Int) < (m : Int) := by omega
                exfalso; have := HM.out; have := HD.out; omega
              · have hjI : ¬ (j : Int) < (m : Int) := by omega
                obtain rfl : j = m := by omega
                have HEND : Hid (at_ + j = min n (64 * (r + 1))) := Hid.mk (by have := HM.out; have := HD.out; have := HAT.out; omega)
                have HB4 : Hid (Below w.heap.size w wy) := Hid.mk (HB1.out.trans (HFY.out.below HT0S.out))
                have HT4 := Hid.mk (HTY.out.sub (T := fun k => k < w.heap.size) (fun k hk => HSY.out k (HT0S.out k hk)))
                clear HTY HSY HLY HFY HLC
                go_wp2
                go_roundw
                case rel => exact ⟨r + 1, at_ + j, by omega, rfl, by go_num, HEND.out, HT4.out, HB4.out⟩
                case measure => simp [intOf]; omega
          · have hltI : ¬ (r : Int) < 8 := by omega
            obtain rfl : r = 8 := by omega
            obtain rfl : at_ = n := by have := HAT.out; omega
            have C := Hid.mk (waitsT_any HTW.out)
            have CA := Hid.mk (awake_any wx)
            rw [show (aS o at_ at_).q.length = 0 from by rw [aS, qs_len]; omega] at C
            clear HAT
            go_wp2_with fail
            refine C.out.mono ?_
            rintro x w2 ⟨rfl, hw⟩
            rw [hw]; clear hw w2 C
            go_wp2_with fail
            refine CA.out.mono ?_
            rintro x w2 ⟨rfl, hb2⟩
            have HE : Hid (Below w.heap.size w w2) := Hid.mk (HBW.out.trans (hb2.mono HBW.out.size))
            clear hb2 CA
            go_wp2
            go_ret
            exact ⟨rfl, HE.out⟩
      · have h0I : (0 : Int) < (n : Int) := by omega
        have CT := Hid.mk (tickT_any htw)
        unfold TckE at CT
        obtain ⟨L, hL⟩ : ∃ L, tickE (aS 0 0 n) = L := ⟨_, rfl⟩
        rw [hL] at CT
        obtain ⟨ll, hll⟩ : ∃ ll, L.length = ll := ⟨_, rfl⟩
        have hl1 : 1 ≤ ll := by rw [← hll, ← hL, tickE_len, aS, qs_len]; omega
        have HLG : Hid (L[0]? = some (carB (aS 0 0 n) 1 (pk 5 0))) := Hid.mk (by rw [← hL]; exact tick_get (k := 5) (a := 0) (b := n) rfl (by omega) (by omega))
        rw [hll] at CT
        have HTX := Hid.mk htw
        have HBX := Hid.mk hbw
        clear htw hbw hL hll
        go_wp2_with fail
        refine CT.out.mono ?_
        clear CT
        rintro x w1 ⟨⟨vl, rfl, hrow⟩, hb1⟩
        have hvl : ∃ g lc, vl = .slice (some ⟨g, 0, none⟩) ll lc ∧ w1.cell? ⟨g, 0, none⟩ = some (.string ⟨(carB (aS 0 0 n) 1 (pk 5 0)).toArray⟩) := by
          rcases hrow.2 with ⟨_, h1⟩ | ⟨g, cap2, cur, e1, e2, e3, _⟩
          · omega
          · subst e1
            refine ⟨g, cap2, rfl, ?_⟩
            rw [hrow.cellAt 0 (by omega), strCs, List.getElem?_map, HLG.out]
            rfl
        obtain ⟨g, lc, rfl, hgc⟩ := hvl
        have HT1 := Hid.mk (HTX.out.below hb1)
        have HB1 : Hid (Below w.heap.size w w1) := Hid.mk (HBX.out.trans (hb1.mono HBX.out.size))
        have hTK := win_first hn
        have hTL := win_back (n := n)
        obtain ⟨p, hp⟩ : ∃ p, carB (aS 0 0 n) 1 (pk 5 0) = p := ⟨_, rfl⟩
        rw [hp] at hgc hTK
        have HPL : Hid (p.length ≤ 1048584) := Hid.mk (by rw [← hp]; exact packN_len _)
        have CK := Hid.mk (takT_any HT1.out.swap (fun k hk => Nat.lt_of_lt_of_le hk HB1.out.size) p (by have := HPL.out; omega))
        unfold TakT at CK
        rw [hTK] at CK
        obtain ⟨p2, hp2⟩ : ∃ p, telB (bS 1 0) = p := ⟨_, rfl⟩
        rw [hp2] at hTL
        simp only [hp2] at CK
        have HPL2 : Hid (p2.length ≤ 1048584) := Hid.mk (by rw [← hp2]; exact packN_len _)
        have HTL := Hid.mk hTL
        clear hTK hTL hp hp2 hrow hb1 HLG HTX HBX
        have hl2 : (0 : Int) < (ll : Int) := by omega
        go_wp2_with fail
        refine CK.out.mono ?_
        clear CK
        rintro x w2 ⟨⟨a0, l0, c0, a1, l1, c1, rfl, hN, ho⟩, ht2, hf2⟩
        rcases hN with ⟨-, hv⟩ | ⟨gn, n', s0, i0, d0, s1, i1, d1, s2, i2, d2, hn', -⟩
        · injection hv with e0 e1 e2
          subst e0 e1 e2
          obtain ⟨f1, f2, f3⟩ := oneT_cells ho
          obtain ⟨g2, rfl, hg2, hbk2, -⟩ := f3 0 p2 rfl
          obtain rfl : l1 = 1 := f1
          have ba : Below w2.heap.size w2 (w2.alloc (.cells #[.slice none 0 0, .slice (some ⟨g2, 0, none⟩) 1 c1, .bool false] 50)) := (Below.refl _ _).alloc (Nat.le_refl _) _
          have HT3 := Hid.mk ((ht2.below ba).swap.sub (T := fun k => k < w.heap.size) (fun k hk => .inl hk))
          have hB2 : Below w.heap.size w w2 := HB1.out.trans (hf2.below (fun _ h => h))
          have HB3 : Hid (Below w.heap.size w (w2.alloc (.cells #[.slice none 0 0, .slice (some ⟨g2, 0, none⟩) 1 c1, .bool false] 50))) := Hid.mk (hB2.trans (ba.mono hB2.size))
          have hcp : (w2.alloc (.cells #[.slice none 0 0, .slice (some ⟨g2, 0, none⟩) 1 c1, .bool false] 50)).cell? ⟨g2, 0, none⟩ = some (.string ⟨p2.toArray⟩) := by
            have h := kpB ba hbk2
            simp only [World.cell?, h]
            rfl
          obtain ⟨⟨x0, x1, x2⟩, -⟩ := three_cells (box_at w2 (.cells #[.slice none 0 0, .slice (some ⟨g2, 0, none⟩) 1 c1, .bool false] 50))
          have CK := Hid.mk (takT_any HT3.out (fun k hk => Nat.lt_of_lt_of_le hk HB3.out.size) p2 (by have := HPL2.out; omega))
          unfold TakT at CK
          rw [HTL.out] at CK
          clear f2 f3 hg2 hbk2 ba ht2 hf2 hB2 ho hgc
          go_wp2_with fail
          refine CK.out.mono ?_
          clear CK
          rintro x w4 ⟨⟨y0, y1, y2, y3, y4, y5, rfl, -, -⟩, ht4, hf4⟩
          obtain ⟨o, ho⟩ : ∃ o : Nat, o = 1 := ⟨_, rfl⟩
          have HO : Hid (n = 0 ∨ o = 1) := Hid.mk (.inr ho)
          have HT : Hid (Two (fun k => k < w.heap.size) w4 b1 (aS o 0 n) b2 (bS o 0)) := Hid.mk (by rw [ho]; exact ht4.sub (fun k hk => .inl hk))
          have HBL : Hid (Below w.heap.size w w4) := Hid.mk (HB3.out.trans (hf4.below (fun _ h => h)))
          clear ht4 hf4 x0 x1 x2 hcp ho HT3 HB3 HT1 HB1 HPL HPL2 HTL
          go_wp2_with fail
          go_loopw [8, 13] (fun ca cr wr => ∃ r at_ : Nat, r ≤ 8 ∧ ca = .int .i64 at_ ∧ cr = .int .i64 r ∧ at_ = min n (64 * r) ∧ Two (fun k => k < w.heap.size) wr b1 (aS o at_ n) b2 (bS o at_) ∧ Below w.heap.size w wr) (fun _ cr _ => 8 - (intOf cr).toNat)
          case atStart => exact ⟨0, 0, by omega, rfl, rfl, by omega, HT.out, HBL.out⟩
          case round =>
            obtain ⟨r, at_, hr, rfl, rfl, hat, htw, hbw⟩ := hrel
            obtain ⟨wx, hwx⟩ : ∃ wx, wx = wr := ⟨_, rfl⟩
            subst hwx
            have HTW := Hid.mk htw
            have HBW := Hid.mk hbw
            have HAT := Hid.mk hat
            have hatn : at_ ≤ n := by omega
            clear htw hbw hat
            by_cases hlt : r < 8
            · have hltI : (r : Int) < 8 := by omega
              obtain ⟨d, hd⟩ : ∃ d : Nat, n - at_ = d := ⟨_, rfl⟩
              obtain ⟨m, hm⟩ : ∃ m : Nat, min 64 d = m := ⟨_, rfl⟩
              have hmin : min (64 : Int) (d : Int) = (m : Int) := by omega
              have hdI : (n : Int) - (at_ : Int) = (d : Int) := by omega
              have CT := Hid.mk (tickT_any HTW.out)
              unfold TckE at CT
              obtain ⟨L, hL⟩ : ∃ L, tickE (aS o at_ n) = L := ⟨_, rfl⟩
              rw [hL] at CT
              have hLl : L.length = m := by rw [← hL, tickE_len, aS, qs_len]; omega
              rw [hLl] at CT
              have HLG : Hid (∀ j, j < m → L[j]? = some (carB (aS o at_ n) (at_ + 1 + j) (pk 5 (at_ + j)))) := Hid.mk (fun j hj => by rw [← hL]; exact tick_get (k := 5) (a := at_) (b := n) rfl (by omega) (by omega))
              have CWQ : Hid (∀ W, Two (fun k => k < w.heap.size) W b1 (aS o at_ n) b2 (bS o at_) → Calls Try.prog 22 #[.pointer (some ⟨b1, 0, none⟩)] W fun x w' => x = .returned (.int .i64 (d : Int)) ∧ w' = W) := Hid.mk (fun W hW => by
                have h := waitsT_any hW
                rw [show (aS o at_ n).q.length = d from by rw [aS, qs_len]; exact hd] at h
                exact h)
              have HM := Hid.mk hm
              have HD := Hid.mk hd
              clear hm hd hL hLl
              go_wp2_with fail
              refine CT.out.mono ?_
              clear CT
              rintro x w1 ⟨⟨vl, rfl, hrow⟩, hb1⟩
              obtain ⟨la, lc, hvl⟩ := own_slice hrow
              subst hvl
              have HT1 := Hid.mk (HTW.out.below hb1)
              have HTN := Hid.mk (HTW.out.nw hb1)
              have HB1 : Hid (Below w.heap.size w w1) := Hid.mk (HBW.out.trans (hb1.mono HBW.out.size))
              have HROW := Hid.mk hrow
              have HL1 : Hid (Low (Nw (fun k => k < w.heap.size) wx w1) w1) := Hid.mk (Nw.low (fun k hk => Nat.lt_of_lt_of_le hk HBW.out.size) hb1.size)
              have C := Hid.mk (CWQ.out w1 HT1.out)
              clear hb1 hrow CWQ
              go_wp2_with fail
              refine C.out.mono ?_
              rintro x w2 ⟨rfl, hw⟩
              rw [hw]; clear hw w2
              go_wp2_with fail
              refine C.out.mono ?_
              rintro x w2 ⟨rfl, hw⟩
              rw [hw]; clear hw w2 C
              obtain ⟨T0, hT0⟩ : ∃ T0, T0 = Nw (fun k => k < w.heap.size) wx w1 := ⟨_, rfl⟩
              have HLC : Hid (∀ j, j < m → ∃ g, la = some ⟨g, 0, none⟩ ∧ T0 g ∧ g < w1.heap.size ∧ w1.cell? ⟨g, j, none⟩ = some (.string ⟨(carB (aS o at_ n) (at_ + 1 + j) (pk 5 (at_ + j))).toArray⟩)) := Hid.mk (fun j hj => by
                rcases HROW.out.2 with ⟨_, h1⟩ | ⟨g, cap2, cur, e1, e2, e3, _⟩
                · omega
                · injection e1 with e1
                  subst e1
                  refine ⟨g, rfl, by rw [hT0]; exact .inr ⟨e2, lt_of_block e3⟩, lt_of_block e3, ?_⟩
                  have hc := HROW.out.cellAt j (by omega)
                  rw [hc, strCs, List.getElem?_map, HLG.out j hj]
                  rfl)
              rw [← hT0] at HTN HL1
              have HT0S : Hid (∀ k, k < w.heap.size → T0 k) := Hid.mk (fun k hk => by rw [hT0]; exact .inl hk)
              clear hT0 HROW HLG HT1
              go_wp2_with fail
              go_loopw [8, 15] (fun ca cj wr => ∃ (j : Nat) (T : Nat → Prop), j ≤ m ∧ ca = .int .i64 ((at_ + j : Nat) : Int) ∧ cj = .int .i64 j ∧ Two T wr b1 (aS o (at_ + j) n) b2 (bS o (at_ + j)) ∧ (∀ k, T0 k → T k) ∧ Low T wr ∧ Fr T0 w1 wr) (fun _ cj _ => m - (intOf cj).toNat)
              case atStart => exact ⟨0, T0, by omega, rfl, rfl, HTN.out, fun _ h => h, HL1.out, Fr.refl _ _⟩
              case round =>
                obtain ⟨j, T, hj, rfl, rfl, htw, hsub, hlow, hfr⟩ := hrel
                obtain ⟨wy, hwy⟩ : ∃ wy, wy = wr := ⟨_, rfl⟩
                subst hwy
                have HTY := Hid.mk htw
                have HSY := Hid.mk hsub
                have HLY := Hid.mk hlow
                have HFY := Hid.mk hfr
                clear htw hsub hlow hfr
                by_cases hjm : j < m
                · have hjI : (j : Int) < (m : Int) := by omega
                  obtain rfl : o = 1 := by
                    rcases HO.out with h | h
                    · exfalso; have := HM.out; have := HD.out; omega
                    · exact h
                  obtain ⟨q, hq⟩ : ∃ q, at_ + j = q := ⟨_, rfl⟩
                  have hqn : q < n := by have := HM.out; have := HD.out; omega
                  have hqI : ((at_ + j : Nat) : Int) = (q : Int) := by rw [hq]
                  obtain ⟨g, rfl, hgT, hgl, hgc⟩ := HLC.out j hjm
                  have hgc2 : wy.cell? ⟨g, j, none⟩ = some (.string ⟨(carB (aS 1 at_ n) (q + 1) (pk 5 q)).toArray⟩) := by
                    have h := World.cell?_of_block (a := ⟨g, j, none⟩) (HFY.out.block g hgT)
                    rw [h, hgc, show at_ + 1 + j = q + 1 by omega, hq]
                  have hTK := win_take n hn at_ q hatn hqn
                  have hTL := win_tell n hn q hqn
                  obtain ⟨p, hp⟩ : ∃ p, carB (aS 1 at_ n) (q + 1) (pk 5 q) = p := ⟨_, rfl⟩
                  rw [hp] at hgc2 hTK
                  have HPL : Hid (p.length ≤ 1048584) := Hid.mk (by rw [← hp]; exact packN_len _)
                  have htw2 := HTY.out
                  rw [hq] at htw2
                  have CK := Hid.mk (takT_any htw2.swap HLY.out p (by have := HPL.out; omega))
                  unfold TakT at CK
                  rw [hTK] at CK
                  obtain ⟨p2, hp2⟩ : ∃ p, telB (bS 1 (q + 1)) = p := ⟨_, rfl⟩
                  rw [hp2] at hTL
                  simp only [hp2] at CK
                  have HPL2 : Hid (p2.length ≤ 1048584) := Hid.mk (by rw [← hp2]; exact packN_len _)
                  have HTL := Hid.mk hTL
                  have HQ := Hid.mk hq
                  rw [hqI]
                  clear hgc hgT hgl hTK hTL hp hp2 htw2 hq hqI
                  go_wp2_with fail
                  refine CK.out.mono ?_
                  clear CK
                  rintro x w2 ⟨⟨a0, l0, c0, a1, l1, c1, rfl, hN, ho⟩, ht2, hf2⟩
                  rcases hN with ⟨h, -⟩ | ⟨gn, n', s0, i0, d0, s1, i1, d1, s2, i2, d2, hn', hv', hB', hbk', hown⟩
                  · cases h
                  obtain rfl : n' = nk 5 q := by simpa using hn'.symm
                  injection hv' with e0 e1 e2
                  subst e0 e1 e2
                  obtain ⟨f1, f2, f3⟩ := oneT_cells ho
                  obtain ⟨g2, rfl, hg2, hbk2, -⟩ := f3 0 p2 rfl
                  obtain rfl : l1 = 1 := f1
                  obtain ⟨m0, -, -, mn, -⟩ := own_read hown
                  obtain ⟨gi, oi, rfl, -, hci⟩ := mn (by simp [nk])
                  obtain rfl : i0 = 1 := m0
                  have hci0 := hci 0 (q : Int) rfl
                  rw [Nat.add_zero] at hci0
                  have ba : Below w2.heap.size w2 (w2.alloc (.cells #[.slice (some ⟨gn, 0, none⟩) 1 1, .slice (some ⟨g2, 0, none⟩) 1 c1, .bool false] 50)) := (Below.refl _ _).alloc (Nat.le_refl _) _
                  have hF3 : Fr T wy (w2.alloc (.cells #[.slice (some ⟨gn, 0, none⟩) 1 1, .slice (some ⟨g2, 0, none⟩) 1 c1, .bool false] 50)) := hf2.next HLY.out ba
                  have HT3 := Hid.mk (((ht2.below ba).swap).sub (T := T) (fun k hk => .inl hk))
                  have HF3 := Hid.mk hF3
                  have HL3 : Hid (Low T (w2.alloc (.cells #[.slice (some ⟨gn, 0, none⟩) 1 1, .slice (some ⟨g2, 0, none⟩) 1 c1, .bool false] 50))) := Hid.mk (HLY.out.fr hF3)
                  have hcn : (w2.alloc (.cells #[.slice (some ⟨gn, 0, none⟩) 1 1, .slice (some ⟨g2, 0, none⟩) 1 c1, .bool false] 50)).cell? ⟨gn, 1, none⟩ = some (.slice (some ⟨gi, oi, none⟩) 1 d0) := by
                    have h := kpB ba hbk'
                    simp only [World.cell?, h]
                    rfl
                  have hcm := (ba.cell (p := ⟨gi, oi, none⟩) (World.block_lt_of_cell? _ _ hci0)).trans hci0
                  have hcp : (w2.alloc (.cells #[.slice (some ⟨gn, 0, none⟩) 1 1, .slice (some ⟨g2, 0, none⟩) 1 c1, .bool false] 50)).cell? ⟨g2, 0, none⟩ = some (.string ⟨p2.toArray⟩) := by
                    have h := kpB ba hbk2
                    simp only [World.cell?, h]
                    rfl
                  obtain ⟨⟨x0, x1, x2⟩, -⟩ := three_cells (box_at w2 (.cells #[.slice (some ⟨gn, 0, none⟩) 1 1, .slice (some ⟨g2, 0, none⟩) 1 c1, .bool false] 50))
                  have CK := Hid.mk (takT_any HT3.out HL3.out p2 (by have := HPL2.out; omega))
                  unfold TakT at CK
                  rw [HTL.out] at CK
                  clear hn' hB' hbk' hown f2 f3 hg2 hbk2 mn hci hci0 ba hF3 ht2 hf2 hgc2 HTL ho
                  go_wp2_with fail
                  refine CK.out.mono ?_
                  clear CK
                  rintro x w4 ⟨⟨y0, y1, y2, y3, y4, y5, rfl, -, -⟩, ht4, hf4⟩
                  have HT4 := Hid.mk ht4
                  have HF4 := Hid.mk hf4
                  clear ht4 hf4 x0 x1 x2 hcn hcm hcp
                  go_wp2
                  go_roundw
                  case rel => exact ⟨j + 1, _, by omega, by have := HQ.out; simp only [Value.int.injEq, true_and]; omega, by go_num, by have := HQ.out; rw [← Nat.add_assoc, this]; exact HT4.out, fun k hk => .inl (HSY.out k hk), Nw.low HL3.out HF4.out.size, (HFY.out.trans (HF3.out.sub HSY.out)).trans (HF4.out.sub HSY.out)⟩
                  case measure => simp [intOf]; omega
                · have hjI : ¬ (j : Int) < (m : Int) := by omega
                  obtain rfl : j = m := by omega
                  have HEND : Hid (at_ + j = min n (64 * (r + 1))) := Hid.mk (by have := HM.out; have := HD.out; have := HAT.out; omega)
                  have HB4 : Hid (Below w.heap.size w wy) := Hid.mk (HB1.out.trans (HFY.out.below HT0S.out))
                  have HT4 := Hid.mk (HTY.out.sub (T := fun k => k < w.heap.size) (fun k hk => HSY.out k (HT0S.out k hk)))
                  clear HTY HSY HLY HFY HLC
                  go_wp2
                  go_roundw
                  case rel => exact ⟨r + 1, at_ + j, by omega, rfl, by go_num, HEND.out, HT4.out, HB4.out⟩
                  case measure => simp [intOf]; omega
            · have hltI : ¬ (r : Int) < 8 := by omega
              obtain rfl : r = 8 := by omega
              obtain rfl : at_ = n := by have := HAT.out; omega
              have C := Hid.mk (waitsT_any HTW.out)
              have CA := Hid.mk (awake_any wx)
              rw [show (aS o at_ at_).q.length = 0 from by rw [aS, qs_len]; omega] at C
              clear HAT
              go_wp2_with fail
              refine C.out.mono ?_
              rintro x w2 ⟨rfl, hw⟩
              rw [hw]; clear hw w2 C
              go_wp2_with fail
              refine CA.out.mono ?_
              rintro x w2 ⟨rfl, hb2⟩
              have HE : Hid (Below w.heap.size w w2) := Hid.mk (HBW.out.trans (hb2.mono HBW.out.size))
              clear hb2 CA
              go_wp2
              go_ret
              exact ⟨rfl, HE.out⟩
        · cases hn'
end Go.Proofs.Ytifmpcldiimdbaa
