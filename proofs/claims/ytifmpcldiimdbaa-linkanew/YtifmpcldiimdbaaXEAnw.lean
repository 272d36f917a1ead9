/- LinkAnew: an end that begins anew is told to the other one, which drops what waited for the elder one; all that is put behind that comes, once, in order; what comes late of the elder one is nothing; for all three numbers. -/
import Derived.Test.YtifmpcldiimdbaaXEAnwM
namespace Go.Proofs.Ytifmpcldiimdbaa
open Go.RowKit Go.Shelf

def gt (r : Nat) : Nat := if r = 0 then 0 else 1
def gg (m r : Nat) : Nat := if r ≤ 1 then 0 else m
theorem gg_le {m : Nat} (hm : 1 ≤ m ∧ m ≤ 16) (r : Nat) : gg m r ≤ 16 := by unfold gg; split <;> omega
theorem lR_get (m r : Nat) : ∀ (i : Nat) z, (lR m r)[i]? = some z → z = nk 7 (gg m r + i) := by
  intro i z h
  match r with
  | 0 => simp [lR] at h
  | 1 =>
    rw [lR, List.getElem?_map] at h
    obtain ⟨j, h1, h2⟩ := Option.map_eq_some_iff.1 h
    obtain ⟨hl, h3⟩ := List.getElem?_eq_some_iff.1 h1
    rw [List.getElem_range] at h3
    rw [← h2, ← h3]
    simp [gg]
  | r + 2 => simp [lR] at h
theorem lR_len (m r : Nat) : gg m r + (lR m r).length = gg m (r + 1) := by
  match r with
  | 0 => simp [lR, gg]
  | 1 => simp [lR, gg]
  | r + 2 => simp [lR, gg]
theorem lR_le {m : Nat} (hm : 1 ≤ m ∧ m ≤ 16) (r : Nat) : (lR m r).length ≤ 16 := by
  match r with
  | 0 => simp [lR]
  | 1 => simp [lR]; omega
  | r + 2 => simp [lR]
theorem two_third {T : Nat → Prop} {W : World} {b1 b2 b3 k : Nat} {e1 e2 : En} (h : Two T W b1 e1 b2 e2) (h3 : T b3) (hk : LBlk W b3 (.slice none 0 0) (newE k)) (hok : (newE k).ok) : Two (fun j => T j ∧ j ≠ b3) W b3 (newE k) b2 e2 := by
  obtain ⟨v1, v2, h1, h2, _, _, _, _⟩ := h
  exact ⟨.slice none 0 0, v2, ⟨hk, fun h => h.2 rfl, QRow.nil _, fun g hg => (by cases hg), fun g hg => (by cases hg), by simp [Value.ownBlock], hok⟩, h2.sub (fun _ hj => hj.1), fun e => h2.out (by rw [← e]; exact h3), fun g hg => (by cases hg), by simp [Value.ownBlock], fun e => h2.outq b3 e h3⟩
/-- The state ahead of a round. -/
structure RndI (w w0 : World) (b1 b3 go n m : Nat) (T : Nat → Prop) (r : Nat) (W : World) : Prop where
  two : Two T W b3 (cR m r) b1 (aR n m r)
  low : Low T W
  sub : ∀ k, k < w.heap.size → T k
  bel : Below w.heap.size w W
  old : ∀ j, j < n → T go ∧ W.cell? ⟨go, j, none⟩ = some (.string ⟨(carB ⟨3, 1, 1, 1, qs 5 0 n⟩ (1 + j) (pk 5 j)).toArray⟩)
set_option maxRecDepth 100000 in
set_option maxHeartbeats 4000000 in
theorem linkAnew_walk (ahead behind late : Int) (w : World) (_h1 : (Lit.int .i64 ahead).wf = true) (_h2 : (Lit.int .i64 behind).wf = true) (_h3 : (Lit.int .i64 late).wf = true) :
    Calls Try.prog 6 #[.int .i64 ahead, .int .i64 behind, .int .i64 late] w fun e w' => e = .returned (.bool true) ∧ Below w.heap.size w w' := by
  clear _h1 _h2 _h3
  have CN : Hid (∀ (k : Int) (W : World), Calls Try.prog 9 #[.int .i64 k] W (NewE k W)) := Hid.mk (fun k W => new_any k W)
  unfold NewE at CN
  have HEP : Hid (EpOk 1 ∧ EpOk 3 ∧ EpOk 4) := Hid.mk ⟨⟨by omega, by omega⟩, ⟨by omega, by omega⟩, ⟨by omega, by omega⟩⟩
  obtain ⟨n0, hn0, hn0b⟩ := mask_nat ahead 4 15 16 (by omega) (by decide) (by decide)
  obtain ⟨m0, hm0, hm0b⟩ := mask_nat behind 4 15 16 (by omega) (by decide) (by decide)
  obtain ⟨n, hnn⟩ : ∃ n : Nat, n = 1 + n0 := ⟨_, rfl⟩
  obtain ⟨m, hmm⟩ : ∃ m : Nat, m = 1 + m0 := ⟨_, rfl⟩
  have hn : 1 ≤ n ∧ n ≤ 16 := by omega
  have hm : 1 ≤ m ∧ m ≤ 16 := by omega
  have hnI : (1 : Int) + (n0 : Int) = (n : Int) := by omega
  have hmI : (1 : Int) + (m0 : Int) = (m : Int) := by omega
  clear hnn hmm hn0b hm0b
  go_enter Try.func6, Try.ntmps6
  go_wp2_with fail
  refine (CN.out 1 _).mono ?_
  rintro x w1 ⟨hb1, ⟨h, -⟩ | ⟨-, b1, rfl, hlo1, hk1⟩⟩
  · exact absurd HEP.out.1 h
  have HB1 := Hid.mk hb1
  have HK1 := Hid.mk hk1
  have HL1 := Hid.mk hlo1
  clear hb1 hk1 hlo1
  go_wp2_with fail
  refine (CN.out 3 _).mono ?_
  rintro x w2 ⟨hb2, ⟨h, -⟩ | ⟨-, b2, rfl, hlo2, hk2⟩⟩
  · exact absurd HEP.out.2.1 h
  have HB2 := Hid.mk hb2
  have HK2 := Hid.mk hk2
  have HL2 := Hid.mk hlo2
  clear hb2 hk2 hlo2
  go_wp2_with fail
  refine (CN.out 4 _).mono ?_
  rintro x w3 ⟨hb3, ⟨h, -⟩ | ⟨-, b3, rfl, hlo3, hk3⟩⟩
  · exact absurd HEP.out.2.2 h
  have hz1 := lt_of_block HK1.out
  have hz2 := lt_of_block HK2.out
  have hz3 := lt_of_block hk3
  have HBW : Hid (Below w.heap.size w w3) := Hid.mk (HB1.out.trans ((HB2.out.trans (hb3.mono HB2.out.size)).mono HB1.out.size))
  have hlo1 := HL1.out
  have hlo2 := HL2.out
  obtain ⟨S, hS⟩ : ∃ S : Nat → Prop, S = fun k => k < w.heap.size ∨ k = b3 := ⟨_, rfl⟩
  have ht := two_new (S := S) (kpB hb3 HK2.out) (kpB hb3 (kpB HB2.out HK1.out)) (newE_ok (by omega) (by omega)) (newE_ok (by omega) (by omega)) (by rw [hS]; have := HB1.out.size; omega) (by rw [hS]; omega) (by omega)
  have HT : Hid (Two S w3 b2 (bE 0) b1 (aE 0)) := Hid.mk (by
    have e1 : bE 0 = newE (Int.toNat 3) := by rw [bE, qs_nil]; rfl
    have e2 : aE 0 = newE (Int.toNat 1) := by rw [aE, qs_nil]; rfl
    rw [e1, e2]
    exact ht)
  have HK3 : Hid (LBlk w3 b3 (.slice none 0 0) (newE 4)) := Hid.mk hk3
  have HSW : Hid (∀ k, k < w.heap.size → S k) := Hid.mk (fun k hk => by rw [hS]; exact .inl hk)
  have HSB : Hid (S b3) := Hid.mk (by rw [hS]; exact .inr rfl)
  have HSL : Hid (Low S w3) := Hid.mk (fun k hk => by
    rw [hS] at hk
    rcases hk with hk | rfl
    · exact Nat.lt_of_lt_of_le hk HBW.out.size
    · exact hz3)
  have HB3W : Hid (w.heap.size ≤ b3) := Hid.mk (by have := HB1.out.size; have := HB2.out.size; omega)
  clear hb3 hk3 hlo3 HB1 HK1 HL1 HB2 HK2 HL2 CN hz1 hz2 hz3 hlo1 hlo2 ht hS
  go_wp2_with fail
  go_loopw [15] (fun c wr => ∃ i : Nat, i ≤ n ∧ c = .int .i64 i ∧ Two S wr b2 (bE i) b1 (aE i) ∧ Fr S w3 wr) (fun c _ => n - (intOf c).toNat)
  case atStart => exact ⟨0, by omega, rfl, HT.out, Fr.refl _ _⟩
  case round =>
    obtain ⟨i, hi, rfl, htw, hfr⟩ := hrel
    obtain ⟨wx, hwx⟩ : ∃ wx, wx = wr := ⟨_, rfl⟩
    subst hwx
    clear HT
    by_cases hlt : i < n
    · have hltI : (i : Int) < (n : Int) := by omega
      have ba : Below wx.heap.size wx (wx.alloc (.cells #[.int .i64 (i : Int)] 3)) := (Below.refl _ _).alloc (Nat.le_refl _) _
      have hlx := HSL.out.fr hfr
      have CP := Hid.mk (putT_any (htw.below ba) (hlx.below ba) (.agg #[.int .i64 5, .slice (some ⟨wx.heap.size, 0, none⟩) 1 1, .slice none 0 0, .slice none 0 0]) (nk 5 i) ⟨_, _, _, rfl, ints_new (ns := [(i : Int)]) (box_at wx _) (by simp), strs_nil _, rows_nil _⟩ ⟨by simp [nk], by simp [nk]⟩)
      unfold PtT at CP
      rw [show (putE (bE i) (nk 5 i)).1 = bE (i + 1) from (put_small (by omega) (by omega)).1] at CP
      have HFA := Hid.mk (hfr.next HSL.out ba)
      have HLA := Hid.mk (hlx.below ba)
      clear ba htw hfr hlx
      go_wp2_with fail
      refine CP.out.mono ?_
      clear CP
      rintro x w4 ⟨⟨a0, l0, c0, rfl, -⟩, ht4, hf4⟩
      have ba : Below w4.heap.size w4 (w4.alloc (.cells #[.int .i64 (i : Int)] 3)) := (Below.refl _ _).alloc (Nat.le_refl _) _
      have hlx := HLA.out.fr hf4
      have CP := Hid.mk (putT_any ((ht4.below ba).swap) (hlx.below ba) (.agg #[.int .i64 6, .slice (some ⟨w4.heap.size, 0, none⟩) 1 1, .slice none 0 0, .slice none 0 0]) (nk 6 i) ⟨_, _, _, rfl, ints_new (ns := [(i : Int)]) (box_at w4 _) (by simp), strs_nil _, rows_nil _⟩ ⟨by simp [nk], by simp [nk]⟩)
      unfold PtT at CP
      rw [show (putE (aE i) (nk 6 i)).1 = aE (i + 1) from (put_small (by omega) (by omega)).1] at CP
      have HFB := Hid.mk ((HFA.out.trans hf4).next HSL.out ba)
      clear ba ht4 hf4 hlx HFA HLA
      go_wp2_with fail
      refine CP.out.mono ?_
      clear CP
      rintro x w5 ⟨⟨a0, l0, c0, rfl, -⟩, ht5, hf5⟩
      have HT5 := Hid.mk ht5.swap
      have HF5 := Hid.mk (HFB.out.trans hf5)
      clear ht5 hf5
      go_wp2
      go_roundw
      case rel => exact ⟨i + 1, by omega, by go_num, HT5.out, HF5.out⟩
      case measure => simp [intOf]; omega
    · have hltI : ¬ (i : Int) < (n : Int) := by omega
      obtain rfl : n = i := by omega
      have CC := Hid.mk (carry_law htw (HSL.out.fr hfr))
      unfold CarE at CC
      rw [anw1 hn] at CC
      have HF := Hid.mk hfr
      clear htw hfr
      go_wp2_with fail
      refine CC.out.mono ?_
      clear CC
      rintro x w4 ⟨v, T1, rfl, ht4, hsub4, hlow4, hf4, -⟩
      have CT := Hid.mk (tickT_any ht4)
      unfold TckE at CT
      obtain ⟨L, hL⟩ : ∃ L, tickE ⟨3, 1, 1, 1, qs 5 0 n⟩ = L := ⟨_, rfl⟩
      rw [hL] at CT
      have hll : L.length = n := by rw [← hL, tickE_len, qs_len]; omega
      rw [hll] at CT
      have HLG : Hid (∀ j, j < n → L[j]? = some (carB ⟨3, 1, 1, 1, qs 5 0 n⟩ (1 + j) (pk 5 j))) := Hid.mk (fun j hj => by
        rw [← hL]
        have h := tick_get (e := ⟨3, 1, 1, 1, qs 5 0 n⟩) (k := 5) (a := 0) (b := n) (j := j) rfl (by omega) (by omega)
        rw [Nat.zero_add] at h
        exact h)
      have HT4 := Hid.mk ht4
      have HS4 := Hid.mk hsub4
      have HL4 := Hid.mk hlow4
      have HF4 := Hid.mk (HF.out.trans hf4)
      clear ht4 hsub4 hlow4 hf4 HF hL hll
      go_wp2_with fail
      refine CT.out.mono ?_
      clear CT
      rintro x w5 ⟨⟨vl, rfl, hrow⟩, hb5⟩
      have hvl : ∃ go lc, vl = .slice (some ⟨go, 0, none⟩) n lc ∧ w4.heap.size ≤ go ∧ go < w5.heap.size ∧ ∀ j, j < n → w5.cell? ⟨go, j, none⟩ = some (.string ⟨(carB ⟨3, 1, 1, 1, qs 5 0 n⟩ (1 + j) (pk 5 j)).toArray⟩) := by
        rcases hrow.2 with ⟨_, h1⟩ | ⟨g, cap2, cur, e1, e2, e3, _⟩
        · omega
        · subst e1
          refine ⟨g, cap2, rfl, e2, lt_of_block e3, fun j hj => ?_⟩
          rw [hrow.cellAt j (by omega), strCs, List.getElem?_map, HLG.out j hj]
          rfl
      obtain ⟨go, lc, rfl, hgo1, hgo2, hgc⟩ := hvl
      have CC := Hid.mk (carry_law (HT4.out.nw hb5) (Nw.low HL4.out hb5.size))
      unfold CarE at CC
      rw [anw2 hn] at CC
      have HGC := Hid.mk hgc
      have HGT : Hid (Nw T1 w4 w5 go) := Hid.mk (.inr ⟨hgo1, hgo2⟩)
      have HGN : Hid (go ≠ b3) := Hid.mk (by have := HL4.out b3 (HS4.out b3 HSB.out); omega)
      have HF5 := Hid.mk (HF4.out.next HSL.out hb5)
      have hn0I : ((n : Int) == 0) = false := by simp; omega
      have hn0J : ¬ (n : Int) = 0 := by omega
      clear hrow hb5 hgo1 hgo2 hgc HLG
      go_wp2_with fail
      refine CC.out.mono ?_
      clear CC
      rintro x w6 ⟨v, T2, rfl, ht6, hsub6, hlow6, hf6, -⟩
      have hsS : ∀ k, S k → T2 k := fun k hk => hsub6 k (.inl (HS4.out k hk))
      have hkc : LBlk w6 b3 (.slice none 0 0) (newE 4) := by
        have h1 := (HF5.out.block b3 HSB.out).trans HK3.out
        exact (hf6.block b3 (.inl (HS4.out b3 HSB.out))).trans h1
      have ht7 := two_third ht6 (hsS b3 HSB.out) hkc (newE_ok (by omega) (by omega))
      obtain ⟨T3, hT3⟩ : ∃ T3, (fun j => T2 j ∧ j ≠ b3) = T3 := ⟨_, rfl⟩
      rw [hT3] at ht7
      have HBL6 : Hid (Below w.heap.size w w6) := Hid.mk (HBW.out.trans ((HF5.out.trans (hf6.sub (fun k hk => .inl (HS4.out k hk)))).below HSW.out))
      have HW3 : Hid (∀ k, k < w.heap.size → T3 k) := Hid.mk (fun k hk => by
        rw [← hT3]
        exact ⟨hsS k (HSW.out k hk), fun e => by have := HB3W.out; omega⟩)
      have HT7 : Hid (Two T3 w6 b3 (cE 0) b1 ⟨1, 3, 1, 1 + n, qs 6 0 n⟩) := Hid.mk (by
        have e1 : cE 0 = newE 4 := by rw [cE, qs_nil]; rfl
        rw [e1]
        exact ht7)
      have HL7 : Hid (Low T3 w6) := Hid.mk (fun k hk => by rw [← hT3] at hk; exact hlow6 k hk.1)
      have HG7 : Hid (T3 go) := Hid.mk (by
        rw [← hT3]
        refine ⟨hsub6 go HGT.out, fun e => ?_⟩
        rcases HGT.out with h | h
        · exact HGN.out e
        · exact HGN.out e)
      have HGC7 : Hid (∀ j, j < n → w6.cell? ⟨go, j, none⟩ = some (.string ⟨(carB ⟨3, 1, 1, 1, qs 5 0 n⟩ (1 + j) (pk 5 j)).toArray⟩)) := Hid.mk (fun j hj => (World.cell?_of_block (a := ⟨go, j, none⟩) (hf6.block go HGT.out)).trans (HGC.out j hj))
      clear ht6 hsub6 hlow6 hf6 hsS hkc ht7 hT3 HT4 HS4 HL4 HF4 HF5 HGC HGT
      go_wp2_with fail
      go_loopw [17] (fun c wr => ∃ i : Nat, i ≤ m ∧ c = .int .i64 i ∧ Two T3 wr b3 (cE i) b1 ⟨1, 3, 1, 1 + n, qs 6 0 n⟩ ∧ Fr T3 w6 wr) (fun c _ => m - (intOf c).toNat)
      case atStart => exact ⟨0, by omega, rfl, HT7.out, Fr.refl _ _⟩
      case round =>
        obtain ⟨i, hi, rfl, htw, hfr⟩ := hrel
        obtain ⟨wy, hwy⟩ : ∃ wy, wy = wr := ⟨_, rfl⟩
        subst hwy
        by_cases hlt : i < m
        · have hltI : (i : Int) < (m : Int) := by omega
          have ba : Below wy.heap.size wy (wy.alloc (.cells #[.int .i64 (i : Int)] 3)) := (Below.refl _ _).alloc (Nat.le_refl _) _
          have hlx := HL7.out.fr hfr
          have CP := Hid.mk (putT_any (htw.below ba) (hlx.below ba) (.agg #[.int .i64 7, .slice (some ⟨wy.heap.size, 0, none⟩) 1 1, .slice none 0 0, .slice none 0 0]) (nk 7 i) ⟨_, _, _, rfl, ints_new (ns := [(i : Int)]) (box_at wy _) (by simp), strs_nil _, rows_nil _⟩ ⟨by simp [nk], by simp [nk]⟩)
          unfold PtT at CP
          rw [show (putE (cE i) (nk 7 i)).1 = cE (i + 1) from (put_small (by omega) (by omega)).1, show (putE (cE i) (nk 7 i)).2.2 = 0 from (put_small (by omega) (by omega)).2] at CP
          have HFA := Hid.mk (hfr.next HL7.out ba)
          clear ba htw hfr hlx HT7
          go_wp2_with fail
          refine CP.out.mono ?_
          clear CP
          rintro x w8 ⟨⟨a0, l0, c0, rfl, -⟩, ht8, hf8⟩
          have HT8 := Hid.mk ht8
          have HF8 := Hid.mk (HFA.out.trans hf8)
          clear ht8 hf8
          go_wp2
          go_roundw
          case rel => exact ⟨i + 1, by omega, by go_num, HT8.out, HF8.out⟩
          case measure => simp [intOf]; omega
        · have hltI : ¬ (i : Int) < (m : Int) := by omega
          obtain rfl : m = i := by omega
          have R0 : Hid (RndI w w3 b1 b3 go n m T3 0 wy) := Hid.mk ⟨htw, HL7.out.fr hfr, HW3.out, HBL6.out.trans (hfr.below HW3.out), fun j hj => ⟨HG7.out, (World.cell?_of_block (a := ⟨go, j, none⟩) (hfr.block go HG7.out)).trans (HGC7.out j hj)⟩⟩
          clear htw hfr HT7 HL7 HW3 HBL6 HG7 HGC7 hn0I hn0J
          go_wp2_with fail
          go_loopw [20, 21, 22] (fun ct cg cr wr => ∃ (r : Nat) (T : Nat → Prop), r ≤ 4 ∧ ct = .int .i64 ((gt r : Nat) : Int) ∧ cg = .int .i64 ((gg m r : Nat) : Int) ∧ cr = .int .i64 r ∧ RndI w w3 b1 b3 go n m T r wr) (fun _ _ cr _ => 4 - (intOf cr).toNat)
          case atStart => exact ⟨0, T3, by omega, rfl, rfl, rfl, R0.out⟩
          case round =>
            obtain ⟨r, T, hr, rfl, rfl, rfl, ri⟩ := hrel
            obtain ⟨wz, hwz⟩ : ∃ wz, wz = wr := ⟨_, rfl⟩
            subst hwz
            by_cases hrl : r < 4
            · have hrI : (r : Int) < 4 := by omega
              by_cases h0 : r = 0
              · have hgt0 : ((gt r : Nat) : Int) = 0 := by rw [h0]; rfl
                rw [hgt0]
                clear hgt0
                have HTR : Hid (tR r = true) := Hid.mk (by rw [h0]; rfl)
                have CC := Hid.mk (carry_law ri.two ri.low)
                unfold CarE at CC
                rw [anw3 hm, HTR.out] at CC
                obtain ⟨ns, hns⟩ : ∃ ns, lR m r = ns := ⟨_, rfl⟩
                rw [hns] at CC
                have HNS : Hid (∀ (i : Nat) z, ns[i]? = some z → z = nk 7 (gg m r + i)) := Hid.mk (by rw [← hns]; exact lR_get m r)
                have HNL : Hid (gg m r + ns.length = gg m (r + 1)) := Hid.mk (by rw [← hns]; exact lR_len m r)
                have hnl : ns.length ≤ 16 := by rw [← hns]; exact lR_le hm r
                have RI := Hid.mk ri
                have hgb : gg m r ≤ 16 := gg_le hm r
                obtain ⟨gr, hgr⟩ : ∃ gr, gg m r = gr := ⟨_, rfl⟩
                rw [hgr] at HNS HNL hgb
                rw [hgr]
                have HTT : Hid (r ≠ 0 → gt r = gt (r + 1)) := Hid.mk (fun h => by unfold gt; rw [if_neg h, if_neg (by omega)])
                clear hns ri hgr
                go_wp2_with fail
                refine CC.out.mono ?_
                clear CC
                rintro x w1 ⟨v, T1, rfl, ht1, hsub1, hlow1, hf1, hpay⟩
                obtain ⟨cs, hrow, hrT, hcs⟩ := hpay
                obtain ⟨va, vc, hv⟩ := own_slice hrow
                subst hv
                have HPC : Hid (∀ i, i < ns.length → ∃ gv gi oi ic, va = some ⟨gv, 0, none⟩ ∧ w1.cell? ⟨gv, i * 4, none⟩ = some (.int .i64 7) ∧ w1.cell? ⟨gv, i * 4 + 1, none⟩ = some (.slice (some ⟨gi, oi, none⟩) 1 ic) ∧ w1.cell? ⟨gi, oi, none⟩ = some (.int .i64 ((gr + i : Nat) : Int))) := Hid.mk (fun i hi => by
                  obtain ⟨z, hz⟩ : ∃ z, ns[i]? = some z := ⟨_, List.getElem?_eq_getElem hi⟩
                  obtain ⟨k1, vn, k2, k3⟩ := hcs i z hz
                  obtain rfl := HNS.out i z hz
                  rcases hrow.2 with ⟨_, h0⟩ | ⟨gv, cap, cur, e1, e2, e3, _⟩
                  · omega
                  · injection e1 with e1
                    rcases k3 with ⟨_, _, _, k3⟩ | ⟨gi, oi, ic, cur2, fz, k4, _, k5, k6⟩
                    · simp [nk] at k3
                    · subst k4
                      refine ⟨gv, gi, oi, ic, e1, ?_, ?_, ?_⟩
                      · rw [e1] at hrow
                        rw [hrow.cellAt (i * 4) (by omega)]
                        exact k1
                      · rw [e1] at hrow
                        rw [hrow.cellAt (i * 4 + 1) (by omega)]
                        exact k2
                      · simp only [World.cell?, k5]
                        have := k6 0 _ rfl
                        rwa [Nat.add_zero] at this)
                have HT1 := Hid.mk ht1
                have HS1 := Hid.mk hsub1
                have HL1 := Hid.mk hlow1
                have HF1 := Hid.mk hf1
                have HB1 : Hid (Below w.heap.size w w1) := Hid.mk (RI.out.bel.trans (hf1.below RI.out.sub))
                clear ht1 hsub1 hlow1 hf1 hcs hrow hrT
                go_wp2_with fail
                go_loopw [21, 25] (fun cg ci wr => ∃ i : Nat, i ≤ ns.length ∧ cg = .int .i64 ((gr + i : Nat) : Int) ∧ ci = .int .i64 i ∧ wr = w1) (fun _ ci _ => ns.length - (intOf ci).toNat)
                case atStart => exact ⟨0, by omega, rfl, rfl, rfl⟩
                case round =>
                  obtain ⟨i, hi, rfl, rfl, hwr⟩ := hrel
                  rw [hwr]
                  clear hwr wr
                  by_cases hin : i < ns.length
                  · have hinI : (i : Int) < (ns.length : Int) := by omega
                    obtain ⟨gv, gi, oi, ic, rfl, p1, p2, p3⟩ := HPC.out i hin
                    obtain ⟨u, HU⟩ : ∃ u, Hid (u = gr + i) := ⟨_, Hid.mk rfl⟩
                    rw [← HU.out] at p3
                    rw [← HU.out]
                    have hub : u ≤ 100 := by have := HU.out; omega
                    go_wp2
                    go_roundw
                    case rel => exact ⟨i + 1, by omega, by have := HU.out; simp only [Value.int.injEq, true_and]; omega, by go_num, by trivial⟩
                    case measure => simp [intOf]; omega
                  · have hinI : ¬ (i : Int) < (ns.length : Int) := by omega
                    obtain rfl : i = ns.length := by omega
                    obtain ⟨k, hk, hkn⟩ := mask16_mod late n (by omega)
                    obtain ⟨hgo, hold⟩ := RI.out.old k hkn
                    have hold1 : w1.cell? ⟨go, k, none⟩ = some (.string ⟨(carB ⟨3, 1, 1, 1, qs 5 0 n⟩ (1 + k) (pk 5 k)).toArray⟩) := (World.cell?_of_block (a := ⟨go, k, none⟩) (HF1.out.block go hgo)).trans hold
                    have hTK := anw4 (m := m) hn hkn r
                    obtain ⟨p, hp⟩ : ∃ p, carB ⟨3, 1, 1, 1, qs 5 0 n⟩ (1 + k) (pk 5 k) = p := ⟨_, rfl⟩
                    rw [hp] at hold1 hTK
                    have hpl : p.length ≤ 1048584 := by rw [← hp]; exact packN_len _
                    have CK := Hid.mk (takT_any HT1.out.swap HL1.out p (by omega))
                    unfold TakT at CK
                    rw [hTK] at CK
                    obtain ⟨ge, HGE⟩ : ∃ ge, Hid (ge = gr + ns.length) := ⟨_, Hid.mk rfl⟩
                    rw [← HGE.out]
                    have hkI : (k : Int) < (n : Int) := by omega
                    clear hold hTK hp HPC
                    go_wp2_with fail
                    refine CK.out.mono ?_
                    clear CK
                    rintro x w2 ⟨⟨a0, l0, c0, a1, l1, c1, rfl, hN, ho⟩, ht2, hf2⟩
                    rcases hN with ⟨-, hv⟩ | ⟨gn, n', s0, i0, d0, s1, i1, d1, s2, i2, d2, hn', -⟩
                    · rcases ho with ⟨-, hv2⟩ | ⟨g2, t2, ht', -⟩
                      · injection hv with e0 e1 e2
                        subst e0 e1 e2
                        injection hv2 with e0 e1 e2
                        subst e0 e1 e2
                        have ba : Below w2.heap.size w2 (w2.alloc (.cells #[.slice none 0 0, .slice none 0 0, .bool false] 50)) := (Below.refl _ _).alloc (Nat.le_refl _) _
                        have hF3 : Fr T1 w1 (w2.alloc (.cells #[.slice none 0 0, .slice none 0 0, .bool false] 50)) := hf2.next HL1.out ba
                        have HRI : Hid (RndI w w3 b1 b3 go n m T1 (r + 1) (w2.alloc (.cells #[.slice none 0 0, .slice none 0 0, .bool false] 50))) := Hid.mk ⟨(ht2.below ba).swap.sub (fun k hk => .inl hk), HL1.out.fr hF3, fun k hk => HS1.out k (RI.out.sub k hk), HB1.out.trans (hF3.below (fun k hk => HS1.out k (RI.out.sub k hk))), fun j hj => by
                          obtain ⟨h1, h2⟩ := RI.out.old j hj
                          exact ⟨HS1.out go h1, (World.cell?_of_block (a := ⟨go, j, none⟩) (hF3.block go (HS1.out go h1))).trans ((World.cell?_of_block (a := ⟨go, j, none⟩) (HF1.out.block go h1)).trans h2)⟩⟩
                        obtain ⟨⟨x0, x1, x2⟩, -⟩ := three_cells (box_at w2 (.cells #[.slice none 0 0, .slice none 0 0, .bool false] 50))
                        have HG2 : Hid (ge = gg m (r + 1)) := Hid.mk (by have := HGE.out; have := HNL.out; omega)
                        clear ba hF3 ht2 hf2
                        go_wp2
                        go_roundw
                        case rel => exact ⟨r + 1, T1, by omega, by rw [h0]; rfl, by rw [HG2.out], by go_num, HRI.out⟩
                        case measure => simp [intOf]; omega
                      · cases ht'
                    · cases hn'
              ·
                have HTR : Hid (tR r = false) := Hid.mk (by match r, h0 with | 0, h => exact absurd rfl h | _ + 1, _ => rfl)
                have CC := Hid.mk (carry_law ri.two ri.low)
                unfold CarE at CC
                rw [anw3 hm, HTR.out] at CC
                obtain ⟨ns, hns⟩ : ∃ ns, lR m r = ns := ⟨_, rfl⟩
                rw [hns] at CC
                have HNS : Hid (∀ (i : Nat) z, ns[i]? = some z → z = nk 7 (gg m r + i)) := Hid.mk (by rw [← hns]; exact lR_get m r)
                have HNL : Hid (gg m r + ns.length = gg m (r + 1)) := Hid.mk (by rw [← hns]; exact lR_len m r)
                have hnl : ns.length ≤ 16 := by rw [← hns]; exact lR_le hm r
                have RI := Hid.mk ri
                have hgb : gg m r ≤ 16 := gg_le hm r
                obtain ⟨gr, hgr⟩ : ∃ gr, gg m r = gr := ⟨_, rfl⟩
                rw [hgr] at HNS HNL hgb
                rw [hgr]
                have HTT : Hid (r ≠ 0 → gt r = gt (r + 1)) := Hid.mk (fun h => by unfold gt; rw [if_neg h, if_neg (by omega)])
                clear hns ri hgr
                go_wp2_with fail
                refine CC.out.mono ?_
                clear CC
                rintro x w1 ⟨v, T1, rfl, ht1, hsub1, hlow1, hf1, hpay⟩
                obtain ⟨cs, hrow, hrT, hcs⟩ := hpay
                obtain ⟨va, vc, hv⟩ := own_slice hrow
                subst hv
                have HPC : Hid (∀ i, i < ns.length → ∃ gv gi oi ic, va = some ⟨gv, 0, none⟩ ∧ w1.cell? ⟨gv, i * 4, none⟩ = some (.int .i64 7) ∧ w1.cell? ⟨gv, i * 4 + 1, none⟩ = some (.slice (some ⟨gi, oi, none⟩) 1 ic) ∧ w1.cell? ⟨gi, oi, none⟩ = some (.int .i64 ((gr + i : Nat) : Int))) := Hid.mk (fun i hi => by
                  obtain ⟨z, hz⟩ : ∃ z, ns[i]? = some z := ⟨_, List.getElem?_eq_getElem hi⟩
                  obtain ⟨k1, vn, k2, k3⟩ := hcs i z hz
                  obtain rfl := HNS.out i z hz
                  rcases hrow.2 with ⟨_, h0⟩ | ⟨gv, cap, cur, e1, e2, e3, _⟩
                  · omega
                  · injection e1 with e1
                    rcases k3 with ⟨_, _, _, k3⟩ | ⟨gi, oi, ic, cur2, fz, k4, _, k5, k6⟩
                    · simp [nk] at k3
                    · subst k4
                      refine ⟨gv, gi, oi, ic, e1, ?_, ?_, ?_⟩
                      · rw [e1] at hrow
                        rw [hrow.cellAt (i * 4) (by omega)]
                        exact k1
                      · rw [e1] at hrow
                        rw [hrow.cellAt (i * 4 + 1) (by omega)]
                        exact k2
                      · simp only [World.cell?, k5]
                        have := k6 0 _ rfl
                        rwa [Nat.add_zero] at this)
                have HT1 := Hid.mk ht1
                have HS1 := Hid.mk hsub1
                have HL1 := Hid.mk hlow1
                have HF1 := Hid.mk hf1
                have HB1 : Hid (Below w.heap.size w w1) := Hid.mk (RI.out.bel.trans (hf1.below RI.out.sub))
                clear ht1 hsub1 hlow1 hf1 hcs hrow hrT
                go_wp2_with fail
                go_loopw [21, 25] (fun cg ci wr => ∃ i : Nat, i ≤ ns.length ∧ cg = .int .i64 ((gr + i : Nat) : Int) ∧ ci = .int .i64 i ∧ wr = w1) (fun _ ci _ => ns.length - (intOf ci).toNat)
                case atStart => exact ⟨0, by omega, rfl, rfl, rfl⟩
                case round =>
                  obtain ⟨i, hi, rfl, rfl, hwr⟩ := hrel
                  rw [hwr]
                  clear hwr wr
                  by_cases hin : i < ns.length
                  · have hinI : (i : Int) < (ns.length : Int) := by omega
                    obtain ⟨gv, gi, oi, ic, rfl, p1, p2, p3⟩ := HPC.out i hin
                    obtain ⟨u, HU⟩ : ∃ u, Hid (u = gr + i) := ⟨_, Hid.mk rfl⟩
                    rw [← HU.out] at p3
                    rw [← HU.out]
                    have hub : u ≤ 100 := by have := HU.out; omega
                    go_wp2
                    go_roundw
                    case rel => exact ⟨i + 1, by omega, by have := HU.out; simp only [Value.int.injEq, true_and]; omega, by go_num, by trivial⟩
                    case measure => simp [intOf]; omega
                  · have hinI : ¬ (i : Int) < (ns.length : Int) := by omega
                    obtain rfl : i = ns.length := by omega
                    obtain ⟨k, hk, hkn⟩ := mask16_mod late n (by omega)
                    obtain ⟨hgo, hold⟩ := RI.out.old k hkn
                    have hold1 : w1.cell? ⟨go, k, none⟩ = some (.string ⟨(carB ⟨3, 1, 1, 1, qs 5 0 n⟩ (1 + k) (pk 5 k)).toArray⟩) := (World.cell?_of_block (a := ⟨go, k, none⟩) (HF1.out.block go hgo)).trans hold
                    have hTK := anw4 (m := m) hn hkn r
                    obtain ⟨p, hp⟩ : ∃ p, carB ⟨3, 1, 1, 1, qs 5 0 n⟩ (1 + k) (pk 5 k) = p := ⟨_, rfl⟩
                    rw [hp] at hold1 hTK
                    have hpl : p.length ≤ 1048584 := by rw [← hp]; exact packN_len _
                    have CK := Hid.mk (takT_any HT1.out.swap HL1.out p (by omega))
                    unfold TakT at CK
                    rw [hTK] at CK
                    obtain ⟨ge, HGE⟩ : ∃ ge, Hid (ge = gr + ns.length) := ⟨_, Hid.mk rfl⟩
                    rw [← HGE.out]
                    have hkI : (k : Int) < (n : Int) := by omega
                    clear hold hTK hp HPC
                    go_wp2_with fail
                    refine CK.out.mono ?_
                    clear CK
                    rintro x w2 ⟨⟨a0, l0, c0, a1, l1, c1, rfl, hN, ho⟩, ht2, hf2⟩
                    rcases hN with ⟨-, hv⟩ | ⟨gn, n', s0, i0, d0, s1, i1, d1, s2, i2, d2, hn', -⟩
                    · rcases ho with ⟨-, hv2⟩ | ⟨g2, t2, ht', -⟩
                      · injection hv with e0 e1 e2
                        subst e0 e1 e2
                        injection hv2 with e0 e1 e2
                        subst e0 e1 e2
                        have ba : Below w2.heap.size w2 (w2.alloc (.cells #[.slice none 0 0, .slice none 0 0, .bool false] 50)) := (Below.refl _ _).alloc (Nat.le_refl _) _
                        have hF3 : Fr T1 w1 (w2.alloc (.cells #[.slice none 0 0, .slice none 0 0, .bool false] 50)) := hf2.next HL1.out ba
                        have HRI : Hid (RndI w w3 b1 b3 go n m T1 (r + 1) (w2.alloc (.cells #[.slice none 0 0, .slice none 0 0, .bool false] 50))) := Hid.mk ⟨(ht2.below ba).swap.sub (fun k hk => .inl hk), HL1.out.fr hF3, fun k hk => HS1.out k (RI.out.sub k hk), HB1.out.trans (hF3.below (fun k hk => HS1.out k (RI.out.sub k hk))), fun j hj => by
                          obtain ⟨h1, h2⟩ := RI.out.old j hj
                          exact ⟨HS1.out go h1, (World.cell?_of_block (a := ⟨go, j, none⟩) (hF3.block go (HS1.out go h1))).trans ((World.cell?_of_block (a := ⟨go, j, none⟩) (HF1.out.block go h1)).trans h2)⟩⟩
                        obtain ⟨⟨x0, x1, x2⟩, -⟩ := three_cells (box_at w2 (.cells #[.slice none 0 0, .slice none 0 0, .bool false] 50))
                        have HG2 : Hid (ge = gg m (r + 1)) := Hid.mk (by have := HGE.out; have := HNL.out; omega)
                        clear ba hF3 ht2 hf2
                        go_wp2
                        go_roundw
                        case rel => exact ⟨r + 1, T1, by omega, by rw [HTT.out h0], by rw [HG2.out], by go_num, HRI.out⟩
                        case measure => simp [intOf]; omega
                      · cases ht'
                    · cases hn'
            · have hrI : ¬ (r : Int) < 4 := by omega
              obtain rfl : r = 4 := by omega
              have C1 := Hid.mk (waitsT_any ri.two.swap)
              have C2 := Hid.mk (otherT_any ri.two.swap)
              have C3 := Hid.mk (waitsT_any ri.two)
              have CA := Hid.mk (awake_any wz)
              have e1 : (aR n m 4).q.length = 0 := rfl
              have e2 : (aR n m 4).ot = 4 := rfl
              have e3 : (cR m 4).q.length = 0 := rfl
              have e4 : ((gt 4 : Nat) : Int) = 1 := rfl
              have e5 : ((gg m 4 : Nat) : Int) = (m : Int) := rfl
              rw [e1] at C1
              rw [e2] at C2
              rw [e3] at C3
              rw [e4, e5]
              have HBZ := Hid.mk ri.bel
              clear e1 e2 e3 e4 e5 ri
              go_wp2_with fail
              refine C1.out.mono ?_
              rintro x w2 ⟨rfl, hw⟩
              rw [hw]; clear hw w2 C1
              go_wp2_with fail
              refine C2.out.mono ?_
              rintro x w2 ⟨rfl, hw⟩
              rw [hw]; clear hw w2 C2
              go_wp2_with fail
              refine C3.out.mono ?_
              rintro x w2 ⟨rfl, hw⟩
              rw [hw]; clear hw w2 C3
              go_wp2_with fail
              refine CA.out.mono ?_
              rintro x w2 ⟨rfl, hb2⟩
              have HE : Hid (Below w.heap.size w w2) := Hid.mk (HBZ.out.trans (hb2.mono HBZ.out.size))
              clear hb2 CA
              go_wp2
              go_ret
              exact ⟨rfl, HE.out⟩
end Go.Proofs.Ytifmpcldiimdbaa
