/- Each packet goes to one node. -/
import Derived.Test.YtnkgbinogblemaaDBits
import Derived.Test.YtnkgbinogblemaaDToM
namespace Go.Proofs.Ytnkgbinogblemaa
open Go.RowKit

set_option maxRecDepth 100000 in
set_option maxHeartbeats 8000000 in
theorem fieldTo_walk (v2 : Value) (zs : List Int) (w : World) (h2 : IntZ (fun _ => True) w v2 zs) (h2c : zs.length ≤ 9223372036854775807 ∧ CapS v2 zs.length) :
    Calls Try.prog 6 #[v2] w fun e w' => e = .returned (.bool true) ∧ Below w.heap.size w w' := by
  obtain ⟨a2, c2, rfl⟩ := h2.slice
  have H2 := Hid.mk h2
  obtain ⟨n, hn⟩ : ∃ n, n = zs.length := ⟨_, rfl⟩
  have hnl := h2c.1
  rw [← hn] at H2 hnl ⊢
  have HN := Hid.mk hn
  have CN : Hid (Calls Try.prog 7 #[.int .i64 3] w (NewE 3 w)) := Hid.mk (new_any 3 w)
  unfold NewE at CN
  obtain ⟨S, hS⟩ : ∃ S : Nat → Prop, S = fun k => k < w.heap.size := ⟨_, rfl⟩
  have HL : Hid (Low S w) := Hid.mk (by rw [hS]; exact fun k hk => hk)
  have HSB : Hid (∀ w', Fr S w w' → Below w.heap.size w w') := Hid.mk (fun w' h => h.below (fun k hk => by rw [hS]; exact hk))
  have CAW := Hid.mk (fun w => awake_any w)
  clear h2 hn h2c hS
  go_enter Try.func6, Try.ntmps6
  go_wp2_with fail
  refine CN.out.mono ?_
  rintro e w1 ⟨hb1, ⟨h, -⟩ | ⟨b, rfl, nn, hn3, -, -, hf⟩⟩
  · exact absurd ⟨by omega, by omega⟩ h
  obtain rfl : nn = 3 := by omega
  have HF1 := Hid.mk (hf _ HL.out)
  have HR1 := Hid.mk (fr_below HL.out hb1)
  clear hf hn3 hb1 CN
  go_wp2_with fail
  go_loopw [5] (fun c wr => ∃ (i : Nat) (f : Fd), i ≤ 100 ∧ i ≤ n ∧ c = .int .i64 (i : Int) ∧ FB S wr b f ∧ f.nodes = 3 ∧ f.last ≤ i ∧ Fr S w wr) (fun c _ => 100 - (intOf c).toNat)
  case atStart => exact ⟨0, _, by omega, by omega, rfl, HF1.out, rfl, Nat.le_refl _, HR1.out⟩
  case round =>
    obtain ⟨i, f, hi3, hin, rfl, hF, hnd, hla, hFr⟩ := hrel
    obtain ⟨wx, hwx⟩ : ∃ wx, wx = wr := ⟨_, rfl⟩
    subst hwx
    have HF := Hid.mk hF
    have HFR := Hid.mk hFr
    have HND := Hid.mk hnd
    have HLX := Hid.mk (HL.out.fr hFr)
    have HLA := Hid.mk hla
    clear hF hFr hnd hla
    by_cases hlt : i < n
    · have hltI : (i : Int) < (n : Int) := by omega
      by_cases hlt3 : i < 100
      · have hlt3I : (i : Int) < 100 := by omega
        obtain ⟨zz, hzz⟩ : ∃ zz, zs[i]? = some zz := ⟨_, List.getElem?_eq_getElem (by rw [← HN.out]; exact hlt)⟩
        obtain ⟨g, o, rfl, _, _, hc⟩ := (H2.out.below (HSB.out _ HFR.out)).get hzz
        have p0 := getZ hc
        rw [Nat.mul_one] at p0
        clear hc hzz
        obtain ⟨x, hx, hx6⟩ := mask_nat zz
        obtain ⟨q, hq, hq3⟩ := mask3 x
        obtain ⟨ra, hra, hra', hra1, hra2⟩ := rem_any x 4 3 (by decide) (by decide)
        obtain ⟨rb, hrb, hrb', hrb1, hrb2⟩ := rem_any x 16 3 (by decide) (by decide)
        have hxa : 0 ≤ (x : Int) / 4 ∧ (x : Int) / 4 ≤ 65535 := by omega
        have hxb : 0 ≤ (x : Int) / 16 ∧ (x : Int) / 16 ≤ 65535 := by omega
        obtain ⟨hxa1, hxa2⟩ := hxa
        obtain ⟨hxb1, hxb2⟩ := hxb
        have hl9 : f.last < 10000 := by have := HLA.out; omega
        have CS := Hid.mk (send_any HF.out HLX.out ⟨0, ra, rb, bx⟩ ⟨hra1, by rw [HND.out]; exact hra2, hrb1, by rw [HND.out]; exact hrb2, by simp [bx]⟩ rfl hl9)
        simp only [bx] at CS
        have CP := Hid.mk (pick_any HF.out ((x : Int) / 4) (wf_range (by omega) (by omega)) (by omega))
        have HRE : Hid (∀ (w2 : World) (f2 : Fd), FB S w2 b f2 → Nxt f f2 → Fr S wx w2 → FB S w2 b f2 ∧ f2.nodes = 3 ∧ f2.last ≤ i + 1 ∧ Fr S w w2) := Hid.mk (fun w2 f2 h3 h1 h4 => ⟨h3, by rw [h1.nodes, HND.out], by have := h1.last; have := HLA.out; omega, HFR.out.trans h4⟩)
        rcases (show q = 0 ∨ q = 1 ∨ q = 2 ∨ q = 3 by omega) with rfl | rfl | rfl | rfl
        · go_wp2_with fail
          refine CS.out.mono ?_
          rintro e w2 ⟨rfl, hf2, hr2⟩
          obtain ⟨e1, e2, e3, e4⟩ := HRE.out w2 _ hf2 ⟨rfl, by simp [Fd.add]⟩ hr2
          have E1 := Hid.mk e1
          have E2 := Hid.mk (And.intro e2 (And.intro e3 e4))
          clear e1 e2 e3 e4 hf2 hr2 CS CP
          go_wp2
          go_roundw
          case rel => exact ⟨i + 1, _, by omega, by omega, by go_num, E1.out, E2.out⟩
          case measure => simp [intOf]; omega
        · go_wp2_with fail
          refine CS.out.mono ?_
          rintro e w2 ⟨rfl, hf2, hr2⟩
          obtain ⟨e1, e2, e3, e4⟩ := HRE.out w2 _ hf2 ⟨rfl, by simp [Fd.add]⟩ hr2
          have E1 := Hid.mk e1
          have E2 := Hid.mk (And.intro e2 (And.intro e3 e4))
          clear e1 e2 e3 e4 hf2 hr2 CS CP
          go_wp2
          go_roundw
          case rel => exact ⟨i + 1, _, by omega, by omega, by go_num, E1.out, E2.out⟩
          case measure => simp [intOf]; omega
        · go_wp2_with fail
          refine CP.out.mono ?_
          rintro e w2 ⟨rfl, hb2⟩
          have CC := Hid.mk (copyP_any (HF.out.below hb2) (HLX.out.below hb2) ((x : Int) / 4) (by omega))
          obtain ⟨pv, hpv⟩ : ∃ pv, pv = pickF f.l ((x : Int) / 4) := ⟨_, rfl⟩
          rw [← hpv] at CC ⊢
          have HR2 := Hid.mk (fr_below HLX.out hb2)
          clear hb2 hpv CP CS
          go_wp2_with fail
          refine CC.out.mono ?_
          rintro e w3 ⟨_, _, rfl, f3, hx3, hf3, hr3⟩
          obtain ⟨e1, e2, e3, e4⟩ := HRE.out w3 _ hf3 hx3 (HR2.out.trans hr3)
          have E1 := Hid.mk e1
          have E2 := Hid.mk (And.intro e2 (And.intro e3 e4))
          clear e1 e2 e3 e4 hf3 hr3 hx3 CC
          go_wp2
          go_roundw
          case rel => exact ⟨i + 1, _, by omega, by omega, by go_num, E1.out, E2.out⟩
          case measure => simp [intOf]; omega
        · go_wp2_with fail
          refine CP.out.mono ?_
          rintro e w2 ⟨rfl, hb2⟩
          have CC := Hid.mk (arriveP_any (HF.out.below hb2) (HLX.out.below hb2) ((x : Int) / 4) (by omega))
          obtain ⟨pv, hpv⟩ : ∃ pv, pv = pickF f.l ((x : Int) / 4) := ⟨_, rfl⟩
          rw [← hpv] at CC ⊢
          have HR2 := Hid.mk (fr_below HLX.out hb2)
          clear hb2 hpv CP CS
          go_wp2_with fail
          refine CC.out.mono ?_
          rintro e w3 ⟨_, _, rfl, f3, hx3, hf3, hr3⟩
          obtain ⟨e1, e2, e3, e4⟩ := HRE.out w3 _ hf3 hx3 (HR2.out.trans hr3)
          have E1 := Hid.mk e1
          have E2 := Hid.mk (And.intro e2 (And.intro e3 e4))
          clear e1 e2 e3 e4 hf3 hr3 hx3 CC
          go_wp2
          go_roundw
          case rel => exact ⟨i + 1, _, by omega, by omega, by go_num, E1.out, E2.out⟩
          case measure => simp [intOf]; omega
      · have hlt3I : ¬ (i : Int) < 100 := by omega
        have hl9 : f.last ≤ 100000 := by have := HLA.out; omega
        have CI := Hid.mk (ids_any HF.out hl9)
        go_wp2_with fail
        refine CI.out.mono ?_
        rintro e w3 ⟨va, rfl, hra3, hb3⟩
        obtain ⟨aa, ca, rfl⟩ := own_slice hra3
        obtain ⟨L0, hL0⟩ : ∃ L0, L0 = f.l.length := ⟨_, rfl⟩
        rw [← hL0]
        have HL0 := Hid.mk hL0
        have HF3 := Hid.mk (HF.out.below hb3)
        have HR3 := Hid.mk (HFR.out.trans (fr_below HLX.out hb3))
        have HOK := Hid.mk HF.out.ok
        have hL0b : L0 ≤ 100000 := by have := HF.out.ok.len; omega
        clear hra3 hb3 CI hL0
        go_wp2_with fail
        go_loopw [8, 9] (fun cn ck wr => ∃ (k m : Nat) (f2 : Fd), k ≤ 3 ∧ ck = .int .i64 (k : Int) ∧ cn = .int .i64 (m : Int) ∧ m + f2.l.length = L0 ∧ f2.l = upK f.l k ∧ FB S wr b f2 ∧ f2.nodes = 3 ∧ f2.last ≤ 100 ∧ Fr S w wr) (fun _ ck _ => 3 - (intOf ck).toNat)
        case atStart => exact ⟨0, 0, f, by omega, rfl, rfl, by rw [HL0.out]; omega, (upK_0 (fun p hp => (HOK.out.pk p hp).to0)).symm, HF3.out, HND.out, by have := HLA.out; omega, HR3.out⟩
        case round =>
          obtain ⟨k, m, f2, hk3, rfl, rfl, hm, hl2, hF2, hn2, hla2, hr2⟩ := hrel
          obtain ⟨wy, hwy⟩ : ∃ wy, wy = wr := ⟨_, rfl⟩
          subst hwy
          have HF2 := Hid.mk hF2
          have HM := Hid.mk hm
          have HL2 := Hid.mk hl2
          have HN2 := Hid.mk hn2
          have HLA2 := Hid.mk hla2
          have HR2 := Hid.mk hr2
          have HLY := Hid.mk (HL.out.fr hr2)
          have hmb : m ≤ 100000 := by omega
          clear hF2 hm hl2 hn2 hr2 hla2
          by_cases hk : k < 3
          · have hkI : (k : Int) < 3 := by omega
            have CT := Hid.mk (to_any HF2.out (k : Int) (by have := HLA2.out; omega))
            go_wp2_with fail
            refine CT.out.mono ?_
            rintro e w4 ⟨vl, rfl, hrow, hb4⟩
            obtain ⟨al, cl, rfl⟩ := own_slice hrow
            obtain ⟨t, ht⟩ : ∃ t, t = (T f2.l k).length := ⟨_, rfl⟩
            have hrow2 : w4.ownsRow wy.heap.size 3 1 (.slice al t cl) t (idCs (T f2.l k)) := by rw [ht]; exact hrow
            rw [show (toL f2.l (k : Int)).length = t from ht.symm]
            have HROW := Hid.mk hrow2
            have HT := Hid.mk ht
            have htb : t ≤ 100000 := by have := toL_len f2.l (k : Int); have h1 : t = (toL f2.l (k : Int)).length := ht; have := HM.out; omega
            obtain ⟨S2, hS2⟩ : ∃ S2, S2 = Plus S wy.heap.size w4.heap.size := ⟨_, rfl⟩
            have HS2 := Hid.mk hS2
            have HL4 : Hid (Low S2 w4) := Hid.mk (by rw [hS2]; exact HLY.out.plus hb4.size)
            have HF4 : Hid (FB S2 w4 b f2) := Hid.mk (by rw [hS2]; exact HF2.out.plus hb4)
            have HR4 := Hid.mk (fr_below HLY.out hb4)
            have HSUB : Hid (∀ j, S j → S2 j) := Hid.mk (fun j hj => by rw [hS2]; exact .inl hj)
            have HKEEP : Hid (∀ W, Fr S2 w4 W → W.ownsRow wy.heap.size 3 1 (.slice al t cl) t (idCs (T f2.l k))) := Hid.mk (fun W hW => owns_key HROW.out (fun g o hg ho => (hW.block g (by rw [hS2]; exact .inr (HROW.out.lt g hg))).trans ho))
            clear hrow hrow2 ht hb4 hS2 CT
            go_wp2_with fail
            go_loopw [11] (fun ci wr => ∃ (i : Nat) (f4 : Fd), i ≤ t ∧ ci = .int .i64 (i : Int) ∧ FB S2 wr b f4 ∧ Gone f2.l f4.l k i ∧ f4.nodes = 3 ∧ f4.last ≤ 100 ∧ Fr S2 w4 wr) (fun ci _ => t - (intOf ci).toNat)
            case atStart => exact ⟨0, f2, by omega, rfl, HF4.out, gone_0 _ _, HN2.out, HLA2.out, Fr.refl _ _⟩
            case round =>
              obtain ⟨i, f4, hit, rfl, hF5, hG, hn5, hla5, hr5⟩ := hrel
              obtain ⟨wz, hwz⟩ : ∃ wz, wz = wr := ⟨_, rfl⟩
              subst hwz
              have HF5 := Hid.mk hF5
              have HG := Hid.mk hG
              have HN5 := Hid.mk hn5
              have HLA5 := Hid.mk hla5
              have HR5 := Hid.mk hr5
              have HLZ := Hid.mk (HL4.out.fr hr5)
              clear hF5 hG hn5 hla5 hr5
              by_cases hi : i < t
              · have hiI : (i : Int) < (t : Int) := by omega
                obtain ⟨p, hp⟩ : ∃ p, (T f2.l k)[i]? = some p := ⟨_, List.getElem?_eq_getElem (by rw [← HT.out]; exact hi)⟩
                have hgal : ∃ g, al = some ⟨g, 0, none⟩ := by
                  rcases HROW.out.2 with ⟨_, h1⟩ | ⟨g, cap2, cur, e, _⟩
                  · omega
                  · injection e with e; exact ⟨g, e⟩
                obtain ⟨g, rfl⟩ := hgal
                have q0 := ids_get (HKEEP.out _ HR5.out) hp
                obtain ⟨a, c, hac, hpt, hgo⟩ := HG.out.next HF5.out.ok.up hp
                have CA := Hid.mk (arrive_any HF5.out HLZ.out hac (by have := HLA5.out; omega))
                unfold encP at CA
                rw [hpt] at CA
                obtain ⟨z, hz⟩ : ∃ z : Int, z = (p.id : Int) := ⟨_, rfl⟩
                obtain ⟨s, hs⟩ : ∃ s : ByteArray, s = ⟨p.bs.toArray⟩ := ⟨_, rfl⟩
                rw [← hz, ← hs] at CA
                rw [← hz] at q0
                have HPREV : Hid (∀ j, j + 1 = i → ∃ y : Int, (∀ W, Fr S2 w4 W → W.cell? ⟨g, j, none⟩ = some (.int .i64 y)) ∧ ¬ z ≤ y) := Hid.mk (fun j hj => by
                  obtain ⟨r, hr⟩ : ∃ r, (T f2.l k)[j]? = some r := ⟨_, List.getElem?_eq_getElem (by rw [← HT.out]; omega)⟩
                  refine ⟨(r.id : Int), fun W hW => ids_get (HKEEP.out W hW) hr, ?_⟩
                  have := T_rise HF2.out.ok.up hr (by rw [hj]; exact hp)
                  omega)
                have HCELL : Hid (∀ W, Fr S2 w4 W → W.cell? ⟨g, i, none⟩ = some (.int .i64 z)) := Hid.mk (fun W hW => by rw [hz]; exact ids_get (HKEEP.out W hW) hp)
                have HGO := Hid.mk hgo
                clear hp hac hpt hgo hz hs
                go_wp2_with fail
                refine CA.out.mono ?_
                rintro e w5 ⟨rfl, hf5, hr5⟩
                have b6 : Below w5.heap.size w5 (w5.alloc (.cells #[.int .i64 z, .int .i64 p.fr, .int .i64 (k : Int), .string s] 40)) := (Below.refl _ _).alloc (Nat.le_refl _) _
                have HF6 := Hid.mk (hf5.below (below_drew b6))
                have HD6 := Hid.mk (HR5.out.trans (hr5.trans (fr_below (HLZ.out.fr hr5) (below_drew b6))))
                have HR6 := Hid.mk (HR5.out.trans (hr5.trans (fr_below (HLZ.out.fr hr5) b6)))
                have x1 := HCELL.out _ HR6.out
                obtain ⟨⟨y0, y1, y2, y3⟩, -⟩ := four_cells (box_at w5 (.cells #[.int .i64 z, .int .i64 p.fr, .int .i64 (k : Int), .string s] 40))
                clear hf5 hr5 b6 CA q0
                cases i with
                | zero =>
                  go_wp2_with fail
                  go_region
                  go_wp2
                  go_roundw
                  case rel => exact ⟨0 + 1, _, by omega, by go_num, HF6.out, HGO.out, HN5.out, HLA5.out, HD6.out⟩
                  case measure => simp [intOf]; omega
                | succ j =>
                  obtain ⟨y, hy, hzy⟩ := HPREV.out j rfl
                  have x0 := hy _ HR6.out
                  have hj1 : ((j + 1 : Nat) : Int) - 1 = (j : Int) := by omega
                  clear hy
                  go_wp2_with fail
                  go_region
                  go_wp2
                  go_roundw
                  case rel => exact ⟨j + 1 + 1, _, by omega, by go_num, HF6.out, HGO.out, HN5.out, HLA5.out, HD6.out⟩
                  case measure => simp [intOf]; omega
              · have hiI : ¬ (i : Int) < (t : Int) := by omega
                have hie : i = t := by omega
                have HEND : Hid (f4.l = upK f.l (k + 1)) := Hid.mk (by
                  have := HG.out
                  rw [hie, HT.out] at this
                  rw [this.end_, HL2.out, notK_up])
                have HLEN : Hid (m + t + f4.l.length = L0) := Hid.mk (by
                  have h1 := len_up f.l k
                  rw [← HL2.out, ← HEND.out, ← HT.out] at h1
                  have := HM.out
                  omega)
                have HF7 := Hid.mk (HF5.out.sub HSUB.out)
                have HR7 := Hid.mk (HR2.out.trans (HR4.out.trans (HR5.out.sub HSUB.out)))
                clear hie
                go_wp2
                go_roundw
                case rel => exact ⟨k + 1, m + t, f4, by omega, by go_num, by go_num, HLEN.out, HEND.out, HF7.out, HN5.out, HLA5.out, HR7.out⟩
                case measure => simp [intOf]; omega
          · have hkI : ¬ (k : Int) < 3 := by omega
            have hke : k = 3 := by omega
            have hnil : f2.l = [] := by rw [HL2.out, hke]; exact upK_3 (fun p hp => by have := (HOK.out.pk p hp).to1; rw [HND.out] at this; exact this)
            have hmL : m = L0 := by have := HM.out; rw [hnil] at this; simpa using this
            subst hmL
            have CI := Hid.mk (ids_any HF2.out (by have := HLA2.out; omega))
            rw [hnil] at CI
            have HNIL := Hid.mk hnil
            clear hnil hke
            go_wp2_with fail
            refine CI.out.mono ?_
            rintro e w5 ⟨v5, rfl, hr5, hb5⟩
            obtain ⟨a5, c5, rfl⟩ := own_slice hr5
            have HF5 := Hid.mk (HF2.out.below hb5)
            have HR5 := Hid.mk (HR2.out.trans (fr_below HLY.out hb5))
            have CP := Hid.mk (pick_any HF5.out 3 (by decide) (by have := HLA2.out; omega))
            rw [HNIL.out, pickF_nil] at CP
            clear hr5 hb5 CI
            go_wp2_with fail
            refine CP.out.mono ?_
            rintro e w6 ⟨rfl, hb6⟩
            have HB6 : Hid (Below w.heap.size w w6) := Hid.mk ((HSB.out _ HR5.out).trans (hb6.mono (HSB.out _ HR5.out).size))
            have C := Hid.mk (CAW.out w6)
            clear hb6 CP
            go_wp2_with fail
            refine C.out.mono ?_
            rintro e w7 ⟨rfl, hb7⟩
            have HB7 : Hid (Below w.heap.size w w7) := Hid.mk (HB6.out.trans (hb7.mono HB6.out.size))
            clear hb7 C
            go_wp2
            go_ret
            exact ⟨rfl, HB7.out⟩
    · have hltI : ¬ (i : Int) < (n : Int) := by omega
      have hl9 : f.last ≤ 100000 := by have := HLA.out; omega
      have CI := Hid.mk (ids_any HF.out hl9)
      go_wp2_with fail
      refine CI.out.mono ?_
      rintro e w3 ⟨va, rfl, hra3, hb3⟩
      obtain ⟨aa, ca, rfl⟩ := own_slice hra3
      obtain ⟨L0, hL0⟩ : ∃ L0, L0 = f.l.length := ⟨_, rfl⟩
      rw [← hL0]
      have HL0 := Hid.mk hL0
      have HF3 := Hid.mk (HF.out.below hb3)
      have HR3 := Hid.mk (HFR.out.trans (fr_below HLX.out hb3))
      have HOK := Hid.mk HF.out.ok
      have hL0b : L0 ≤ 100000 := by have := HF.out.ok.len; omega
      clear hra3 hb3 CI hL0
      go_wp2_with fail
      go_loopw [8, 9] (fun cn ck wr => ∃ (k m : Nat) (f2 : Fd), k ≤ 3 ∧ ck = .int .i64 (k : Int) ∧ cn = .int .i64 (m : Int) ∧ m + f2.l.length = L0 ∧ f2.l = upK f.l k ∧ FB S wr b f2 ∧ f2.nodes = 3 ∧ f2.last ≤ 100 ∧ Fr S w wr) (fun _ ck _ => 3 - (intOf ck).toNat)
      case atStart => exact ⟨0, 0, f, by omega, rfl, rfl, by rw [HL0.out]; omega, (upK_0 (fun p hp => (HOK.out.pk p hp).to0)).symm, HF3.out, HND.out, by have := HLA.out; omega, HR3.out⟩
      case round =>
        obtain ⟨k, m, f2, hk3, rfl, rfl, hm, hl2, hF2, hn2, hla2, hr2⟩ := hrel
        obtain ⟨wy, hwy⟩ : ∃ wy, wy = wr := ⟨_, rfl⟩
        subst hwy
        have HF2 := Hid.mk hF2
        have HM := Hid.mk hm
        have HL2 := Hid.mk hl2
        have HN2 := Hid.mk hn2
        have HLA2 := Hid.mk hla2
        have HR2 := Hid.mk hr2
        have HLY := Hid.mk (HL.out.fr hr2)
        have hmb : m ≤ 100000 := by omega
        clear hF2 hm hl2 hn2 hr2 hla2
        by_cases hk : k < 3
        · have hkI : (k : Int) < 3 := by omega
          have CT := Hid.mk (to_any HF2.out (k : Int) (by have := HLA2.out; omega))
          go_wp2_with fail
          refine CT.out.mono ?_
          rintro e w4 ⟨vl, rfl, hrow, hb4⟩
          obtain ⟨al, cl, rfl⟩ := own_slice hrow
          obtain ⟨t, ht⟩ : ∃ t, t = (T f2.l k).length := ⟨_, rfl⟩
          have hrow2 : w4.ownsRow wy.heap.size 3 1 (.slice al t cl) t (idCs (T f2.l k)) := by rw [ht]; exact hrow
          rw [show (toL f2.l (k : Int)).length = t from ht.symm]
          have HROW := Hid.mk hrow2
          have HT := Hid.mk ht
          have htb : t ≤ 100000 := by have := toL_len f2.l (k : Int); have h1 : t = (toL f2.l (k : Int)).length := ht; have := HM.out; omega
          obtain ⟨S2, hS2⟩ : ∃ S2, S2 = Plus S wy.heap.size w4.heap.size := ⟨_, rfl⟩
          have HS2 := Hid.mk hS2
          have HL4 : Hid (Low S2 w4) := Hid.mk (by rw [hS2]; exact HLY.out.plus hb4.size)
          have HF4 : Hid (FB S2 w4 b f2) := Hid.mk (by rw [hS2]; exact HF2.out.plus hb4)
          have HR4 := Hid.mk (fr_below HLY.out hb4)
          have HSUB : Hid (∀ j, S j → S2 j) := Hid.mk (fun j hj => by rw [hS2]; exact .inl hj)
          have HKEEP : Hid (∀ W, Fr S2 w4 W → W.ownsRow wy.heap.size 3 1 (.slice al t cl) t (idCs (T f2.l k))) := Hid.mk (fun W hW => owns_key HROW.out (fun g o hg ho => (hW.block g (by rw [hS2]; exact .inr (HROW.out.lt g hg))).trans ho))
          clear hrow hrow2 ht hb4 hS2 CT
          go_wp2_with fail
          go_loopw [11] (fun ci wr => ∃ (i : Nat) (f4 : Fd), i ≤ t ∧ ci = .int .i64 (i : Int) ∧ FB S2 wr b f4 ∧ Gone f2.l f4.l k i ∧ f4.nodes = 3 ∧ f4.last ≤ 100 ∧ Fr S2 w4 wr) (fun ci _ => t - (intOf ci).toNat)
          case atStart => exact ⟨0, f2, by omega, rfl, HF4.out, gone_0 _ _, HN2.out, HLA2.out, Fr.refl _ _⟩
          case round =>
            obtain ⟨i, f4, hit, rfl, hF5, hG, hn5, hla5, hr5⟩ := hrel
            obtain ⟨wz, hwz⟩ : ∃ wz, wz = wr := ⟨_, rfl⟩
            subst hwz
            have HF5 := Hid.mk hF5
            have HG := Hid.mk hG
            have HN5 := Hid.mk hn5
            have HLA5 := Hid.mk hla5
            have HR5 := Hid.mk hr5
            have HLZ := Hid.mk (HL4.out.fr hr5)
            clear hF5 hG hn5 hla5 hr5
            by_cases hi : i < t
            · have hiI : (i : Int) < (t : Int) := by omega
              obtain ⟨p, hp⟩ : ∃ p, (T f2.l k)[i]? = some p := ⟨_, List.getElem?_eq_getElem (by rw [← HT.out]; exact hi)⟩
              have hgal : ∃ g, al = some ⟨g, 0, none⟩ := by
                rcases HROW.out.2 with ⟨_, h1⟩ | ⟨g, cap2, cur, e, _⟩
                · omega
                · injection e with e; exact ⟨g, e⟩
              obtain ⟨g, rfl⟩ := hgal
              have q0 := ids_get (HKEEP.out _ HR5.out) hp
              obtain ⟨a, c, hac, hpt, hgo⟩ := HG.out.next HF5.out.ok.up hp
              have CA := Hid.mk (arrive_any HF5.out HLZ.out hac (by have := HLA5.out; omega))
              unfold encP at CA
              rw [hpt] at CA
              obtain ⟨z, hz⟩ : ∃ z : Int, z = (p.id : Int) := ⟨_, rfl⟩
              obtain ⟨s, hs⟩ : ∃ s : ByteArray, s = ⟨p.bs.toArray⟩ := ⟨_, rfl⟩
              rw [← hz, ← hs] at CA
              rw [← hz] at q0
              have HPREV : Hid (∀ j, j + 1 = i → ∃ y : Int, (∀ W, Fr S2 w4 W → W.cell? ⟨g, j, none⟩ = some (.int .i64 y)) ∧ ¬ z ≤ y) := Hid.mk (fun j hj => by
                obtain ⟨r, hr⟩ : ∃ r, (T f2.l k)[j]? = some r := ⟨_, List.getElem?_eq_getElem (by rw [← HT.out]; omega)⟩
                refine ⟨(r.id : Int), fun W hW => ids_get (HKEEP.out W hW) hr, ?_⟩
                have := T_rise HF2.out.ok.up hr (by rw [hj]; exact hp)
                omega)
              have HCELL : Hid (∀ W, Fr S2 w4 W → W.cell? ⟨g, i, none⟩ = some (.int .i64 z)) := Hid.mk (fun W hW => by rw [hz]; exact ids_get (HKEEP.out W hW) hp)
              have HGO := Hid.mk hgo
              clear hp hac hpt hgo hz hs
              go_wp2_with fail
              refine CA.out.mono ?_
              rintro e w5 ⟨rfl, hf5, hr5⟩
              have b6 : Below w5.heap.size w5 (w5.alloc (.cells #[.int .i64 z, .int .i64 p.fr, .int .i64 (k : Int), .string s] 40)) := (Below.refl _ _).alloc (Nat.le_refl _) _
              have HF6 := Hid.mk (hf5.below (below_drew b6))
              have HD6 := Hid.mk (HR5.out.trans (hr5.trans (fr_below (HLZ.out.fr hr5) (below_drew b6))))
              have HR6 := Hid.mk (HR5.out.trans (hr5.trans (fr_below (HLZ.out.fr hr5) b6)))
              have x1 := HCELL.out _ HR6.out
              obtain ⟨⟨y0, y1, y2, y3⟩, -⟩ := four_cells (box_at w5 (.cells #[.int .i64 z, .int .i64 p.fr, .int .i64 (k : Int), .string s] 40))
              clear hf5 hr5 b6 CA q0
              cases i with
              | zero =>
                go_wp2_with fail
                go_region
                go_wp2
                go_roundw
                case rel => exact ⟨0 + 1, _, by omega, by go_num, HF6.out, HGO.out, HN5.out, HLA5.out, HD6.out⟩
                case measure => simp [intOf]; omega
              | succ j =>
                obtain ⟨y, hy, hzy⟩ := HPREV.out j rfl
                have x0 := hy _ HR6.out
                have hj1 : ((j + 1 : Nat) : Int) - 1 = (j : Int) := by omega
                clear hy
                go_wp2_with fail
                go_region
                go_wp2
                go_roundw
                case rel => exact ⟨j + 1 + 1, _, by omega, by go_num, HF6.out, HGO.out, HN5.out, HLA5.out, HD6.out⟩
                case measure => simp [intOf]; omega
            · have hiI : ¬ (i : Int) < (t : Int) := by omega
              have hie : i = t := by omega
              have HEND : Hid (f4.l = upK f.l (k + 1)) := Hid.mk (by
                have := HG.out
                rw [hie, HT.out] at this
                rw [this.end_, HL2.out, notK_up])
              have HLEN : Hid (m + t + f4.l.length = L0) := Hid.mk (by
                have h1 := len_up f.l k
                rw [← HL2.out, ← HEND.out, ← HT.out] at h1
                have := HM.out
                omega)
              have HF7 := Hid.mk (HF5.out.sub HSUB.out)
              have HR7 := Hid.mk (HR2.out.trans (HR4.out.trans (HR5.out.sub HSUB.out)))
              clear hie
              go_wp2
              go_roundw
              case rel => exact ⟨k + 1, m + t, f4, by omega, by go_num, by go_num, HLEN.out, HEND.out, HF7.out, HN5.out, HLA5.out, HR7.out⟩
              case measure => simp [intOf]; omega
        · have hkI : ¬ (k : Int) < 3 := by omega
          have hke : k = 3 := by omega
          have hnil : f2.l = [] := by rw [HL2.out, hke]; exact upK_3 (fun p hp => by have := (HOK.out.pk p hp).to1; rw [HND.out] at this; exact this)
          have hmL : m = L0 := by have := HM.out; rw [hnil] at this; simpa using this
          subst hmL
          have CI := Hid.mk (ids_any HF2.out (by have := HLA2.out; omega))
          rw [hnil] at CI
          have HNIL := Hid.mk hnil
          clear hnil hke
          go_wp2_with fail
          refine CI.out.mono ?_
          rintro e w5 ⟨v5, rfl, hr5, hb5⟩
          obtain ⟨a5, c5, rfl⟩ := own_slice hr5
          have HF5 := Hid.mk (HF2.out.below hb5)
          have HR5 := Hid.mk (HR2.out.trans (fr_below HLY.out hb5))
          have CP := Hid.mk (pick_any HF5.out 3 (by decide) (by have := HLA2.out; omega))
          rw [HNIL.out, pickF_nil] at CP
          clear hr5 hb5 CI
          go_wp2_with fail
          refine CP.out.mono ?_
          rintro e w6 ⟨rfl, hb6⟩
          have HB6 : Hid (Below w.heap.size w w6) := Hid.mk ((HSB.out _ HR5.out).trans (hb6.mono (HSB.out _ HR5.out).size))
          have C := Hid.mk (CAW.out w6)
          clear hb6 CP
          go_wp2_with fail
          refine C.out.mono ?_
          rintro e w7 ⟨rfl, hb7⟩
          have HB7 : Hid (Below w.heap.size w w7) := Hid.mk (HB6.out.trans (hb7.mono HB6.out.size))
          clear hb7 C
          go_wp2
          go_ret
          exact ⟨rfl, HB7.out⟩
end Go.Proofs.Ytnkgbinogblemaa
