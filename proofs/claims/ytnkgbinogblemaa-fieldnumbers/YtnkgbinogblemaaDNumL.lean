/- No number is given twice, and what arrives is what was sent. (Written by a program.) -/
import Derived.Test.YtnkgbinogblemaaDNumM
namespace Go.Proofs.Ytnkgbinogblemaa
open Go.RowKit

set_option maxRecDepth 100000 in
set_option maxHeartbeats 8000000 in
theorem fieldNumbers_walk (v2 : Value) (zs : List Int) (w : World) (h2 : IntZ (fun _ => True) w v2 zs) (h2c : zs.length ≤ 9223372036854775807 ∧ CapS v2 zs.length) :
    Calls Try.prog 4 #[v2] w fun e w' => e = .returned (.bool true) ∧ Below w.heap.size w w' := by
  obtain ⟨a2, c2, rfl⟩ := h2.slice
  have H2 := Hid.mk h2
  obtain ⟨n, hn⟩ : ∃ n, n = zs.length := ⟨_, rfl⟩
  have hnl := h2c.1
  rw [← hn] at H2 hnl ⊢
  have HN := Hid.mk hn
  have CN : Hid (Calls Try.prog 7 #[.int .i64 4] w (NewE 4 w)) := Hid.mk (new_any 4 w)
  unfold NewE at CN
  obtain ⟨S, hS⟩ : ∃ S : Nat → Prop, S = fun k => k < w.heap.size := ⟨_, rfl⟩
  have HL : Hid (Low S w) := Hid.mk (by rw [hS]; exact fun k hk => hk)
  have HSB : Hid (∀ k, k < w.heap.size → S k) := Hid.mk (by rw [hS]; exact fun k hk => hk)
  have CAW := Hid.mk (fun w => awake_any w)
  have hmk := make_texts
  obtain ⟨oM, hoM⟩ : ∃ o, o = Obj.cells (List.replicate 201 (.string ByteArray.empty)).toArray 9 (0, 0) := ⟨_, rfl⟩
  rw [← hoM] at hmk
  have HOM := Hid.mk hoM
  clear h2 hn h2c hS hoM
  go_enter Try.func4, Try.ntmps4
  go_wp2_with fail
  refine CN.out.mono ?_
  rintro e w1 ⟨hb1, ⟨h, -⟩ | ⟨b, rfl, nn, hn3, -, -, hf⟩⟩
  · exact absurd ⟨by omega, by omega⟩ h
  obtain rfl : nn = 4 := by omega
  have b2 : Below w1.heap.size w1 (w1.alloc oM) := (Below.refl _ _).alloc (Nat.le_refl _) _
  have hwh : Wh (w1.alloc oM) w1.heap.size [] := by rw [HOM.out]; exact wh_made w1
  obtain ⟨c, hc⟩ : ∃ c, c = w1.heap.size := ⟨_, rfl⟩
  obtain ⟨S2, hS2⟩ : ∃ S2, S2 = Plus S w1.heap.size (w1.alloc oM).heap.size := ⟨_, rfl⟩
  have HF1 : Hid (FB S2 (w1.alloc oM) b ⟨4, 0, []⟩) := Hid.mk (by rw [hS2]; exact (hf _ HL.out).plus b2)
  have HB1 : Hid (Below w.heap.size w (w1.alloc oM)) := Hid.mk (hb1.trans (b2.mono hb1.size))
  have HL1 : Hid (Low S2 (w1.alloc oM)) := Hid.mk (by rw [hS2]; exact (HL.out.below hb1).plus b2.size)
  have HSC : Hid (S2 c) := Hid.mk (by rw [hS2, hc]; exact .inr ⟨Nat.le_refl _, lt_of_block (box_at w1 oM)⟩)
  have HSS : Hid (∀ k, k < w.heap.size → S2 k) := Hid.mk (fun k hk => by rw [hS2]; exact .inl (HSB.out k hk))
  have HCW : Hid (w.heap.size ≤ c) := Hid.mk (by rw [hc]; exact hb1.size)
  have HW1 : Hid (Wh (w1.alloc oM) c []) := Hid.mk (by rw [hc]; exact hwh)
  clear hf hn3 hb1 CN b2 hwh hS2
  go_wp2_with fail
  rw [← hc]
  clear hc hmk
  go_loopw [6, 7, 8] (fun cl cu ci wr => ∃ (i : Nat) (f : Fd), i ≤ 200 ∧ i ≤ n ∧ ci = .int .i64 (i : Int) ∧ cl = .int .i64 (f.last : Int) ∧ cu = .int .i64 (f.l.length : Int) ∧ f.nodes = 4 ∧ f.last ≤ i ∧ FB S2 wr b f ∧ Wh wr c f.l ∧ Low S2 wr ∧ Below w.heap.size w wr) (fun _ _ ci _ => 200 - (intOf ci).toNat)
  case atStart => exact ⟨0, ⟨4, 0, []⟩, by omega, by omega, rfl, rfl, rfl, rfl, Nat.le_refl _, HF1.out, HW1.out, HL1.out, HB1.out⟩
  case round =>
    obtain ⟨i, f, hi3, hin, rfl, rfl, rfl, hnd, hla, hF, hW, hLw, hB⟩ := hrel
    obtain ⟨wx, hwx⟩ : ∃ wx, wx = wr := ⟨_, rfl⟩
    subst hwx
    have HF := Hid.mk hF
    have HW := Hid.mk hW
    have HND := Hid.mk hnd
    have HLX := Hid.mk hLw
    have HLA := Hid.mk hla
    have HB := Hid.mk hB
    have HID : Hid (∀ p ∈ f.l, 1 ≤ p.id ∧ p.id ≤ f.last) := Hid.mk (fun p hp => ⟨hF.ok.id1 p hp, hF.ok.id2 p hp⟩)
    obtain ⟨m, hm⟩ : ∃ m, m = f.l.length := ⟨_, rfl⟩
    obtain ⟨la, hl⟩ : ∃ la, la = f.last := ⟨_, rfl⟩
    rw [← hm, ← hl]
    have hlai : la ≤ i := by omega
    have hmi : m ≤ i := by have := hF.ok.len; omega
    have HM := Hid.mk hm
    have HLE := Hid.mk hl
    clear hF hW hnd hLw hla hB hm hl
    by_cases hlt : i < n
    · have hltI : (i : Int) < (n : Int) := by omega
      by_cases hlt3 : i < 200
      · have hlt3I : (i : Int) < 200 := by omega
        obtain ⟨zz, hzz⟩ : ∃ zz, zs[i]? = some zz := ⟨_, List.getElem?_eq_getElem (by rw [← HN.out]; exact hlt)⟩
        obtain ⟨g, o, rfl, _, _, hc⟩ := (H2.out.below HB.out).get hzz
        have p0 := getZ hc
        rw [Nat.mul_one] at p0
        clear hc hzz
        obtain ⟨x, hx, hx6⟩ := mask_nat zz
        obtain ⟨q, hq, hq3⟩ := mask3 x
        obtain ⟨ra, hra, hra1, hra2⟩ := mask3d x 4
        obtain ⟨rb, hrb, hrb1, hrb2⟩ := mask3d x 16
        have hxa : 0 ≤ (x : Int) / 4 ∧ (x : Int) / 4 ≤ 65535 := by omega
        have hxb : 0 ≤ (x : Int) / 16 ∧ (x : Int) / 16 ≤ 65535 := by omega
        obtain ⟨hxa1, hxa2⟩ := hxa
        obtain ⟨hxb1, hxb2⟩ := hxb
        have hl9 : f.last < 10000 := by have := HLA.out; omega
        have CP := Hid.mk (pick_any HF.out ((x : Int) / 4) (wf_range (by omega) (by omega)) (by omega))
        obtain ⟨pv, hpv⟩ : ∃ pv, pv = pickF f.l ((x : Int) / 4) := ⟨_, rfl⟩
        rw [← hpv] at CP
        have HPV := Hid.mk hpv
        clear hpv
        go_wp2_with fail
        refine CP.out.mono ?_
        rintro e w2 ⟨rfl, hb2⟩
        have HF2 := Hid.mk (HF.out.below hb2)
        have HW2 := Hid.mk (HW.out.below hb2)
        have HL2 := Hid.mk (HLX.out.below hb2)
        have HB2 := Hid.mk (HB.out.trans (hb2.mono HB.out.size))
        clear hb2 CP
        rcases (show q = 0 ∨ q = 1 ∨ q = 2 ∨ q = 3 by omega) with rfl | rfl | rfl | rfl
        · have hk1 : (97 : Int) + ((i % 16 : Nat) : Int) = ((97 + i % 16 : Nat) : Int) := by omega
          have hk2 : (97 : Int) + (i : Int) / 16 = ((97 + i / 16 : Nat) : Int) := by omega
          have hm15 := mask15 i
          obtain ⟨k1, hkk1⟩ : ∃ k1, k1 = 97 + i % 16 := ⟨_, rfl⟩
          obtain ⟨k2, hkk2⟩ : ∃ k2, k2 = 97 + i / 16 := ⟨_, rfl⟩
          obtain ⟨t1, ht1⟩ : ∃ t1 : Int, t1 = ((i % 16 : Nat) : Int) := ⟨_, rfl⟩
          obtain ⟨t2, ht2⟩ : ∃ t2 : Int, t2 = (i : Int) / 16 := ⟨_, rfl⟩
          have HT2 : Hid ((i : Int) / 16 = t2) := Hid.mk ht2.symm
          have hcv := conv_two w2 (97 + t1) (97 + t2) k1 k2 (by omega) (by omega) (by omega) (by omega)
          have h15 : bits .and .i64 (i : Int) 15 = t1 := by rw [hm15, ht1]
          have ht1b : 0 ≤ t1 ∧ t1 < 16 := by omega
          have ht2b : 0 ≤ t2 ∧ t2 < 16 := by omega
          obtain ⟨ht1c, ht1d⟩ := ht1b
          obtain ⟨ht2c, ht2d⟩ := ht2b
          have hu1 : (97 + t1) % 256 = 97 + t1 := by omega
          have hu2 : (97 + t2) % 256 = 97 + t2 := by omega
          have hu3 : (97 + (i : Int) / 16) % 256 = 97 + t2 := by omega
          obtain ⟨bs, hbs⟩ : ∃ bs : List UInt8, bs = [UInt8.ofNat k1, UInt8.ofNat k2] := ⟨_, rfl⟩
          rw [← hbs] at hcv
          have hbl : bs.length = 2 := by rw [hbs]; rfl
          have b3 : Below w2.heap.size w2 (w2.alloc (.cells #[.int .u8 (97 + t1), .int .u8 (97 + t2)] 5)) := (Below.refl _ _).alloc (Nat.le_refl _) _
          have CS := Hid.mk (send_any (HF2.out.below b3) (HL2.out.below b3) ⟨0, ra, rb, bs⟩ ⟨hra1, by rw [HND.out]; exact hra2, hrb1, by rw [HND.out]; exact hrb2, by simp only; omega⟩ rfl hl9)
          have HW3 := Hid.mk (HW2.out.below b3)
          have HL3 := Hid.mk (HL2.out.below b3)
          have HB3 := Hid.mk (HB2.out.trans (b3.mono HB2.out.size))
          obtain ⟨z, hz⟩ : ∃ z, z = f.last + 1 := ⟨_, rfl⟩
          rw [← hz] at CS
          obtain ⟨s, hs⟩ : ∃ s : ByteArray, s = ⟨bs.toArray⟩ := ⟨_, rfl⟩
          simp only [← hs] at CS hcv
          have hzI : (la : Int) + 1 = (z : Int) := by have := HLE.out; omega
          have hzb : z ≤ 200 := by have := HLE.out; omega
          have hzI2 : (z : Int) ≤ 200 := by omega
          obtain ⟨f3, hf3⟩ : ∃ f3, f3 = f.add ⟨0, ra, rb, bs⟩ := ⟨_, rfl⟩
          rw [← hf3] at CS
          have HP3 : Hid (f3.l = f.l ++ [⟨z, ra, rb, bs⟩]) := Hid.mk (by rw [hf3, hz]; rfl)
          have HN3 : Hid (f3.nodes = 4) := Hid.mk (by rw [hf3]; exact HND.out)
          have HZ3 : Hid (z = f3.last) := Hid.mk (by rw [hf3, hz]; rfl)
          have HA3 : Hid (f3.last ≤ i + 1) := Hid.mk (by rw [← HZ3.out]; have := HLE.out; omega)
          have HM2 : Hid ((f3.l.length : Int) = (m : Int) + 1) := Hid.mk (by rw [HP3.out, List.length_append, ← HM.out]; rfl)
          have HSE := Hid.mk hs
          have HZE := Hid.mk hz
          have hwu := wrap_u8
          clear hs hbs hbl hkk1 hkk2 ht1 ht2 hm15 hk1 hk2 b3 hz hf3
          go_wp2_with fail
          refine CS.out.mono ?_
          rintro e w4 ⟨rfl, hf4, hr4⟩
          have hw4 := HW3.out.fr hr4 HSC.out
          obtain ⟨⟨sx, x1⟩, x2⟩ := hw4.slot (j := z) (by omega)
          have HFQ : Hid (FB S2 (w4.setCell ⟨c, z, none⟩ (.string s)) b f3) := Hid.mk (wh_field hf4 HSC.out)
          have HWQ : Hid (Wh (w4.setCell ⟨c, z, none⟩ (.string s)) c f3.l) := Hid.mk (by
            rw [HP3.out, HSE.out]
            exact hw4.put (p := ⟨z, ra, rb, bs⟩) (by simp only; omega) (fun q hq => by have := HID.out q hq; have := HZE.out; simp only; omega))
          have HLQ : Hid (Low S2 (w4.setCell ⟨c, z, none⟩ (.string s))) := Hid.mk (fun k hk => by have := HL3.out.fr hr4 k hk; simpa using this)
          have HBQ : Hid (Below w.heap.size w (w4.setCell ⟨c, z, none⟩ (.string s))) := Hid.mk (set_belowW (HB3.out.trans (hr4.below HSS.out)) HCW.out)
          clear hf4 hr4 hw4 CS hcv
          have hm2q := HM2.out
          have CI := Hid.mk (ids_any HFQ.out (by have := HA3.out; omega))
          obtain ⟨m2, hm2⟩ : ∃ m2, m2 = f3.l.length := ⟨_, rfl⟩
          rw [← hm2] at CI hm2q
          have HME := Hid.mk hm2
          clear hm2
          go_wp2_with fail
          refine CI.out.mono ?_
          rintro e w9 ⟨v9, rfl, hr9, hb9⟩
          obtain ⟨a9, c9, rfl⟩ := own_slice hr9
          have HF9 := Hid.mk (HFQ.out.below hb9)
          have HW9 := Hid.mk (HWQ.out.below hb9)
          have HL9 := Hid.mk (HLQ.out.below hb9)
          have HB9 := Hid.mk (HBQ.out.trans (hb9.mono HBQ.out.size))
          clear hr9 hb9 CI
          go_wp2
          go_roundw
          case rel => exact ⟨i + 1, f3, by omega, by omega, by go_num, congrArg (fun k : Nat => Value.int .i64 (k : Int)) HZ3.out, congrArg (Value.int .i64) (by rw [← HME.out]; exact HM2.out.symm.trans (by rw [← HME.out])), HN3.out, HA3.out, HF9.out, HW9.out, HL9.out, HB9.out⟩
          case measure => simp [intOf]; omega
        · have hk1 : (97 : Int) + ((i % 16 : Nat) : Int) = ((97 + i % 16 : Nat) : Int) := by omega
          have hk2 : (97 : Int) + (i : Int) / 16 = ((97 + i / 16 : Nat) : Int) := by omega
          have hm15 := mask15 i
          obtain ⟨k1, hkk1⟩ : ∃ k1, k1 = 97 + i % 16 := ⟨_, rfl⟩
          obtain ⟨k2, hkk2⟩ : ∃ k2, k2 = 97 + i / 16 := ⟨_, rfl⟩
          obtain ⟨t1, ht1⟩ : ∃ t1 : Int, t1 = ((i % 16 : Nat) : Int) := ⟨_, rfl⟩
          obtain ⟨t2, ht2⟩ : ∃ t2 : Int, t2 = (i : Int) / 16 := ⟨_, rfl⟩
          have HT2 : Hid ((i : Int) / 16 = t2) := Hid.mk ht2.symm
          have hcv := conv_two w2 (97 + t1) (97 + t2) k1 k2 (by omega) (by omega) (by omega) (by omega)
          have h15 : bits .and .i64 (i : Int) 15 = t1 := by rw [hm15, ht1]
          have ht1b : 0 ≤ t1 ∧ t1 < 16 := by omega
          have ht2b : 0 ≤ t2 ∧ t2 < 16 := by omega
          obtain ⟨ht1c, ht1d⟩ := ht1b
          obtain ⟨ht2c, ht2d⟩ := ht2b
          have hu1 : (97 + t1) % 256 = 97 + t1 := by omega
          have hu2 : (97 + t2) % 256 = 97 + t2 := by omega
          have hu3 : (97 + (i : Int) / 16) % 256 = 97 + t2 := by omega
          obtain ⟨bs, hbs⟩ : ∃ bs : List UInt8, bs = [UInt8.ofNat k1, UInt8.ofNat k2] := ⟨_, rfl⟩
          rw [← hbs] at hcv
          have hbl : bs.length = 2 := by rw [hbs]; rfl
          have b3 : Below w2.heap.size w2 (w2.alloc (.cells #[.int .u8 (97 + t1), .int .u8 (97 + t2)] 5)) := (Below.refl _ _).alloc (Nat.le_refl _) _
          have CS := Hid.mk (send_any (HF2.out.below b3) (HL2.out.below b3) ⟨0, ra, rb, bs⟩ ⟨hra1, by rw [HND.out]; exact hra2, hrb1, by rw [HND.out]; exact hrb2, by simp only; omega⟩ rfl hl9)
          have HW3 := Hid.mk (HW2.out.below b3)
          have HL3 := Hid.mk (HL2.out.below b3)
          have HB3 := Hid.mk (HB2.out.trans (b3.mono HB2.out.size))
          obtain ⟨z, hz⟩ : ∃ z, z = f.last + 1 := ⟨_, rfl⟩
          rw [← hz] at CS
          obtain ⟨s, hs⟩ : ∃ s : ByteArray, s = ⟨bs.toArray⟩ := ⟨_, rfl⟩
          simp only [← hs] at CS hcv
          have hzI : (la : Int) + 1 = (z : Int) := by have := HLE.out; omega
          have hzb : z ≤ 200 := by have := HLE.out; omega
          have hzI2 : (z : Int) ≤ 200 := by omega
          obtain ⟨f3, hf3⟩ : ∃ f3, f3 = f.add ⟨0, ra, rb, bs⟩ := ⟨_, rfl⟩
          rw [← hf3] at CS
          have HP3 : Hid (f3.l = f.l ++ [⟨z, ra, rb, bs⟩]) := Hid.mk (by rw [hf3, hz]; rfl)
          have HN3 : Hid (f3.nodes = 4) := Hid.mk (by rw [hf3]; exact HND.out)
          have HZ3 : Hid (z = f3.last) := Hid.mk (by rw [hf3, hz]; rfl)
          have HA3 : Hid (f3.last ≤ i + 1) := Hid.mk (by rw [← HZ3.out]; have := HLE.out; omega)
          have HM2 : Hid ((f3.l.length : Int) = (m : Int) + 1) := Hid.mk (by rw [HP3.out, List.length_append, ← HM.out]; rfl)
          have HSE := Hid.mk hs
          have HZE := Hid.mk hz
          have hwu := wrap_u8
          clear hs hbs hbl hkk1 hkk2 ht1 ht2 hm15 hk1 hk2 b3 hz hf3
          go_wp2_with fail
          refine CS.out.mono ?_
          rintro e w4 ⟨rfl, hf4, hr4⟩
          have hw4 := HW3.out.fr hr4 HSC.out
          obtain ⟨⟨sx, x1⟩, x2⟩ := hw4.slot (j := z) (by omega)
          have HFQ : Hid (FB S2 (w4.setCell ⟨c, z, none⟩ (.string s)) b f3) := Hid.mk (wh_field hf4 HSC.out)
          have HWQ : Hid (Wh (w4.setCell ⟨c, z, none⟩ (.string s)) c f3.l) := Hid.mk (by
            rw [HP3.out, HSE.out]
            exact hw4.put (p := ⟨z, ra, rb, bs⟩) (by simp only; omega) (fun q hq => by have := HID.out q hq; have := HZE.out; simp only; omega))
          have HLQ : Hid (Low S2 (w4.setCell ⟨c, z, none⟩ (.string s))) := Hid.mk (fun k hk => by have := HL3.out.fr hr4 k hk; simpa using this)
          have HBQ : Hid (Below w.heap.size w (w4.setCell ⟨c, z, none⟩ (.string s))) := Hid.mk (set_belowW (HB3.out.trans (hr4.below HSS.out)) HCW.out)
          clear hf4 hr4 hw4 CS hcv
          have hm2q := HM2.out
          have CI := Hid.mk (ids_any HFQ.out (by have := HA3.out; omega))
          obtain ⟨m2, hm2⟩ : ∃ m2, m2 = f3.l.length := ⟨_, rfl⟩
          rw [← hm2] at CI hm2q
          have HME := Hid.mk hm2
          clear hm2
          go_wp2_with fail
          refine CI.out.mono ?_
          rintro e w9 ⟨v9, rfl, hr9, hb9⟩
          obtain ⟨a9, c9, rfl⟩ := own_slice hr9
          have HF9 := Hid.mk (HFQ.out.below hb9)
          have HW9 := Hid.mk (HWQ.out.below hb9)
          have HL9 := Hid.mk (HLQ.out.below hb9)
          have HB9 := Hid.mk (HBQ.out.trans (hb9.mono HBQ.out.size))
          clear hr9 hb9 CI
          go_wp2
          go_roundw
          case rel => exact ⟨i + 1, f3, by omega, by omega, by go_num, congrArg (fun k : Nat => Value.int .i64 (k : Int)) HZ3.out, congrArg (Value.int .i64) (by rw [← HME.out]; exact HM2.out.symm.trans (by rw [← HME.out])), HN3.out, HA3.out, HF9.out, HW9.out, HL9.out, HB9.out⟩
          case measure => simp [intOf]; omega
        · by_cases hnil : f.l = []
          · rw [HPV.out, hnil, pickF_nil] 
            clear HPV hnil
            go_wp2
            go_roundw
            case rel => exact ⟨i + 1, f, by omega, by omega, by go_num, by rw [HLE.out], by rw [HM.out], HND.out, by have := HLA.out; omega, HF2.out, HW2.out, HL2.out, HB2.out⟩
            case measure => simp [intOf]; omega
          · obtain ⟨p, -, hp, hpe⟩ := pickF_some hnil ((x : Int) / 4)
            rw [← HPV.out] at hpe
            obtain ⟨k, hk⟩ : ∃ k, k = p.id := ⟨_, rfl⟩
            rw [← hk] at hpe
            subst hpe
            have hkb : k ≤ la := by rw [hk, HLE.out]; exact (HID.out p hp).2
            have hkI : ¬ (la : Int) < (k : Int) := by omega
            have hkb2 : k ≤ 200 := by omega
            have hkI2 : (k : Int) ≤ 200 := by omega
            have hkI3 : (k : Int) < 201 := by omega
            have hk0 : ¬ (k : Int) < 0 := by omega
            obtain ⟨s, hs⟩ : ∃ s : ByteArray, s = ⟨p.bs.toArray⟩ := ⟨_, rfl⟩
            have HSE := Hid.mk hs
            have HK := Hid.mk hk
            clear HPV hnil
            have CC := Hid.mk (copy_any HF2.out HL2.out hp hl9)
            rw [← hk] at CC
            obtain ⟨z, hz⟩ : ∃ z, z = f.last + 1 := ⟨_, rfl⟩
            rw [← hz] at CC
            have hzI : (la : Int) + 1 = (z : Int) := by have := HLE.out; omega
            have hzb : z ≤ 200 := by have := HLE.out; omega
            have hzI2 : (z : Int) ≤ 200 := by omega
            obtain ⟨f3, hf3⟩ : ∃ f3, f3 = f.add p := ⟨_, rfl⟩
            rw [← hf3] at CC
            have HP3 : Hid (f3.l = f.l ++ [{ p with id := z }]) := Hid.mk (by rw [hf3, hz]; rfl)
            have HN3 : Hid (f3.nodes = 4) := Hid.mk (by rw [hf3]; exact HND.out)
            have HZ3 : Hid (z = f3.last) := Hid.mk (by rw [hf3, hz]; rfl)
            have HA3 : Hid (f3.last ≤ i + 1) := Hid.mk (by rw [← HZ3.out]; have := HLE.out; omega)
            have HM2 : Hid ((f3.l.length : Int) = (m : Int) + 1) := Hid.mk (by rw [HP3.out, List.length_append, ← HM.out]; rfl)
            have HZE := Hid.mk hz
            have HP := Hid.mk hp
            clear hs hz hf3 hk hp
            go_wp2_with fail
            refine CC.out.mono ?_
            rintro e w4 ⟨rfl, hf4, hr4⟩
            have hw4 := HW2.out.fr hr4 HSC.out
            obtain ⟨⟨sx, x1⟩, x2⟩ := hw4.slot (j := z) (by omega)
            have x3 := hw4.get HP.out
            rw [← HK.out, ← HSE.out] at x3
            have HFQ : Hid (FB S2 (w4.setCell ⟨c, z, none⟩ (.string s)) b f3) := Hid.mk (wh_field hf4 HSC.out)
            have HWQ : Hid (Wh (w4.setCell ⟨c, z, none⟩ (.string s)) c f3.l) := Hid.mk (by
              rw [HP3.out, HSE.out]
              exact hw4.put (p := { p with id := z }) (by simp only; omega) (fun q hq => by have := HID.out q hq; have := HZE.out; simp only; omega))
            have HLQ : Hid (Low S2 (w4.setCell ⟨c, z, none⟩ (.string s))) := Hid.mk (fun k hk => by have := HL2.out.fr hr4 k hk; simpa using this)
            have HBQ : Hid (Below w.heap.size w (w4.setCell ⟨c, z, none⟩ (.string s))) := Hid.mk (set_belowW (HB2.out.trans (hr4.below HSS.out)) HCW.out)
            clear hf4 hr4 hw4 CC
            have hm2q := HM2.out
            have CI := Hid.mk (ids_any HFQ.out (by have := HA3.out; omega))
            obtain ⟨m2, hm2⟩ : ∃ m2, m2 = f3.l.length := ⟨_, rfl⟩
            rw [← hm2] at CI hm2q
            have HME := Hid.mk hm2
            clear hm2
            go_wp2_with fail
            refine CI.out.mono ?_
            rintro e w9 ⟨v9, rfl, hr9, hb9⟩
            obtain ⟨a9, c9, rfl⟩ := own_slice hr9
            have HF9 := Hid.mk (HFQ.out.below hb9)
            have HW9 := Hid.mk (HWQ.out.below hb9)
            have HL9 := Hid.mk (HLQ.out.below hb9)
            have HB9 := Hid.mk (HBQ.out.trans (hb9.mono HBQ.out.size))
            clear hr9 hb9 CI
            go_wp2
            go_roundw
            case rel => exact ⟨i + 1, f3, by omega, by omega, by go_num, congrArg (fun k : Nat => Value.int .i64 (k : Int)) HZ3.out, congrArg (Value.int .i64) (by rw [← HME.out]; exact HM2.out.symm.trans (by rw [← HME.out])), HN3.out, HA3.out, HF9.out, HW9.out, HL9.out, HB9.out⟩
            case measure => simp [intOf]; omega
        · by_cases hnil : f.l = []
          · rw [HPV.out, hnil, pickF_nil] 
            clear HPV hnil
            go_wp2
            go_roundw
            case rel => exact ⟨i + 1, f, by omega, by omega, by go_num, by rw [HLE.out], by rw [HM.out], HND.out, by have := HLA.out; omega, HF2.out, HW2.out, HL2.out, HB2.out⟩
            case measure => simp [intOf]; omega
          · obtain ⟨p, -, hp, hpe⟩ := pickF_some hnil ((x : Int) / 4)
            rw [← HPV.out] at hpe
            obtain ⟨k, hk⟩ : ∃ k, k = p.id := ⟨_, rfl⟩
            rw [← hk] at hpe
            subst hpe
            have hkb : k ≤ la := by rw [hk, HLE.out]; exact (HID.out p hp).2
            have hkI : ¬ (la : Int) < (k : Int) := by omega
            have hkb2 : k ≤ 200 := by omega
            have hkI2 : (k : Int) ≤ 200 := by omega
            have hkI3 : (k : Int) < 201 := by omega
            have hk0 : ¬ (k : Int) < 0 := by omega
            obtain ⟨s, hs⟩ : ∃ s : ByteArray, s = ⟨p.bs.toArray⟩ := ⟨_, rfl⟩
            have HSE := Hid.mk hs
            have HK := Hid.mk hk
            clear HPV hnil
            obtain ⟨a, d, hac⟩ := List.append_of_mem hp
            have CA := Hid.mk (arrive_any HF2.out HL2.out hac (by omega))
            unfold encP at CA
            rw [← hk, ← hs] at CA
            obtain ⟨f3, hf3⟩ : ∃ f3 : Fd, f3 = ⟨f.nodes, f.last, a ++ d⟩ := ⟨_, rfl⟩
            rw [← hf3] at CA
            have HN3 : Hid (f3.nodes = 4) := Hid.mk (by rw [hf3]; exact HND.out)
            have HZ3 : Hid (la = f3.last) := Hid.mk (by rw [hf3, HLE.out])
            have HA3 : Hid (f3.last ≤ i + 1) := Hid.mk (by rw [← HZ3.out]; omega)
            have HM2 : Hid ((f3.l.length : Int) = (m : Int) - 1) := Hid.mk (by have := HM.out; rw [hac] at this; rw [hf3]; simp at this ⊢; omega)
            have HNO : Hid (¬ ∃ q ∈ f3.l, (q.id : Int) = (k : Int)) := Hid.mk (by
              have hu := HF2.out.ok.up
              rw [hac] at hu
              obtain ⟨u1, u2⟩ := up_cut hu
              rw [hf3, hk]
              rintro ⟨q, hq, e⟩
              rcases List.mem_append.1 hq with hq | hq
              · have := u1 q hq; omega
              · have := u2 q hq; omega)
            have HSUB : Hid (∀ q ∈ f3.l, q ∈ f.l) := Hid.mk (fun q hq => by rw [hf3] at hq; rw [hac]; rcases List.mem_append.1 hq with h | h <;> simp [h])
            have HP := Hid.mk hp
            have hwk := wf_small (k := k) (by omega)
            clear hs hf3 hk hp hac
            go_wp2_with fail
            refine CA.out.mono ?_
            rintro e w3 ⟨rfl, hf3, hr3⟩
            have b4 : Below w3.heap.size w3 (w3.alloc (.cells #[.int .i64 (k : Int), .int .i64 p.fr, .int .i64 p.to, .string s] 40)) := (Below.refl _ _).alloc (Nat.le_refl _) _
            have h4 := box_at w3 (.cells #[.int .i64 (k : Int), .int .i64 p.fr, .int .i64 p.to, .string s] 40)
            have HF4 := Hid.mk (hf3.below b4)
            have HW4 := Hid.mk ((HW2.out.fr hr3 HSC.out).below b4)
            have HL4 := Hid.mk ((HL2.out.fr hr3).below b4)
            have hb3 := HB2.out.trans (hr3.below HSS.out)
            have HB4 := Hid.mk (hb3.trans (b4.mono hb3.size))
            have CB := Hid.mk (arrive_not HF4.out (k : Int) hwk HNO.out)
            unfold encP pk0 at CB
            have H4 := Hid.mk h4
            have HLT := Hid.mk (lt_of_block h4)
            clear hf3 hr3 b4 h4 hb3 CA hwk
            go_wp2_with fail
            refine CB.out.mono ?_
            rintro e w5 ⟨rfl, hb5⟩
            have b6 : Below w5.heap.size w5 (w5.alloc zP) := (Below.refl _ _).alloc (Nat.le_refl _) _
            have b7 := hb5.trans (b6.mono hb5.size)
            have HB7 := Hid.mk b7
            have x3 := (HW4.out.below b7).get HP.out
            rw [← HK.out, ← HSE.out] at x3
            obtain ⟨⟨y0, y1, y2, y3⟩, -⟩ := four_cells ((b7.block _ HLT.out).trans H4.out)
            clear hb5 b6 b7 CB
            go_wp2_with fail
            go_quiet (fail)
            have HFQ := Hid.mk (HF4.out.below (below_drewN HB7.out nq))
            have HWQ := Hid.mk ((HW4.out.below (below_drewN HB7.out nq)).sub HSUB.out)
            have HLQ := Hid.mk (HL4.out.below (below_drewN HB7.out nq))
            have HBQ := Hid.mk (HB4.out.trans ((below_drewN HB7.out nq).mono HB4.out.size))
            have hm2q := HM2.out
            have CI := Hid.mk (ids_any HFQ.out (by have := HA3.out; omega))
            obtain ⟨m2, hm2⟩ : ∃ m2, m2 = f3.l.length := ⟨_, rfl⟩
            rw [← hm2] at CI hm2q
            have HME := Hid.mk hm2
            clear hm2
            go_wp2_with fail
            refine CI.out.mono ?_
            rintro e w9 ⟨v9, rfl, hr9, hb9⟩
            obtain ⟨a9, c9, rfl⟩ := own_slice hr9
            have HF9 := Hid.mk (HFQ.out.below hb9)
            have HW9 := Hid.mk (HWQ.out.below hb9)
            have HL9 := Hid.mk (HLQ.out.below hb9)
            have HB9 := Hid.mk (HBQ.out.trans (hb9.mono HBQ.out.size))
            clear hr9 hb9 CI
            go_wp2
            go_roundw
            case rel => exact ⟨i + 1, f3, by omega, by omega, by go_num, congrArg (fun k : Nat => Value.int .i64 (k : Int)) HZ3.out, congrArg (Value.int .i64) (by rw [← HME.out]; exact HM2.out.symm.trans (by rw [← HME.out])), HN3.out, HA3.out, HF9.out, HW9.out, HL9.out, HB9.out⟩
            case measure => simp [intOf]; omega
      · have hlt3I : ¬ (i : Int) < 200 := by omega
        have C := Hid.mk (CAW.out wx)
        go_wp2_with fail
        refine C.out.mono ?_
        rintro e w7 ⟨rfl, hb7⟩
        have HB7 : Hid (Below w.heap.size w w7) := Hid.mk (HB.out.trans (hb7.mono HB.out.size))
        clear hb7 C
        go_wp2
        go_ret
        exact ⟨rfl, HB7.out⟩
    · have hltI : ¬ (i : Int) < (n : Int) := by omega
      have C := Hid.mk (CAW.out wx)
      go_wp2_with fail
      refine C.out.mono ?_
      rintro e w7 ⟨rfl, hb7⟩
      have HB7 : Hid (Below w.heap.size w w7) := Hid.mk (HB.out.trans (hb7.mono HB.out.size))
      clear hb7 C
      go_wp2
      go_ret
      exact ⟨rfl, HB7.out⟩
end Go.Proofs.Ytnkgbinogblemaa
