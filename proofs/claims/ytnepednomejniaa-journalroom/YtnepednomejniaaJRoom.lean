/- The statement that a journal never has more bytes than its room. -/
import Derived.Test.YtnepednomejniaaJTwice
import Derived.Test.YtnepednomejniaaWLimits
namespace Go.Proofs.Ytnepednomejniaa
open Go.RowKit

def roomN (k : Nat) : NoteD := ⟨1, [], [List.replicate k 0], []⟩
theorem roomN_may (k : Nat) (h : k ≤ 65536) : (roomN k).may := by
  have e1 : sumL (roomN k).texts = k := by
    show ([List.replicate k (0 : UInt8)].map List.length).sum = k
    simp
  have e2 : sumR (roomN k).rows = 0 := rfl
  have e3 : cntR (roomN k).rows = 0 := rfl
  have e4 : (roomN k).texts.length = 1 := rfl
  have e5 : (roomN k).rows.length = 0 := rfl
  have e6 : (roomN k).nums.length = 0 := rfl
  have e7 : (roomN k).kind = 1 := rfl
  have ht : (roomN k).textsOk := ⟨by omega, by omega, by
    intro t ht
    have : t = List.replicate k 0 := List.mem_singleton.1 ht
    rw [this, List.length_replicate]; exact h, fun _ ht => absurd ht List.not_mem_nil⟩
  have hb := body_small (roomN k) ht (by omega)
  exact ⟨⟨by omega, by omega, by omega, fun _ ht => absurd ht List.not_mem_nil⟩, ht, by omega⟩
theorem roomN_at {w : World} {B k : Nat} {e : TypeId} {v : Value} (h : RowIn w B e v [.string ⟨(List.replicate k (0 : UInt8)).toArray⟩]) : NoteAt w (.agg #[.int .i64 1, .slice none 0 0, v, .slice none 0 0]) (roomN k) :=
  ⟨_, _, _, rfl, nil_ints w, strs_of_rowIn h (by show [List.replicate k (0 : UInt8)].length ≤ _; simp), nil_rows w⟩

set_option maxHeartbeats 4000000 in
set_option maxRecDepth 100000 in
theorem journalRoom_walk (room : Int) (vs : Value) (sizes : List Int) (w : World) (_ : (Lit.int .i64 room).wf = true) (hv : IntsAt w vs sizes) :
    Calls Try.prog 5 #[.int .i64 room, vs] w fun e w' => e = .returned (.bool true) ∧ Below w.heap.size w w' := by
  obtain ⟨hlen, ao, cap, rfl, hc⟩ := hv.parts
  have HC := Hid.mk hc
  clear hc hv
  obtain ⟨i4, hi4, hv0, hv1, hv2⟩ := info_parts info5
  obtain ⟨q, hq, hq2⟩ : ∃ q : Nat, bits .and .i64 room 1023 = (q : Int) ∧ q ≤ 1023 := ⟨(room % 1024).toNat, by rw [i64_mask room 10 1023 1024 (by omega) (by decide) (by decide)]; omega, by omega⟩
  have hS : Low (fun k => k < w.heap.size) w := fun k hk => hk
  obtain ⟨S, hSd⟩ : ∃ S : Nat → Prop, S = fun k => k < w.heap.size := ⟨_, rfl⟩
  rw [← hSd] at hS
  have HS := Hid.mk hS
  have BEL : Hid (∀ w1, Fr S w w1 → Below w.heap.size w w1) := Hid.mk (fun w1 h => h.below (fun k hk => by rw [hSd]; exact hk))
  have AWAKE : Hid (∀ wr, Fr S w wr → Calls Try.prog 11 #[] wr fun e w' => e = .returned (.bool true) ∧ Below w.heap.size w w') := Hid.mk (fun wr h => (jawake_any wr).mono fun e w' ⟨h1, h2⟩ => ⟨h1, BEL.out _ (h.next HS.out h2)⟩)
  clear hS hSd
  go_enter Try.func5, Try.ntmps5
  go_wp2_with fail
  refine (new_any (1 + (q : Int)) w).mono ?_
  rintro e w1 ⟨hb1, ⟨hno, _⟩ | ⟨_, rfl, hz⟩⟩
  · exact absurd ⟨by omega, by omega⟩ hno
  · obtain ⟨R, hR⟩ : ∃ R, R = Int.toNat (1 + (q : Int)) := ⟨_, rfl⟩
    have hRq : (R : Int) = 1 + (q : Int) := by omega
    rw [← hR] at hz
    have J1 := Hid.mk (J.zero HS.out hz (by omega))
    have F1 := Hid.mk (fr_below HS.out hb1)
    obtain ⟨p, hp⟩ : ∃ b, b = w.heap.size := ⟨_, rfl⟩
    rw [← hp] at J1 ⊢
    rw [← hRq]
    clear hz hb1 hp hR hq hRq
    go_wp2
    go_loopw [8] (fun c wr => ∃ (i : Nat) (ns : List NoteD), c = .int .i64 i ∧ i ≤ 60 ∧ i ≤ sizes.length ∧ J S wr p R ns 0 ∧ Fr S w wr) (fun c _ => 60 - (intOf c).toNat)
    case atStart => exact ⟨0, [], rfl, Nat.zero_le _, Nat.zero_le _, J1.out, F1.out⟩
    case round =>
      obtain ⟨i, ns, rfl, hi60, hin, hj, hf⟩ := hrel
      have HJ := Hid.mk hj
      have HF := Hid.mk hf
      clear hj hf J1 F1
      by_cases hlt : i < sizes.length ∧ i < 60
      · obtain ⟨hlt, hlt60⟩ := hlt
        obtain ⟨x, hx⟩ : ∃ n, sizes[i]? = some n := ⟨_, List.getElem?_eq_getElem hlt⟩
        have hltI : (i : Int) < (sizes.length : Int) := by omega
        have hlt60I : (i : Int) < 60 := by omega
        rcases HC.out with hnil | ⟨g, o, rfl, hl, hc⟩
        · rw [hnil] at hx; simp at hx
        · have hcx := ((BEL.out _ HF.out).cell (p := ⟨g, o + i, none⟩) hl).trans (hc i x hx)
          obtain ⟨k, hk, hk2⟩ : ∃ k : Nat, bits .and .i64 x 255 = (k : Int) ∧ k ≤ 255 := ⟨(x % 256).toNat, by rw [i64_mask x 8 255 256 (by omega) (by decide) (by decide)]; omega, by omega⟩
          clear hc hx
          obtain ⟨W1, hW1⟩ : ∃ W, W = wr := ⟨_, rfl⟩
          subst hW1
          go_wp2_with (at_make; refine wpList_make_full _ rfl _ _ 53 rfl W1.heap.size 5 i4 (.int .u8 0) 1 Try.underlying53 hi4 hv0 hv1 _ _ _ _ k rfl rfl rfl rfl (by rw [hv2]; omega) (by unfold maxLen; omega) (Nat.le_refl _) ?_)
          intro w2 hown hgrow
          have b2 : Below W1.heap.size W1 w2 := (Below.refl _ _).grown hgrow (Nat.le_refl _) (by simp)
          have hcv := (lbytes_zero hown).conv k
          rw [List.length_replicate] at hcv
          obtain ⟨t, ht⟩ : ∃ t, t = List.replicate k (0 : UInt8) := ⟨_, rfl⟩
          rw [← ht] at hcv
          obtain ⟨W3, hW3⟩ : ∃ W, W = (w2.alloc (.cells #[.string ⟨t.toArray⟩] 9)).alloc (.cells #[.int .i64 1, .slice none 0 0, .slice (some ⟨w2.heap.size, 0, none⟩) 1 1, .slice none 0 0] 37) := ⟨_, rfl⟩
          have hz2 : (w2.alloc (.cells #[.string ⟨t.toArray⟩] 9)).heap.size = w2.heap.size + 1 := by simp
          have b3a : Below w2.heap.size w2 (w2.alloc (.cells #[.string ⟨t.toArray⟩] 9)) := (Below.refl _ _).alloc (Nat.le_refl _) _
          have b3b : Below (w2.alloc (.cells #[.string ⟨t.toArray⟩] 9)).heap.size (w2.alloc (.cells #[.string ⟨t.toArray⟩] 9)) W3 := by rw [hW3]; exact (Below.refl _ _).alloc (Nat.le_refl _) _
          have hrow : RowIn W3 0 9 (.slice (some ⟨w2.heap.size, 0, none⟩) 1 1) [.string ⟨(List.replicate k (0 : UInt8)).toArray⟩] := by
            rw [← ht]; exact rowIn_below (rowIn_one w2 0 _ _ 1 (Nat.zero_le _)) b3b
          have NA := Hid.mk (roomN_at hrow)
          have hbox : W3.heap[w2.heap.size + 1]? = some (.cells #[.int .i64 1, .slice none 0 0, .slice (some ⟨w2.heap.size, 0, none⟩) 1 1, .slice none 0 0] 37 (0, 0)) := by
            rw [hW3, ← hz2]; exact box_at _ _
          have b13 : Below W1.heap.size W1 W3 := b2.trans ((b3a.trans (b3b.mono (by rw [hz2]; omega))).mono b2.size)
          have HBX := Hid.mk hbox
          have J3 := Hid.mk (HJ.out.below b13)
          have F3 := Hid.mk (HF.out.next HS.out b13)
          have HW3 := Hid.mk hW3
          have CZ := Hid.mk (jsize_any J3.out)
          obtain ⟨L, hL⟩ : ∃ L, L = (seals ns).length := ⟨_, rfl⟩
          rw [← hL, List.take_zero, show (seals []).length = 0 from rfl] at CZ
          have HL := Hid.mk hL
          clear hown hgrow b2 ht hW3 hz2 b3a b3b hrow hbox b13 HJ HF hcx hL
          go_wp2_with fail
          rw [← HW3.out]
          refine CZ.out.mono ?_
          rintro e w4 ⟨rfl, hb4⟩
          have J4 := Hid.mk (J3.out.below hb4)
          have F4 := Hid.mk (F3.out.next HS.out hb4)
          have N4 := Hid.mk (NA.out.below hb4)
          have B4 := Hid.mk ((hb4.block _ (lt_of_block HBX.out)).trans HBX.out)
          clear hb4 J3 F3 NA HBX CZ HW3 hcv
          go_wp2_with fail
          refine (jnotes_any J4.out).mono ?_
          rintro e w5 ⟨v5, rfl, ⟨cs5, ho5, _⟩, hb5⟩
          obtain ⟨a5, c5, rfl⟩ := own_slice ho5
          have J5 := Hid.mk (J4.out.below hb5)
          have F5 := Hid.mk (F4.out.next HS.out hb5)
          have N5 := Hid.mk (N4.out.below hb5)
          obtain ⟨⟨r0, r1, r2, r3⟩, _⟩ := four_cells ((hb5.block _ (lt_of_block B4.out)).trans B4.out)
          have hcn := J5.out.count
          have hft := J5.out.fits
          rw [← HL.out] at hft
          have CW := Hid.mk (write_any J5.out (HS.out.fr F5.out) _ (roomN k) N5.out (may_sane (roomN_may k (by omega))))
          clear hb5 ho5 J4 F4 N4 B4
          go_wp2_with fail
          refine CW.out.mono ?_
          rintro e w6 ⟨hf6, hw6⟩
          have F6 := Hid.mk (F5.out.trans hf6)
          clear hf6 J5 F5 N5 CW r0 r1 r2 r3
          have hLw : (R : Int) < (L : Int) ↔ False := by simp; omega
          rcases hw6 with ⟨hno, _⟩ | ⟨_, _, rfl, hj6⟩ | ⟨_, hroom, rfl, hj6⟩
          · exact absurd (roomN_may k (by omega)) hno
          · have J6 := Hid.mk hj6
            have CZ := Hid.mk (jsize_any J6.out)
            rw [← HL.out, List.take_zero, show (seals []).length = 0 from rfl] at CZ
            have h1I : ¬ (R : Int) < (L : Int) := by omega
            have h2I : ((L : Int) != (L : Int)) = false := by simp
            have h3I : ((ns.length : Int) != (ns.length : Int)) = false := by simp
            clear hj6 hLw
            go_wp2_with fail
            refine CZ.out.mono ?_
            rintro e w7 ⟨rfl, hb7⟩
            have J7 := Hid.mk (J6.out.below hb7)
            have F7 := Hid.mk (F6.out.next HS.out hb7)
            clear hb7 J6 F6 CZ
            go_wp2_with fail
            refine (jnotes_any J7.out).mono ?_
            rintro e w8 ⟨v8, rfl, ⟨cs8, ho8, _⟩, hb8⟩
            obtain ⟨a8, c8, rfl⟩ := own_slice ho8
            have J8 := Hid.mk (J7.out.below hb8)
            have F8 := Hid.mk (F7.out.next HS.out hb8)
            clear hb8 ho8 J7 F7
            go_wp2
            go_roundw
            case rel => exact ⟨i + 1, ns, by go_num, by omega, by omega, J8.out, F8.out⟩
            case measure => simp [intOf]; omega
          · have J6 := Hid.mk hj6
            have CZ := Hid.mk (jsize_any J6.out)
            obtain ⟨M, hM⟩ : ∃ M, M = (seals (ns ++ [roomN k])).length := ⟨_, rfl⟩
            have hML : L < M := by rw [hM, HL.out, seals_snoc, List.length_append, sealB_len]; omega
            rw [← hM, List.take_zero, show (seals []).length = 0 from rfl] at CZ
            rw [← hM] at hroom
            have h1I : ¬ (R : Int) < (M : Int) := by omega
            have h2I : ¬ (M : Int) ≤ (L : Int) := by omega
            clear hj6 hLw hM
            go_wp2_with fail
            refine CZ.out.mono ?_
            rintro e w7 ⟨rfl, hb7⟩
            have J7 := Hid.mk (J6.out.below hb7)
            have F7 := Hid.mk (F6.out.next HS.out hb7)
            clear hb7 J6 F6 CZ
            go_wp2_with fail
            refine (jnotes_any J7.out).mono ?_
            rintro e w8 ⟨v8, rfl, ⟨cs8, ho8, _⟩, hb8⟩
            obtain ⟨a8, c8, rfl⟩ := own_slice ho8
            have J8 := Hid.mk (J7.out.below hb8)
            have F8 := Hid.mk (F7.out.next HS.out hb8)
            have hl8 : (ns ++ [roomN k]).length = ns.length + 1 := by simp
            rw [hl8]
            have h3I : ((ns.length : Int) + 1 != (ns.length : Int) + 1) = false := by simp
            clear hb8 ho8 J7 F7 hl8
            go_wp2
            go_roundw
            case rel => exact ⟨i + 1, ns ++ [roomN k], by go_num, by omega, by omega, J8.out, F8.out⟩
            case measure => simp [intOf]; omega
      · have hgo : (¬ (i : Int) < (sizes.length : Int)) ∨ ((i : Int) < (sizes.length : Int) ∧ ¬ (i : Int) < 60) := by omega
        clear hlt
        rcases hgo with hgo | ⟨hgo, hgo2⟩
        all_goals (
          go_wp2_with fail
          refine (AWAKE.out _ HF.out).mono ?_
          rintro e w8 ⟨rfl, hb8⟩
          go_wp2
          go_ret
          exact ⟨rfl, hb8⟩)
end Go.Proofs.Ytnepednomejniaa
