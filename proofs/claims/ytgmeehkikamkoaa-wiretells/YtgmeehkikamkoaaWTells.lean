/- The statement that a note of whose body up to four bytes in a row are others is not read. -/
import Derived.Test.YtgmeehkikamkoaaWRow
namespace Go.Proofs.Ytgmeehkikamkoaa
open Go.RowKit

set_option maxHeartbeats 4000000 in
set_option maxRecDepth 100000 in
theorem wireTells_walk (va : Value) (n : NoteD) (at_ b : Int) (w : World) (ha : NoteAt w va n) (hs : n.sane) (_ : (Lit.int .i64 at_).wf = true) (_ : (Lit.int .i64 b).wf = true) :
    Calls Try.prog 6 #[va, .int .i64 at_, .int .i64 b] w fun e w' => e = .returned (.bool true) ∧ Below w.heap.size w w' := by
  have hN := ha
  obtain ⟨vn, vt, vr, rfl, _⟩ := ha
  have hand := i64_mask b 32 4294967295 4294967296 (by omega) (by decide) (by decide)
  obtain ⟨W0, hW0⟩ : ∃ W0, W0 = w.alloc (.cells #[.int .i64 n.kind, vn, vt, vr] 26) := ⟨_, rfl⟩
  have t2 : Below w.heap.size w W0 := by rw [hW0]; exact (Below.refl _ _).alloc (Nat.le_refl _) _
  have NA := Hid.mk (hN.below t2)
  have HS := Hid.mk hs
  have HW0 := Hid.mk hW0
  have CELLS : Hid (∀ wr, Below W0.heap.size W0 wr → (wr.cell? ⟨w.heap.size, 0, none⟩ = some (.int .i64 n.kind) ∧ wr.cell? ⟨w.heap.size, 1, none⟩ = some vn ∧ wr.cell? ⟨w.heap.size, 2, none⟩ = some vt ∧ wr.cell? ⟨w.heap.size, 3, none⟩ = some vr) ∧ Below w.heap.size w wr) := Hid.mk (fun wr h => by
    refine ⟨by rw [hW0] at h; exact box_cells h, t2.trans (h.mono (by rw [hW0]; simp))⟩)
  have AWAKE : Hid (∀ wr, Below W0.heap.size W0 wr → Calls Try.prog 10 #[] wr fun e w' => e = .returned (.bool true) ∧ Below w.heap.size w w') := Hid.mk (fun wr h => (awake_any wr).mono fun e w' ⟨h1, h2⟩ => ⟨h1, (CELLS.out _ (keepB h h2 (Nat.le_refl _))).2⟩)
  clear hW0 t2 hN hs
  obtain ⟨z, hz⟩ : ∃ z, z = b % 4294967296 := ⟨_, rfl⟩
  rw [← hz] at hand
  have HZ := Hid.mk hz
  clear hz
  go_enter Try.func6, Try.ntmps6
  go_wp2_with fail
  rw [← HW0.out]
  refine (light_any _ n W0 NA.out).mono ?_
  rintro e w1 ⟨⟨b1, rfl⟩, hb1⟩
  obtain ⟨⟨g0, g1, g2, g3⟩, _⟩ := CELLS.out _ hb1
  have B1 := Hid.mk hb1
  clear hb1
  cases b1 with
  | false =>
    go_wp2_with fail
    refine (AWAKE.out _ B1.out).mono ?_
    rintro e w2 ⟨rfl, hb2⟩
    go_wp2
    go_ret
    exact ⟨rfl, hb2⟩
  | true =>
    by_cases hz0 : z = 0
    · subst hz0
      go_wp2_with fail
      refine (AWAKE.out _ B1.out).mono ?_
      rintro e w2 ⟨rfl, hb2⟩
      go_wp2
      go_ret
      exact ⟨rfl, hb2⟩
    · have hzb : (z == 0) = false := by simpa using hz0
      have HZ0 : Hid (¬ b % 4294967296 = 0) := Hid.mk (by rw [← HZ.out]; exact hz0)
      have P1 := Hid.mk (pack_any _ n w1 (NA.out.below B1.out) HS.out)
      by_cases hm : n.may
      · have HP := Hid.mk (packV_may hm)
        have hb5 := body_ge hm.1
        have hbm := hm.2.2
        have hsl := sealB_len n.body
        obtain ⟨l, hl⟩ : ∃ l, l = sealB n.body := ⟨_, rfl⟩
        rw [← hl] at HP hsl
        have HLS := Hid.mk hl
        obtain ⟨q, hq, hq2⟩ : ∃ q : Nat, bits .and .i64 at_ 1048575 = (q : Int) ∧ q ≤ 1048575 := ⟨(at_ % 1048576).toNat, by rw [i64_mask at_ 20 1048575 1048576 (by omega) (by decide) (by decide)]; omega, by omega⟩
        obtain ⟨j, hj⟩ : ∃ j : Nat, (q : Int) % ((l.length : Int) - 11) = (j : Int) := ⟨((q : Int) % ((l.length : Int) - 11)).toNat, by rw [Int.toNat_of_nonneg (Int.emod_nonneg _ (by omega))]⟩
        have hj4 : j + 4 ≤ n.body.length := by have := Int.emod_lt_of_pos (q : Int) (b := (l.length : Int) - 11) (by omega); omega
        have HU : Hid (unpackP (patch l (8 + j) b 4) = (.none, 0, 30)) := Hid.mk (by rw [hl]; exact unpackP_patch n.body hbm j b hj4 HZ0.out)
        have HNE : Hid (¬ patch l (8 + j) b 4 = l) := Hid.mk (fun h => by
          have e1 := HU.out
          have e2 := unpackP_seal n hm []
          rw [List.append_nil, ← hl] at e2
          rw [h, e2] at e1
          simp at e1)
        have hsz := size_list l
        have hl13 : 13 ≤ l.length := by omega
        have hll : l.length ≤ 1048584 := by omega
        have hk4 : 8 + j + 4 ≤ l.length := by omega
        clear hl hm hb5 hbm hsl hj4
        go_wp2_with fail
        refine P1.out.mono ?_
        rintro e w2 ⟨rfl, hb2⟩
        rw [HP.out]
        have B2 := Hid.mk (keepB B1.out hb2 (Nat.le_refl _))
        clear hb2 g0 g1 g2 g3 P1 B1
        have hcv := Lib.run_convert_string_bytes (P := Try.prog) w2 9 43 5 ⟨l.toArray⟩ Try.underlying9 Try.underlying43 Try.underlying5
        rw [hsz] at hcv
        go_wp2_with fail
        have hB0 := bytes_made w2 ⟨l.toArray⟩
        rw [data_list] at hB0
        have hB := Hid.mk hB0
        have hbel := Hid.mk (below_bytes w2 ⟨l.toArray⟩)
        clear hcv hq hq2 hj hand hzb hB0
        generalize Lib.bytesWorld w2 5 ⟨l.toArray⟩ = V at *
        generalize grownCap w2 l.length 0 5 = cap at *
        go_loopw [11] (fun s9 wr => ∃ i : Nat, i ≤ 4 ∧ s9 = .int .i64 i ∧ Bytes wr w2.heap.size (patch l (8 + j) b i) ∧ Below w2.heap.size w2 wr) (fun s9 _ => 4 - (intOf s9).toNat)
        case atStart => exact ⟨0, by omega, rfl, hB.out, hbel.out⟩
        case round =>
          obtain ⟨i, hi, rfl, hby, hbl⟩ := hrel
          by_cases hi4 : i < 4
          · obtain ⟨a, ha⟩ : ∃ a, l[8 + j + i]? = some a := ⟨_, List.getElem?_eq_getElem (by omega)⟩
            have hcell := hby.2 (8 + j + i) a (by rw [patch_get _ _ _ _ _ (Nat.le_refl _)]; exact ha)
            obtain ⟨hc, hf⟩ := hcell
            have hset := hby.set (8 + j + i) (a ^^^ chB b i)
            have HP2 : Hid ((patch l (8 + j) b i).set (8 + j + i) (a ^^^ chB b i) = patch l (8 + j) b (i + 1)) := by rw [patch, List.getD, ha]; exact rfl
            rw [HP2.out] at hset
            have hset2 := Hid.mk hset.drew
            have hbl2 := Hid.mk (hbl.setCell (p := ⟨w2.heap.size, 8 + j + i, none⟩) (Nat.le_refl _) (.int .u8 ((a ^^^ chB b i).toNat : Int)))
            have hcb := chB_nat b i
            have hx : bits .xor .u8 (a.toNat : Int) (bits .and .i64 (b / 2 ^ (8 * i)) 255 % 256) = ((a ^^^ chB b i).toNat : Int) := by
              rw [u8_xor_toNat, ← u8_xor_nat _ _ (UInt8.toNat_lt a) (UInt8.toNat_lt _), hcb, i64_mask _ 8 255 256 (by omega) (by decide) (by decide), Int.emod_emod]
              simp
            have hkI : (8 : Int) + (j : Int) + (i : Int) < (l.length : Int) := by omega
            clear HP2 hset hcb ha hby hbl hB hbel
            obtain ⟨y, hy⟩ : ∃ y, y = (a ^^^ chB b i).toNat := ⟨_, rfl⟩
            rw [← hy] at hx hset2 hbl2
            clear hy
            go_wp2_with fail
            go_region
            go_wp2
            go_roundw
            case rel => exact ⟨i + 1, by omega, by go_num, hset2.out, hbl2.out.drew⟩
            case measure => simp [intOf]; omega
          · obtain rfl : i = 4 := by omega
            have hpl : (patch l (8 + j) b 4).length = l.length := patch_length _ _ _ _
            obtain ⟨P, hP⟩ : ∃ P, P = patch l (8 + j) b 4 := ⟨_, rfl⟩
            rw [← hP] at hpl hby
            have hne := HNE.out
            have hu := HU.out
            rw [← hP] at hne hu
            have hne2 : (P == l) = false := by rw [beq_eq_false_iff_ne]; exact hne
            have hcv := hby.conv cap
            rw [hpl] at hcv
            have B3 := Hid.mk (B2.out.trans (hbl.mono B2.out.size))
            have CU : Hid (∀ w, Calls Try.prog 15 #[.string ⟨P.toArray⟩] w (UEnd P w)) := Hid.mk (fun w => unpack_any P w (by omega))
            unfold UEnd at CU
            rw [hu] at CU
            simp only at CU
            obtain ⟨W3, hW3⟩ : ∃ W, W = wr := ⟨_, rfl⟩
            subst hW3
            clear hP hby hbl hB hbel hu B2 HNE HU
            go_wp2_with fail
            refine (CU.out _).mono ?_
            rintro e w4 ⟨v4, rfl, hown, hb4⟩
            obtain ⟨a0, l0, c0, a1, l1, c1, a2, l2, c2, rfl⟩ := own_parts hown
            have hkd : NoteD.none.kind = 0 := rfl
            have bel4 : Below w4.heap.size w4 (w4.alloc (.cells #[.int .i64 0, .slice a0 l0 c0, .slice a1 l1 c1, .slice a2 l2 c2] 26)) := (Below.refl _ _).alloc (Nat.le_refl _) _
            have B4 := Hid.mk (keepB (keepB B3.out hb4 (Nat.le_refl _)) bel4 (Nat.le_refl _))
            rw [hkd] at hown
            have C := Hid.mk (sameN_any _ zeroN .none .none _ (hown.at_.below bel4) (zeroN_at _))
            rw [decide_eq_true rfl] at C
            clear hown hb4 bel4 hcv CU
            go_wp2_with fail
            refine C.out.mono ?_
            rintro e w5 ⟨rfl, hb5⟩
            have B5 := Hid.mk (keepB B4.out hb5 (Nat.le_refl _))
            clear hb5 C
            go_wp2_with fail
            refine (AWAKE.out _ B5.out).mono ?_
            rintro e w6 ⟨rfl, hb6⟩
            go_wp2
            go_ret
            exact ⟨rfl, hb6⟩
      · rw [packV_not hm] at P1
        clear hm
        go_wp2_with fail
        refine P1.out.mono ?_
        rintro e w2 ⟨rfl, hb2⟩
        have B2 := Hid.mk (keepB B1.out hb2 (Nat.le_refl _))
        clear hb2 g0 g1 g2 g3 P1 B1
        go_wp2_with fail
        refine (AWAKE.out _ B2.out).mono ?_
        rintro e w3 ⟨rfl, hb3⟩
        go_wp2
        go_ret
        exact ⟨rfl, hb3⟩
end Go.Proofs.Ytgmeehkikamkoaa
