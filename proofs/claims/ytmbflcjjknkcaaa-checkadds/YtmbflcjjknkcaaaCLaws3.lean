import Derived.Test.YtmbflcjjknkcaaaCRow
namespace Go.Proofs.Ytmbflcjjknkcaaa
open Go.RowKit

/-- The change's byte number i. -/
def chB (by_ : Int) (i : Nat) : UInt8 := UInt8.ofNat (by_ / ((2 ^ (8 * i) : Nat) : Int) % 256).toNat
theorem chB_nat (b : Int) (i : Nat) : ((chB b i).toNat : Int) = b / ((2 ^ (8 * i) : Nat) : Int) % 256 := by
  unfold chB
  rw [UInt8.toNat_ofNat']
  have h1 := Int.emod_nonneg (b / ((2 ^ (8 * i) : Nat) : Int)) (b := 256) (by omega)
  have h2 := Int.emod_lt_of_pos (b / ((2 ^ (8 * i) : Nat) : Int)) (b := 256) (by omega)
  omega

/-- The text when i of the four bytes are changed. -/
def patch (l : List UInt8) (k : Nat) (b : Int) : Nat → List UInt8
  | 0 => l
  | i + 1 => (patch l k b i).set (k + i) ((l.getD (k + i) 0) ^^^ chB b i)
theorem patch_length (l : List UInt8) (k : Nat) (b : Int) : ∀ i, (patch l k b i).length = l.length
  | 0 => rfl
  | i + 1 => by rw [patch, List.length_set, patch_length l k b i]
theorem patch_get (l : List UInt8) (k : Nat) (b : Int) : ∀ i j, k + i ≤ j → (patch l k b i)[j]? = l[j]?
  | 0, _, _ => rfl
  | i + 1, j, h => by rw [patch, List.getElem?_set, if_neg (by omega), patch_get l k b i j (by omega)]

theorem patch_four (p q : List UInt8) (a0 a1 a2 a3 : UInt8) (b : Int) :
    patch (p ++ ([a0, a1, a2, a3] ++ q)) p.length b 4 = p ++ ([a0 ^^^ chB b 0, a1 ^^^ chB b 1, a2 ^^^ chB b 2, a3 ^^^ chB b 3] ++ q) := by
  have hs : ∀ (i : Nat) (r : List UInt8) (x : UInt8), (p ++ r).set (p.length + i) x = p ++ r.set i x := fun i r x => by
    rw [List.set_append, if_neg (by omega), Nat.add_sub_cancel_left]
  have hg : ∀ (i : Nat) (r : List UInt8), (p ++ r).getD (p.length + i) 0 = r.getD i 0 := fun i r => by
    rw [List.getD, List.getD, List.getElem?_append_right (by omega), Nat.add_sub_cancel_left]
  simp only [patch, hs, hg]
  rfl

theorem split_four (l : List UInt8) (k : Nat) (h : k + 4 ≤ l.length) : ∃ p q a0 a1 a2 a3, l = p ++ ([a0, a1, a2, a3] ++ q) ∧ p.length = k := by
  refine ⟨l.take k, l.drop (k + 4), l[k]'(by omega), l[k + 1]'(by omega), l[k + 2]'(by omega), l[k + 3]'(by omega), ?_, by simp; omega⟩
  have e := List.take_append_drop k l
  rw [List.drop_eq_getElem_cons (i := k) (by omega), List.drop_eq_getElem_cons (i := k + 1) (by omega), List.drop_eq_getElem_cons (i := k + 2) (by omega), List.drop_eq_getElem_cons (i := k + 3) (by omega)] at e
  exact e.symm

theorem patch_sum (l : List UInt8) (k : Nat) (b : Int) (h : k + 4 ≤ l.length) (hb : ¬ b % 4294967296 = 0) : ¬ sumN l = sumN (patch l k b 4) := by
  obtain ⟨p, q, a0, a1, a2, a3, rfl, rfl⟩ := split_four l k h
  rw [patch_four]
  apply sumN_burst
  rintro ⟨h0, h1, h2, h3⟩
  have hx : ∀ a c : UInt8, a ^^^ (a ^^^ c) = 0 → c = 0 := fun a c hh => by rwa [← UInt8.xor_assoc, UInt8.xor_self, UInt8.zero_xor] at hh
  have e0 := chB_nat b 0; have e1 := chB_nat b 1; have e2 := chB_nat b 2; have e3 := chB_nat b 3
  rw [hx _ _ h0] at e0; rw [hx _ _ h1] at e1; rw [hx _ _ h2] at e2; rw [hx _ _ h3] at e3
  simp at e0 e1 e2 e3
  omega

theorem keepS {w w1 w2 : World} {g : Nat} {l : List UInt8} (h : Bytes w1 g l ∧ Below w.heap.size w w1) (hB : Below w1.heap.size w1 w2) : Bytes w2 g l ∧ Below w.heap.size w w2 :=
  ⟨h.1.below hB, h.2.trans (hB.mono h.2.size)⟩

set_option maxHeartbeats 4000000 in
set_option maxRecDepth 100000 in
theorem checkBurst_walk (s : ByteArray) (at_ b : Int) (w : World) (hr : s.size ≤ 140737488351232) (_ : (Lit.int .i64 at_).wf = true) (_ : (Lit.int .i64 b).wf = true) :
    Calls Try.prog 4 #[.string s, .int .i64 at_, .int .i64 b] w fun e w' => e = .returned (.bool true) ∧ Below w.heap.size w w' := by
  have hand := i64_mask b 32 4294967295 4294967296 (by omega) (by decide) (by decide)
  by_cases hg : s.size < 4 ∨ 4096 < s.size ∨ b % 4294967296 = 0
  · obtain ⟨z, hz⟩ : ∃ z, z = b % 4294967296 := ⟨_, rfl⟩
    rw [← hz] at hand hg
    clear hz
    by_cases h1 : s.size < 4
    · go_enter Try.func4, Try.ntmps4
      go_wp2_with fail
      refine (awake_any _).mono ?_
      rintro e w1 ⟨rfl, hb⟩
      go_wp2
      go_ret
      exact ⟨rfl, hb⟩
    · by_cases h2 : 4096 < s.size
      · go_enter Try.func4, Try.ntmps4
        go_wp2_with fail
        refine (awake_any _).mono ?_
        rintro e w1 ⟨rfl, hb⟩
        go_wp2
        go_ret
        exact ⟨rfl, hb⟩
      · obtain rfl : z = 0 := by omega
        go_enter Try.func4, Try.ntmps4
        go_wp2_with fail
        refine (awake_any _).mono ?_
        rintro e w1 ⟨rfl, hb⟩
        go_wp2
        go_ret
        exact ⟨rfl, hb⟩
  · have h1 : ¬ s.size < 4 := by omega
    have h2 : ¬ 4096 < s.size := by omega
    have h3 : ¬ b % 4294967296 = 0 := by omega
    obtain ⟨q, hq, hq2⟩ : ∃ q : Nat, bits .and .i64 at_ 65535 = (q : Int) ∧ q ≤ 65535 := ⟨(at_ % 65536).toNat, by rw [i64_mask at_ 16 65535 65536 (by omega) (by decide) (by decide)]; omega, by omega⟩
    obtain ⟨k, hk⟩ : ∃ k : Nat, (q : Int) % ((s.size : Int) - 3) = (k : Int) := ⟨((q : Int) % ((s.size : Int) - 3)).toNat, by rw [Int.toNat_of_nonneg (Int.emod_nonneg _ (by omega))]⟩
    have hk4 : k + 4 ≤ s.size := by have := Int.emod_lt_of_pos (q : Int) (b := (s.size : Int) - 3) (by omega); omega
    have hsum := patch_sum s.data.toList k b (by rw [data_len]; omega) h3
    have HS := chid hsum
    obtain ⟨z, hz⟩ : ∃ z, z = b % 4294967296 := ⟨_, rfl⟩
    rw [← hz] at hand h3
    have hz0 : (z == 0) = false := by simpa using h3
    clear hsum hg hz
    have hcv := Lib.run_convert_string_bytes (P := Try.prog) w 9 25 5 s Try.underlying9 Try.underlying25 Try.underlying5
    go_enter Try.func4, Try.ntmps4
    go_wp2_with fail
    rw [hk]
    have hB := chid (bytes_made w s)
    have hbel := below_bytes w s
    clear hcv hq hq2 hk hand h3 hz0
    generalize Lib.bytesWorld w 5 s = V at *
    generalize grownCap w s.size 0 5 = cap at *
    have hlen := chid (data_len s)
    go_loopw [9] (fun s9 wr => ∃ i : Nat, i ≤ 4 ∧ s9 = .int .i64 i ∧ Bytes wr w.heap.size (patch s.data.toList k b i) ∧ Below w.heap.size w wr) (fun s9 _ => 4 - (intOf s9).toNat)
    case atStart => exact ⟨0, by omega, rfl, hB.out, hbel⟩
    case round =>
      obtain ⟨i, hi, rfl, hby, hbl⟩ := hrel
      by_cases hi4 : i < 4
      · obtain ⟨a, ha⟩ : ∃ a, s.data.toList[k + i]? = some a := ⟨_, List.getElem?_eq_getElem (by rw [hlen.out]; omega)⟩
        have hcell := hby.2 (k + i) a (by rw [patch_get _ _ _ _ _ (Nat.le_refl _)]; exact ha)
        obtain ⟨hc, hf⟩ := hcell
        have hset := hby.set (k + i) (a ^^^ chB b i)
        have HP : Hid ((patch s.data.toList k b i).set (k + i) (a ^^^ chB b i) = patch s.data.toList k b (i + 1)) := by rw [patch, List.getD, ha]; exact rfl
        rw [HP.out] at hset
        have hset2 := chid hset.drew
        have hbl2 := chid (hbl.setCell (p := ⟨w.heap.size, k + i, none⟩) (Nat.le_refl _) (.int .u8 ((a ^^^ chB b i).toNat : Int)))
        have hcb := chB_nat b i
        have hx : bits .xor .u8 (a.toNat : Int) (bits .and .i64 (b / 2 ^ (8 * i)) 255 % 256) = ((a ^^^ chB b i).toNat : Int) := by
          rw [u8_xor_toNat, ← u8_xor_nat _ _ (UInt8.toNat_lt a) (UInt8.toNat_lt _), hcb, i64_mask _ 8 255 256 (by omega) (by decide) (by decide), Int.emod_emod]
          simp
        clear HP hset hcb ha hby hbl hB hbel
        obtain ⟨y, hy⟩ : ∃ y, y = (a ^^^ chB b i).toNat := ⟨_, rfl⟩
        rw [← hy] at hx hset2 hbl2
        clear hy
        go_wp2_with fail
        go_region
        go_wp2
        go_roundw
        case rel => exact ⟨i + 1, by omega, by go_num, hset2.out, hbl2.out.drew⟩
        case measure => simp [intOf]; omega
      · obtain rfl : i = 4 := by omega
        have HB := chid hby
        have HL := chid hbl
        have hpl : (patch s.data.toList k b 4).length = s.size := by rw [patch_length]; exact hlen.out
        obtain ⟨P, hP⟩ : ∃ P, P = patch s.data.toList k b 4 := ⟨_, rfl⟩
        rw [← hP] at hpl HB HS
        have hcv : ∀ w', Bytes w' w.heap.size P ∧ Below w.heap.size w w' → (convert 25 9 (.slice (some ⟨w.heap.size, 0, none⟩) s.size cap)).run Try.prog w' = .ok (.string ⟨P.toArray⟩) w' := fun w' h => by
          have := h.1.conv cap
          rw [hpl] at this
          exact this
        have c1 := fun w => sum_any s w hr
        have c2 := fun w => sum_any ⟨P.toArray⟩ w (by show P.length ≤ _; omega)
        have hne := HS.out
        rw [show (ByteArray.mk P.toArray).data.toList = P from rfl] at c2
        obtain ⟨x1, hx1⟩ : ∃ x, x = sumN s.data.toList := ⟨_, rfl⟩
        obtain ⟨x2, hx2⟩ : ∃ x, x = sumN P := ⟨_, rfl⟩
        rw [← hx1] at c1 hne
        rw [← hx2] at c2 hne
        have C1 := chid c1
        have C2 := chid c2
        have hne2 : ((x1 : Int) != (x2 : Int)) = true := by simp; omega
        clear c1 c2 hx1 hx2 hby hbl hP hB hbel HS hpl hne
        go_wp2_with fail
        go_region_held (fun w' => Bytes w' w.heap.size P ∧ Below w.heap.size w w')
          (first | exact ⟨HB.out.drew, HL.out.drew⟩ | exact keepS (by assumption) (by assumption))
          (first
            | (go_at_call 8; refine (awake_any _).mono ?_; rintro e w1 ⟨rfl, hb1⟩)
            | (go_at_call_of 9 s; refine (C1.out _).mono ?_; rintro e w1 ⟨rfl, hb1⟩)
            | (go_at_call_of 9 P; refine (C2.out _).mono ?_; rintro e w1 ⟨rfl, hb1⟩))
        rename_i hh
        have hfin := hh.2
        clear hh
        go_wp2
        go_ret
        exact ⟨rfl, hfin⟩
end Go.Proofs.Ytmbflcjjknkcaaa
