/- Bytes that a call has laid into a block of its own; four of them that are others. -/
import Derived.Test.YtnepednomejniaaWOpen
import Derived.Lib.ConvBytes
namespace Go.Proofs.Ytnepednomejniaa
open Go.RowKit

/-- The block g holds the bytes l from its head on; they may be written. -/
def Bytes (w : World) (g : Nat) (l : List UInt8) : Prop :=
  g < w.heap.size ∧ ∀ j x, l[j]? = some x → w.cell? ⟨g, j, none⟩ = some (.int .u8 (x.toNat : Int)) ∧ w.frozen? ⟨g, j, none⟩ = false

theorem Bytes.below {w w' : World} {g : Nat} {l : List UInt8} (h : Bytes w g l) (hb : Below w.heap.size w w') : Bytes w' g l :=
  ⟨Nat.lt_of_lt_of_le h.1 hb.size, fun j x hx => ⟨(hb.cell (p := ⟨g, j, none⟩) h.1).trans (h.2 j x hx).1, (hb.frozen (p := ⟨g, j, none⟩) h.1).trans (h.2 j x hx).2⟩⟩

theorem Bytes.drew {w : World} {g : Nat} {l : List UInt8} (h : Bytes w g l) : Bytes w.drew g l :=
  ⟨h.1, fun j x hx => ⟨(h.2 j x hx).1, (h.2 j x hx).2⟩⟩

theorem Bytes.set {w : World} {g : Nat} {l : List UInt8} (h : Bytes w g l) (i : Nat) (x : UInt8) : Bytes (w.setCell ⟨g, i, none⟩ (.int .u8 (x.toNat : Int))) g (l.set i x) := by
  refine ⟨by simpa using h.1, fun j y hy => ?_⟩
  rw [List.getElem?_set] at hy
  by_cases he : i = j
  · subst he
    rw [if_pos rfl] at hy
    by_cases hl : i < l.length
    · rw [if_pos hl] at hy
      obtain rfl := Option.some.inj hy
      have h2 := h.2 i _ (List.getElem?_eq_getElem hl)
      exact ⟨World.cell?_setCell_same _ _ _ h2.1, by simpa using h2.2⟩
    · rw [if_neg hl] at hy; cases hy
  · rw [if_neg he] at hy
    have h2 := h.2 j y hy
    refine ⟨?_, by simpa using h2.2⟩
    rw [World.cell?_setCell_other _ _ _ _ (fun e => he (by have := congrArg Addr.off e; exact this))]
    exact h2.1

theorem Bytes.conv {w : World} {g : Nat} {l : List UInt8} (h : Bytes w g l) (cap : Nat) :
    (convert 53 9 (.slice (some ⟨g, 0, none⟩) l.length cap)).run Try.prog w = .ok (.string ⟨l.toArray⟩) w :=
  run_convert_bytes_back (P := Try.prog) w 53 9 5 ⟨g, 0, none⟩ cap l Try.underlying53 Try.underlying5 Try.underlying9 (fun j hj => by
    rw [show (⟨g, 0, none⟩ : Addr).add j = ⟨g, j, none⟩ from by cases j <;> simp [Addr.add]]
    exact (h.2 j _ (List.getElem?_eq_getElem hj)).1)

theorem bytes_made (w : World) (s : ByteArray) : Bytes (Lib.bytesWorld w 5 s) w.heap.size s.data.toList := by
  refine ⟨by rw [Lib.bytesWorld_size]; omega, fun j x hx => ?_⟩
  have hl := data_len s
  have hj : j < s.size := by have := (List.getElem?_eq_some_iff.1 hx).1; omega
  refine ⟨?_, ?_⟩
  · rw [Lib.bytesWorld_cell w 5 s j hj, List.getD, hx]; rfl
  · have hn := Lib.bytesWorld_at_new w 5 s
    have hcs : s.size ≤ (Lib.bytesCells w 5 s).size := by
      simp [Lib.bytesCells]
    simp only [World.frozen?, hn, Bool.and_eq_false_iff, decide_eq_false_iff_not]
    left; omega

theorem below_bytes (w : World) (s : ByteArray) : Below w.heap.size w (Lib.bytesWorld w 5 s) :=
  ⟨rfl, rfl, rfl, by rw [Lib.bytesWorld_size]; omega, fun k hk => Lib.bytesWorld_at_old w 5 s k hk⟩

theorem i64_mask (n : Int) (k : Nat) (m M : Int) (hk : k ≤ 62) (hm : (BitVec.ofInt 64 m).toNat = 2 ^ k - 1) (hM : M = ((2 ^ k : Nat) : Int)) : bits .and .i64 n m = n % M := by
  have key : (BitVec.ofInt 64 n &&& BitVec.ofInt 64 m).toNat = (n % ((2 ^ 64 : Nat) : Int)).toNat % 2 ^ k := by
    rw [BitVec.toNat_and, BitVec.toNat_ofInt, hm, Nat.and_two_pow_sub_one_eq_mod]
  show IntKind.i64.wrap ((BitVec.ofInt 64 n &&& BitVec.ofInt 64 m).toNat : Nat) = n % M
  have hd : (2 ^ 64 : Nat) = 2 ^ k * 2 ^ (64 - k) := by rw [← Nat.pow_add]; congr 1; omega
  have e : ((n % ((2 ^ 64 : Nat) : Int)).toNat % 2 ^ k : Nat) = (n % ((2 ^ k : Nat) : Int)).toNat := by
    apply Int.ofNat.inj
    show (((n % ((2 ^ 64 : Nat) : Int)).toNat % 2 ^ k : Nat) : Int) = ((n % ((2 ^ k : Nat) : Int)).toNat : Int)
    rw [Int.natCast_emod, Int.toNat_of_nonneg (Int.emod_nonneg _ (by omega)), Int.toNat_of_nonneg (Int.emod_nonneg _ (by have := Nat.two_pow_pos k; omega))]
    exact Int.emod_emod_of_dvd _ (Int.natCast_dvd_natCast.2 ⟨2 ^ (64 - k), hd⟩)
  have hlt : (2 ^ k : Nat) ≤ 2 ^ 62 := Nat.pow_le_pow_right (by omega) hk
  have hp := Nat.two_pow_pos k
  have h1 : 0 ≤ n % ((2 ^ k : Nat) : Int) := Int.emod_nonneg _ (by omega)
  have h2 : n % ((2 ^ k : Nat) : Int) < ((2 ^ k : Nat) : Int) := Int.emod_lt_of_pos _ (by omega)
  rw [key, e, IntKind.wrap_i64, hM]
  omega
/-- The change's byte number i. -/
def chB (by_ : Int) (i : Nat) : UInt8 := UInt8.ofNat (by_ / ((2 ^ (8 * i) : Nat) : Int) % 256).toNat
theorem chB_nat (b : Int) (i : Nat) : ((chB b i).toNat : Int) = b / ((2 ^ (8 * i) : Nat) : Int) % 256 := by
  unfold chB
  rw [UInt8.toNat_ofNat']
  have h1 := Int.emod_nonneg (b / ((2 ^ (8 * i) : Nat) : Int)) (b := 256) (by omega)
  have h2 := Int.emod_lt_of_pos (b / ((2 ^ (8 * i) : Nat) : Int)) (b := 256) (by omega)
  omega

/-- The text when i of the four bytes are changed. -/
def patch (l : List UInt8) (k : Nat) (b : Int) : Nat → List UInt8
  | 0 => l
  | i + 1 => (patch l k b i).set (k + i) ((l.getD (k + i) 0) ^^^ chB b i)
theorem patch_length (l : List UInt8) (k : Nat) (b : Int) : ∀ i, (patch l k b i).length = l.length
  | 0 => rfl
  | i + 1 => by rw [patch, List.length_set, patch_length l k b i]
theorem patch_get (l : List UInt8) (k : Nat) (b : Int) : ∀ i j, k + i ≤ j → (patch l k b i)[j]? = l[j]?
  | 0, _, _ => rfl
  | i + 1, j, h => by rw [patch, List.getElem?_set, if_neg (by omega), patch_get l k b i j (by omega)]

theorem patch_four (p q : List UInt8) (a0 a1 a2 a3 : UInt8) (b : Int) :
    patch (p ++ ([a0, a1, a2, a3] ++ q)) p.length b 4 = p ++ ([a0 ^^^ chB b 0, a1 ^^^ chB b 1, a2 ^^^ chB b 2, a3 ^^^ chB b 3] ++ q) := by
  have hs : ∀ (i : Nat) (r : List UInt8) (x : UInt8), (p ++ r).set (p.length + i) x = p ++ r.set i x := fun i r x => by
    rw [List.set_append, if_neg (by omega), Nat.add_sub_cancel_left]
  have hg : ∀ (i : Nat) (r : List UInt8), (p ++ r).getD (p.length + i) 0 = r.getD i 0 := fun i r => by
    rw [List.getD, List.getD, List.getElem?_append_right (by omega), Nat.add_sub_cancel_left]
  simp only [patch, hs, hg]
  rfl

theorem split_four (l : List UInt8) (k : Nat) (h : k + 4 ≤ l.length) : ∃ p q a0 a1 a2 a3, l = p ++ ([a0, a1, a2, a3] ++ q) ∧ p.length = k := by
  refine ⟨l.take k, l.drop (k + 4), l[k]'(by omega), l[k + 1]'(by omega), l[k + 2]'(by omega), l[k + 3]'(by omega), ?_, by simp; omega⟩
  have e := List.take_append_drop k l
  rw [List.drop_eq_getElem_cons (i := k) (by omega), List.drop_eq_getElem_cons (i := k + 1) (by omega), List.drop_eq_getElem_cons (i := k + 2) (by omega), List.drop_eq_getElem_cons (i := k + 3) (by omega)] at e
  exact e.symm

theorem patch_sum (l : List UInt8) (k : Nat) (b : Int) (h : k + 4 ≤ l.length) (hb : ¬ b % 4294967296 = 0) : ¬ sumN l = sumN (patch l k b 4) := by
  obtain ⟨p, q, a0, a1, a2, a3, rfl, rfl⟩ := split_four l k h
  rw [patch_four]
  apply sumN_burst
  rintro ⟨h0, h1, h2, h3⟩
  have hx : ∀ a c : UInt8, a ^^^ (a ^^^ c) = 0 → c = 0 := fun a c hh => by rwa [← UInt8.xor_assoc, UInt8.xor_self, UInt8.zero_xor] at hh
  have e0 := chB_nat b 0; have e1 := chB_nat b 1; have e2 := chB_nat b 2; have e3 := chB_nat b 3
  rw [hx _ _ h0] at e0; rw [hx _ _ h1] at e1; rw [hx _ _ h2] at e2; rw [hx _ _ h3] at e3
  simp at e0 e1 e2 e3
  omega


theorem patch_head (h b : List UInt8) (j : Nat) (y : Int) (hj : j + 4 ≤ b.length) : patch (h ++ b) (h.length + j) y 4 = h ++ patch b j y 4 := by
  obtain ⟨p, q, a0, a1, a2, a3, rfl, rfl⟩ := split_four b j hj
  rw [patch_four, ← List.append_assoc h p, ← List.append_assoc h p, ← List.length_append, patch_four]
theorem body_ge {n : NoteD} (h : n.numsOk) : 5 ≤ n.body.length := by
  have h1 : 0 < (lowD 8 n.kind.toNat).length := by
    rw [lowD_length_iff 8 n.kind.toNat 0 (by have := h.2.1; omega)]; have := h.1; omega
  have e1 := numB_length n.kind.toNat
  have e2 := numB_length n.nums.length
  have e3 := numB_length n.texts.length
  have e4 := numB_length n.rows.length
  simp only [NoteD.body, listB, List.length_append]; omega
/-- A sealed body of which four bytes in a row are others is not read. -/
theorem unpackP_patch (b : List UInt8) (hb : b.length ≤ 1048576) (j : Nat) (y : Int) (hj : j + 4 ≤ b.length) (hy : ¬ y % 4294967296 = 0) : unpackP (patch (sealB b) (8 + j) y 4) = (.none, 0, 30) := by
  have e : sealB b = (fourB b.length ++ fourB (sumN b)) ++ b := by simp [sealB]
  have e2 : patch (sealB b) (8 + j) y 4 = fourB b.length ++ (fourB (sumN b) ++ patch b j y 4) := by
    rw [e, show 8 + j = (fourB b.length ++ fourB (sumN b)).length + j from rfl, patch_head _ _ _ _ hj, List.append_assoc]
  have hl := patch_length b j y 4
  have d4 : (fourB b.length ++ (fourB (sumN b) ++ patch b j y 4)).drop 4 = fourB (sumN b) ++ patch b j y 4 := List.drop_left' rfl
  have d8 : (fourB b.length ++ (fourB (sumN b) ++ patch b j y 4)).drop 8 = patch b j y 4 := by
    rw [show 8 = 4 + 4 from rfl, ← List.drop_drop, d4]; exact List.drop_left' rfl
  have f1 : fourN (fourB b.length ++ (fourB (sumN b) ++ patch b j y 4)) = b.length := fourN_fourB _ (by omega) _
  have f2 : fourN ((fourB b.length ++ (fourB (sumN b) ++ patch b j y 4)).drop 4) = sumN b := by rw [d4]; exact fourN_fourB _ (sumN_lt _) _
  have hlen : (fourB b.length ++ (fourB (sumN b) ++ patch b j y 4)).length = 8 + b.length := by simp only [List.length_append, fourB_len, hl]; omega
  rw [e2]
  refine unpackP_4 (by omega) (by omega) (by omega) ?_
  rw [f1, f2, d8, List.take_of_length_le (by omega)]
  exact fun h => patch_sum b j y hj hy h.symm
end Go.Proofs.Ytnepednomejniaa
