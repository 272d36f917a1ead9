/- Parts of the proofs of stage 15. -/
import Derived.Test.YtifmpcldiimdbaaRows
import Derived.WalkKit
import Derived.WalkSpells
import Derived.WalkLawsBesides
import Derived.Laws.BitsAllLaws
import Derived.Laws.BitsLemmas
import Derived.Deep.WholeRow
import Derived.Laws.ResultCell
namespace Go.Proofs.Ytifmpcldiimdbaa

/-- What a bit that is shifted out leaves behind. -/
def polyN : Nat := 79764919
/-- All 32 bits. -/
def allN : Nat := 4294967295
/-- One step: twice the number, and what its highest bit leaves. -/
def tw (a : Nat) : Nat := (2 * a % 4294967296) ^^^ (if a.testBit 31 then 79764919 else 0)
def tw8 (a : Nat) : Nat := tw (tw (tw (tw (tw (tw (tw (tw a)))))))
/-- One byte. -/
def stepC (n : Nat) (c : UInt8) : Nat := tw8 (n ^^^ c.toNat * 16777216)
def crc (n : Nat) (l : List UInt8) : Nat := l.foldl stepC n
/-- The document's sum. -/
def sumN (l : List UInt8) : Nat := crc 4294967295 l ^^^ 4294967295

theorem tb31 (a : Nat) (h : a < 4294967296) : a.testBit 31 = decide (2147483648 ≤ a) := by
  rw [Nat.testBit_eq_decide_div_mod_eq]
  congr 1
  apply propext
  constructor
  · intro h2; omega
  · intro h2; omega

theorem tw_lt (a : Nat) : tw a < 4294967296 := by
  unfold tw
  have : (2 * a % 4294967296) ^^^ (if a.testBit 31 then 79764919 else 0) < 2 ^ 32 := by
    apply Nat.xor_lt_two_pow
    · omega
    · split <;> omega
  omega

theorem tw_low (a : Nat) (h : a < 2147483648) : tw a = 2 * a := by
  unfold tw
  rw [tb31 a (by omega), decide_eq_false (by omega), if_neg (by decide), Nat.xor_zero]
  exact Nat.mod_eq_of_lt (by omega)

theorem tw_high (a : Nat) (h : 2147483648 ≤ a) (h2 : a < 4294967296) : tw a = (2 * a - 4294967296) ^^^ 79764919 := by
  unfold tw
  have e : 2 * a % 4294967296 = 2 * a - 4294967296 := by omega
  rw [tb31 a h2, decide_eq_true h, if_pos rfl, e]

theorem xor_left_comm' (m x y : Nat) : m ^^^ (x ^^^ y) = x ^^^ (m ^^^ y) := by
  rw [← Nat.xor_assoc, Nat.xor_comm m x, Nat.xor_assoc]
theorem xor_swap4 (n m x y : Nat) : n ^^^ m ^^^ (x ^^^ y) = n ^^^ x ^^^ (m ^^^ y) := by
  rw [Nat.xor_assoc, Nat.xor_assoc, xor_left_comm' m x y]
theorem tw_xor (a b : Nat) : tw (a ^^^ b) = tw a ^^^ tw b := by
  unfold tw
  have e : 2 * (a ^^^ b) = (2 * a) ^^^ (2 * b) := by
    rw [Nat.mul_comm 2 (a ^^^ b), Nat.mul_comm 2 a, Nat.mul_comm 2 b]
    have := Nat.shiftLeft_xor_distrib (a := a) (b := b) (i := 1)
    simpa [Nat.shiftLeft_eq] using this
  rw [e, show (4294967296 : Nat) = 2 ^ 32 from rfl, Nat.xor_mod_two_pow, Nat.testBit_xor]
  have hp : (if (a.testBit 31 ^^ b.testBit 31) = true then 79764919 else 0) = (if a.testBit 31 = true then 79764919 else 0) ^^^ (if b.testBit 31 = true then 79764919 else 0) := by
    cases a.testBit 31 <;> cases b.testBit 31 <;> rfl
  rw [hp, xor_swap4]

theorem tw_inj (a : Nat) (h : a < 4294967296) (h0 : tw a = 0) : a = 0 := by
  by_cases hh : 2147483648 ≤ a
  · exfalso
    rw [tw_high a hh h] at h0
    have e := Nat.testBit_xor (x := 2 * a - 4294967296) (y := 79764919) (i := 0)
    rw [h0] at e
    have e2 : (2 * a - 4294967296).testBit 0 = false := by
      simp [Nat.testBit_zero]; omega
    rw [e2] at e
    simp at e
  · rw [tw_low a (by omega)] at h0; omega

theorem tw8_lt (a : Nat) : tw8 a < 4294967296 := tw_lt _
theorem tw8_xor (a b : Nat) : tw8 (a ^^^ b) = tw8 a ^^^ tw8 b := by
  unfold tw8; simp only [tw_xor]
theorem tw8_inj (a : Nat) (h : a < 4294967296) (h0 : tw8 a = 0) : a = 0 := by
  unfold tw8 at h0
  exact tw_inj a h (tw_inj _ (tw_lt _) (tw_inj _ (tw_lt _) (tw_inj _ (tw_lt _) (tw_inj _ (tw_lt _) (tw_inj _ (tw_lt _) (tw_inj _ (tw_lt _) (tw_inj _ (tw_lt _) h0)))))))
theorem tw8_low (a : Nat) (h : a < 16777216) : tw8 a = a * 256 := by
  unfold tw8
  rw [tw_low a (by omega), tw_low (2 * a) (by omega), tw_low (2 * (2 * a)) (by omega), tw_low (2 * (2 * (2 * a))) (by omega), tw_low (2 * (2 * (2 * (2 * a)))) (by omega), tw_low (2 * (2 * (2 * (2 * (2 * a))))) (by omega), tw_low (2 * (2 * (2 * (2 * (2 * (2 * a)))))) (by omega), tw_low (2 * (2 * (2 * (2 * (2 * (2 * (2 * a))))))) (by omega)]
  omega
theorem tw8_tw (y : Nat) : tw8 (tw y) = tw (tw8 y) := by simp only [tw8]
theorem tw8_zero : tw8 0 = 0 := by rw [tw8_low 0 (by omega)]

theorem byte_shift_lt (c : UInt8) : c.toNat * 16777216 < 4294967296 := by have := UInt8.toNat_lt c; omega

theorem xor_lt32 {a b : Nat} (ha : a < 4294967296) (hb : b < 4294967296) : a ^^^ b < 4294967296 :=
  Nat.xor_lt_two_pow (n := 32) ha hb

theorem xor_mul_pow (a b k K : Nat) (hK : K = 2 ^ k) : (a ^^^ b) * K = a * K ^^^ b * K := by
  subst hK
  have := Nat.shiftLeft_xor_distrib (a := a) (b := b) (i := k)
  simpa [Nat.shiftLeft_eq] using this

theorem xor_three (x y z a : Nat) : x ^^^ y ^^^ z ^^^ a = x ^^^ a ^^^ (y ^^^ a) ^^^ (z ^^^ a) := by
  rw [xor_swap4 x a y a, Nat.xor_self, Nat.xor_zero, Nat.xor_assoc (x ^^^ y)]
theorem u8_xor_toNat (a b : UInt8) : (a ^^^ b).toNat = a.toNat ^^^ b.toNat := UInt8.toNat_xor a b

theorem stepC_xor (n m : Nat) (c d : UInt8) : stepC (n ^^^ m) (c ^^^ d) = stepC n c ^^^ stepC m d := by
  unfold stepC
  rw [← tw8_xor, u8_xor_toNat, xor_mul_pow _ _ 24 16777216 (by decide)]
  rw [xor_swap4]

/-- Two texts, byte xor byte. -/
def xorL (l m : List UInt8) : List UInt8 := List.zipWith (· ^^^ ·) l m

theorem crc_xor : ∀ (l m : List UInt8) (a b : Nat), l.length = m.length → crc (a ^^^ b) (xorL l m) = crc a l ^^^ crc b m
  | [], [], _, _, _ => rfl
  | c :: l, d :: m, a, b, h => by
    simp only [crc, xorL, List.zipWith_cons_cons, List.foldl_cons]
    rw [stepC_xor]
    exact crc_xor l m _ _ (by simpa using h)

theorem crc_lt (l : List UInt8) (a : Nat) (h : a < 4294967296) : crc a l < 4294967296 := by
  induction l generalizing a with
  | nil => exact h
  | cons c l ih => exact ih _ (tw8_lt _)

theorem crc_nil (a : Nat) : crc a [] = a := rfl
theorem crc_cons (a : Nat) (c : UInt8) (l : List UInt8) : crc a (c :: l) = crc (stepC a c) l := rfl
theorem crc_append (a : Nat) (l m : List UInt8) : crc a (l ++ m) = crc (crc a l) m := by simp [crc]

theorem sumN_lt (l : List UInt8) : sumN l < 4294967296 := xor_lt32 (crc_lt l _ (by omega)) (by omega)

theorem sumN_xor3 (l m k : List UInt8) (h1 : l.length = m.length) (h2 : m.length = k.length) : sumN (xorL (xorL l m) k) = sumN l ^^^ sumN m ^^^ sumN k := by
  unfold sumN
  have e := crc_xor (xorL l m) k (4294967295 ^^^ 4294967295) 4294967295 (by simp [xorL, h1]; omega)
  rw [crc_xor l m _ _ h1, Nat.xor_self, Nat.zero_xor] at e
  rw [e, xor_three]

/-! What a byte shifts out. -/
def tabN (b : Nat) : Nat := tw8 (b * 16777216)

theorem tabN_lt (b : Nat) : tabN b < 4294967296 := tw8_lt _

theorem tabN_step (b : Nat) (h : b < 256) : tabN b = tw (tabN (b / 2)) ^^^ (if b % 2 = 1 then 79764919 else 0) := by
  have e : b * 16777216 = tw (b / 2 * 16777216) ^^^ (b % 2) * 16777216 := by
    have hx : (b / 2 * 2) ^^^ (b % 2) = b := by
      apply Nat.eq_of_testBit_eq
      intro i
      rw [Nat.testBit_xor]
      cases i with
      | zero => simp [Nat.testBit_zero]
      | succ i =>
        rw [Nat.testBit_succ, Nat.testBit_succ, Nat.testBit_succ]
        have e1 : b / 2 * 2 / 2 = b / 2 := by omega
        have e2 : b % 2 / 2 = 0 := by omega
        rw [e1, e2]; simp
    have := xor_mul_pow (b / 2 * 2) (b % 2) 24 16777216 (by decide)
    rw [hx] at this
    rw [tw_low _ (by omega), show 2 * (b / 2 * 16777216) = b / 2 * 2 * 16777216 by omega]
    exact this
  unfold tabN
  rw [e, tw8_xor]
  rw [tw8_tw]
  rcases Nat.mod_two_eq_zero_or_one b with h2 | h2
  · rw [h2, Nat.zero_mul, tw8_zero, if_neg (by decide)]
  · rw [h2, if_pos rfl, show tw8 (1 * 16777216) = 79764919 by decide +kernel]

theorem tabN_zero : tabN 0 = 0 := tw8_zero

/-- The program's byte: the eight steps at once. -/
theorem stepC_tab (n : Nat) (hn : n < 4294967296) (c : UInt8) : stepC n c = (n * 256 % 4294967296) ^^^ tabN (n / 16777216 % 256 ^^^ c.toNat) := by
  unfold stepC tabN
  have hx : n = n / 16777216 * 16777216 ^^^ n % 16777216 := by
    generalize hK : 16777216 = K
    have hK2 : K = 2 ^ 24 := by rw [← hK]
    subst hK2
    apply Nat.eq_of_testBit_eq
    intro i
    rw [Nat.testBit_xor, Nat.testBit_mod_two_pow, ← Nat.shiftLeft_eq, ← Nat.shiftRight_eq_div_pow, Nat.testBit_shiftLeft, Nat.testBit_shiftRight]
    by_cases h : i < 24
    · have : ¬ 24 ≤ i := by omega
      simp [h, this]
    · have h' : 24 ≤ i := by omega
      simp [h, h']
  have e : n ^^^ c.toNat * 16777216 = n % 16777216 ^^^ (n / 16777216 % 256 ^^^ c.toNat) * 16777216 := by
    rw [xor_mul_pow _ _ 24 16777216 (by decide), show n / 16777216 % 256 = n / 16777216 by omega, ← Nat.xor_assoc, Nat.xor_comm (n % 16777216), ← hx]
  rw [e, tw8_xor, tw8_low _ (by omega), show n % 16777216 * 256 = n * 256 % 4294967296 by omega]

/-! Four bytes in a row. -/
theorem crc_zeros (m : Nat) : ∀ a, a < 4294967296 → crc a (List.replicate m 0) = 0 → a = 0 := by
  induction m with
  | zero => intro a _ h; exact h
  | succ m ih =>
    intro a ha h
    rw [List.replicate_succ] at h
    have h1 := ih (stepC a 0) (tw8_lt _) h
    unfold stepC at h1
    have := tw8_inj _ (xor_lt32 ha (byte_shift_lt 0)) h1
    simpa using this

theorem crc_zero_zeros (m : Nat) : crc 0 (List.replicate m 0) = 0 := by
  induction m with
  | zero => rfl
  | succ m ih =>
    rw [List.replicate_succ]
    show crc (stepC 0 0) _ = 0
    rw [show stepC 0 0 = 0 from tw8_zero]; exact ih

theorem xor_small {a b : Nat} (k K : Nat) (hK : K = 2 ^ k) (hb : b < K) : a * K ^^^ b = a * K + b := by
  subst hK
  apply Nat.eq_of_testBit_eq
  intro i
  rw [Nat.testBit_xor, Nat.mul_comm, Nat.testBit_two_pow_mul_add _ hb, Nat.testBit_two_pow_mul]
  by_cases h : i < k
  · have : ¬ k ≤ i := by omega
    simp [h, this]
  · have h' : k ≤ i := by omega
    have h2 : b.testBit i = false := Nat.testBit_lt_two_pow (Nat.lt_of_lt_of_le hb (Nat.pow_le_pow_right (by omega) h'))
    simp [h, h', h2]

theorem four_bytes (e0 e1 e2 e3 : UInt8) (h : crc 0 [e0, e1, e2, e3] = 0) : e0 = 0 ∧ e1 = 0 ∧ e2 = 0 ∧ e3 = 0 := by
  have l0 := UInt8.toNat_lt e0; have l1 := UInt8.toNat_lt e1; have l2 := UInt8.toNat_lt e2; have l3 := UInt8.toNat_lt e3
  have k1 : tw8 (e1.toNat * 65536) = e1.toNat * 16777216 := by rw [tw8_low _ (by omega)]; omega
  have k2 : tw8 (tw8 (e2.toNat * 256)) = e2.toNat * 16777216 := by rw [tw8_low (e2.toNat * 256) (by omega), tw8_low _ (by omega)]; omega
  have k3 : tw8 (tw8 (tw8 e3.toNat)) = e3.toNat * 16777216 := by rw [tw8_low e3.toNat (by omega), tw8_low (e3.toNat * 256) (by omega), tw8_low _ (by omega)]; omega
  have e : crc 0 [e0, e1, e2, e3] = tw8 (tw8 (tw8 (tw8 (((e0.toNat * 16777216 ^^^ e1.toNat * 65536) ^^^ e2.toNat * 256) ^^^ e3.toNat)))) := by
    rw [crc_cons, crc_cons, crc_cons, crc_cons, crc_nil, stepC, stepC, stepC, stepC, Nat.zero_xor, ← k1, ← k2, ← k3, ← tw8_xor, ← tw8_xor, ← tw8_xor, ← tw8_xor, ← tw8_xor, ← tw8_xor]
  rw [e] at h
  have h1 := tw8_inj _ (by
    refine xor_lt32 (xor_lt32 (xor_lt32 ?_ ?_) ?_) ?_ <;> omega) (tw8_inj _ (tw8_lt _) (tw8_inj _ (tw8_lt _) (tw8_inj _ (tw8_lt _) h)))
  have s1 : e0.toNat * 16777216 ^^^ e1.toNat * 65536 = e0.toNat * 16777216 + e1.toNat * 65536 := xor_small (a := e0.toNat) 24 16777216 (by decide) (by omega)
  have s2 : (e0.toNat * 256 + e1.toNat) * 65536 ^^^ e2.toNat * 256 = (e0.toNat * 256 + e1.toNat) * 65536 + e2.toNat * 256 := xor_small 16 65536 (by decide) (by omega)
  have s3 : ((e0.toNat * 256 + e1.toNat) * 256 + e2.toNat) * 256 ^^^ e3.toNat = ((e0.toNat * 256 + e1.toNat) * 256 + e2.toNat) * 256 + e3.toNat := xor_small 8 256 (by decide) (by omega)
  rw [s1, show e0.toNat * 16777216 + e1.toNat * 65536 = (e0.toNat * 256 + e1.toNat) * 65536 by omega, s2, show (e0.toNat * 256 + e1.toNat) * 65536 + e2.toNat * 256 = ((e0.toNat * 256 + e1.toNat) * 256 + e2.toNat) * 256 by omega, s3] at h1
  refine ⟨?_, ?_, ?_, ?_⟩ <;> apply UInt8.toNat_inj.1 <;> simp <;> omega

theorem xorL_self : ∀ l : List UInt8, xorL l l = List.replicate l.length 0
  | [] => rfl
  | c :: l => by
    have := xorL_self l
    unfold xorL at this ⊢
    rw [List.zipWith_cons_cons, this, List.length_cons, List.replicate_succ, UInt8.xor_self]

theorem xorL_append (a b c d : List UInt8) (h : a.length = c.length) : xorL (a ++ b) (c ++ d) = xorL a c ++ xorL b d := by
  unfold xorL; exact List.zipWith_append h

/-- Two texts of one length that differ in four bytes in a row alone have unlike sums. -/
theorem sumN_burst (p q : List UInt8) (a0 a1 a2 a3 b0 b1 b2 b3 : UInt8) (h : ¬ (a0 ^^^ b0 = 0 ∧ a1 ^^^ b1 = 0 ∧ a2 ^^^ b2 = 0 ∧ a3 ^^^ b3 = 0)) :
    ¬ sumN (p ++ ([a0, a1, a2, a3] ++ q)) = sumN (p ++ ([b0, b1, b2, b3] ++ q)) := by
  intro he
  apply h
  unfold sumN at he
  have he2 : crc 4294967295 (p ++ ([a0, a1, a2, a3] ++ q)) = crc 4294967295 (p ++ ([b0, b1, b2, b3] ++ q)) := by
    have := congrArg (· ^^^ 4294967295) he
    simpa [Nat.xor_assoc] using this
  have hx := crc_xor (p ++ ([a0, a1, a2, a3] ++ q)) (p ++ ([b0, b1, b2, b3] ++ q)) 4294967295 4294967295 (by simp)
  rw [he2, Nat.xor_self, Nat.xor_self, xorL_append p _ p _ rfl, xorL_append [a0, a1, a2, a3] _ [b0, b1, b2, b3] _ rfl, xorL_self, xorL_self, crc_append, crc_zero_zeros, crc_append] at hx
  exact four_bytes _ _ _ _ (crc_zeros _ _ (crc_lt _ _ (by omega)) hx)

theorem sum_nine : sumN [49, 50, 51, 52, 53, 54, 55, 56, 57] = 4236843288 := by decide +kernel
theorem sum_none : sumN [] = 0 := by decide +kernel
end Go.Proofs.Ytifmpcldiimdbaa

namespace Go.Proofs.Ytifmpcldiimdbaa
open Go.RowKit

theorem chid {p : Prop} (h : p) : Hid p := h

set_option maxRecDepth 100000 in
set_option maxHeartbeats 400000 in
theorem twice_any (n : Nat) (w : World) (hn : n < 4294967296) :
    Calls Try.prog 79 #[.int .u32 (n : Int)] w fun e w' => e = .returned (.int .u32 (tw n : Nat)) ∧ w' = w := by
  by_cases hh : 2147483648 ≤ n
  · have hx : bits .xor .u32 ((n : Int) * 2 % 4294967296) 79764919 = ((tw n : Nat) : Int) := by
      have hx := u32_xor_nat (2 * n - 4294967296) 79764919 (by omega) (by omega)
      rw [← tw_high n hh hn] at hx
      have e : ((2 * n - 4294967296 : Nat) : Int) = (n : Int) * 2 % 4294967296 := by omega
      rw [e] at hx
      exact hx
    go_enter Try.func79, Try.ntmps79
    go_wp2
    go_ret
    exact ⟨by simp, rfl⟩
  · have hx : ((tw n : Nat) : Int) = (n : Int) * 2 := by rw [tw_low n (by omega)]; omega
    go_enter Try.func79, Try.ntmps79
    go_wp2
    go_ret
    exact ⟨by simp [hx], rfl⟩
end Go.Proofs.Ytifmpcldiimdbaa

namespace Go.Proofs.Ytifmpcldiimdbaa
open Go.RowKit

/-- The array's cells when the bytes below i are done. -/
def tabC (i : Nat) : Array Value := ((List.range 256).map fun j => Value.int .u32 ((if j < i then tabN j else 0 : Nat) : Int)).toArray
theorem tabC_size (i : Nat) : (tabC i).size = 256 := by simp [tabC]
theorem tabC_at (i j : Nat) (h : j < 256) : (tabC i)[j]? = some (.int .u32 ((if j < i then tabN j else 0 : Nat) : Int)) := by
  simp [tabC, h]
theorem tabC_zero : tabC 0 = Array.replicate 256 (.int .u32 0) := by
  apply Array.ext_getElem?
  intro j
  by_cases h : j < 256
  · rw [tabC_at 0 j h]; simp [h]
  · rw [Array.getElem?_eq_none (by rw [tabC_size]; omega), Array.getElem?_eq_none (by simp; omega)]
theorem tabC_set (i : Nat) (h : i < 256) : (tabC i).setIfInBounds i (.int .u32 (tabN i : Nat)) = tabC (i + 1) := by
  apply Array.ext_getElem?
  intro j
  by_cases hj : j < 256
  · rw [tabC_at (i + 1) j hj, Array.getElem?_setIfInBounds]
    by_cases he : i = j
    · subst he; rw [if_pos rfl, if_pos (by rw [tabC_size]; exact h), if_pos (by omega)]
    · rw [if_neg he, tabC_at i j hj]
      by_cases h1 : j < i
      · rw [if_pos h1, if_pos (by omega)]
      · rw [if_neg h1, if_neg (by omega)]
  · rw [Array.getElem?_eq_none (by simp [tabC_size]; omega), Array.getElem?_eq_none (by rw [tabC_size]; omega)]
theorem tabC_one (i : Nat) : (tabC i).all (·.oneCell') = true := by
  rw [Array.all_eq_true]
  intro j hj
  have := tabC_at i j (by rw [tabC_size] at hj; exact hj)
  rw [Array.getElem?_eq_getElem hj] at this
  rw [Option.some.inj this]; rfl
/-- What stands at half the place. -/
theorem tabC_half (i : Nat) (h : i < 256) : (tabC i)[i / 2]? = some (.int .u32 ((tabN (i / 2) : Nat) : Int)) := by
  rw [tabC_at i (i / 2) (by omega)]
  by_cases h1 : i / 2 < i
  · rw [if_pos h1]
  · have : i = 0 := by omega
    subst this
    rw [if_neg h1]; simp [tabN_zero]

/-- A whole array out of the block g, as a walk meets it. -/
theorem wpList_load_row {P : Program} {ops : Array Oper} {rest : List Oper} {op : Oper} {a : Act} {w : World} {Q : Exit → Act → World → Prop} (hgd : op.guard = none) (ty : TypeId) (x : Operand) (ho : op.op = .load ty x)
    (g : Nat) (hx : a.eval x = .pointer (some ⟨g, 0, none⟩)) (cs : Array Value) (t : TypeId) (fr : Nat × Nat) (hg : w.heap[g]? = some (.cells cs t fr)) (n : Nat) (e : TypeId)
    (hu : P.underlying ty = some (.array n e)) (hi : (P.info? ty).map (·.size) = some cs.size)
    (h : wpList P ops Q rest (a.put op.dst (.agg cs)) w) : wpList P ops Q (op :: rest) a w := by
  refine wpList_plain hgd fun K hK => ?_
  unfold Oper.wp execOp
  simp only [ho, hx, Instr.loadAt, Instr.sureAddr, Sem.run_bind, Sem.run_pure, Result.andThen_ok, run_loadVar_row w g t ty cs fr _ hg hu rfl hi]
  exact hK _ _ h

/-- A whole array into the block g, as a walk meets it. -/
theorem wpList_store_row {P : Program} {ops : Array Oper} {rest : List Oper} {op : Oper} {a : Act} {w w' : World} {Q : Exit → Act → World → Prop} (hgd : op.guard = none) (ty : TypeId) (x y : Operand) (ho : op.op = .store ty x y)
    (g : Nat) (cells : Array Value) (hx : a.eval x = .pointer (some ⟨g, 0, none⟩)) (hy : a.eval y = .agg cells) (t : TypeId) (old : Array Value) (hg : w.heap[g]? = some (.cells old t (0, 0)))
    (hi : (P.info? ty).map (·.size) = some cells.size) (hs : old.size = cells.size) (h1 : cells.all (·.oneCell') = true) (hw : w.setRow g cells = w')
    (h : wpList P ops Q rest (a.put op.dst undef) w') : wpList P ops Q (op :: rest) a w := by
  refine wpList_plain hgd fun K hK => ?_
  unfold Oper.wp execOp
  simp only [ho, hx, hy, Instr.storeAt, Instr.sureAddr, Sem.run_bind, Sem.run_pure, Result.andThen_ok, run_storeVar_row w g t ty old cells hg hi hs h1, hw]
  exact hK _ _ h

theorem setRow_alloc_under (w : World) (c c' : Array Value) (t : TypeId) (o : Obj) : ((w.alloc (.cells c t)).alloc o).setRow w.heap.size c' = (w.alloc (.cells c' t)).alloc o := by
  simp only [World.setRow, World.alloc]
  congr 1
  apply Array.ext_getElem?
  intro i
  rw [Array.getElem?_modify]
  by_cases h : w.heap.size = i
  · subst h
    simp [Array.getElem?_push]
  · have h' : ¬ i = w.heap.size := fun e => h e.symm
    simp [h, h', Array.getElem?_push]

theorem heap_alloc_under (w : World) (o o' : Obj) : ((w.alloc o).alloc o').heap[w.heap.size]? = some o := by
  show ((w.heap.push o).push o')[w.heap.size]? = some o
  simp [Array.getElem?_push]

theorem infoArr : (Try.prog.info? 116).map (fun i => (i.zero, i.size)) = some (some (.agg (Array.replicate 256 (.int .u32 0))), 256) := by kernel_rfl

set_option maxHeartbeats 4000000 in
set_option maxRecDepth 100000 in
theorem shiftedOut_any (w : World) :
    Calls Try.prog 67 #[] w fun e w' => e = .returned (.agg (tabC 256)) ∧ w' = (w.alloc (.cells (tabC 256) 116)).alloc (.cells (tabC 256) 116) := by
  obtain ⟨hv, hsz⟩ := zero_of_info infoArr
  rw [← tabC_zero] at hv
  go_enter Try.func67, Try.ntmps67
  go_wp2_with fail
  go_loopw [3] (fun s3 wx => ∃ i : Nat, i ≤ 256 ∧ s3 = .int .i64 i ∧ wx = (w.alloc (.cells (tabC 0) 116)).alloc (.cells (tabC i) 116)) (fun s3 _ => 256 - (intOf s3).toNat)
  case atStart => exact ⟨0, by omega, rfl, rfl⟩
  case round =>
    obtain ⟨i, hi, rfl, rfl⟩ := hrel
    by_cases hlt : i < 256
    · have hc : ((w.alloc (.cells (tabC 0) 116)).alloc (.cells (tabC i) 116)).cell? ⟨w.heap.size + 1, i / 2, none⟩ = some (.int .u32 ((tabN (i / 2) : Nat) : Int)) := by
        rw [World.cell?_alloc_at _ _ _ _ (by simp), tabC_half i hlt]
      have hci : (tabC i)[i]? = some (.int .u32 0) := by rw [tabC_at i i hlt, if_neg (by omega)]; rfl
      have hst := tabN_step i hlt
      have hset := tabC_set i hlt
      have HT : Hid ((tabC i).setIfInBounds i (.int .u32 (tabN i : Nat)) = tabC (i + 1)) := hset
      clear hset
      have htl : tw (tabN (i / 2)) < 4294967296 := tw_lt _
      obtain ⟨x, hx⟩ : ∃ x, x = tw (tabN (i / 2)) := ⟨_, rfl⟩
      rw [← hx] at hst htl
      go_wp2_with fail
      refine (twice_any _ _ (tabN_lt _)).mono ?_
      rintro e w' ⟨rfl, rfl⟩
      rw [← hx]
      clear hc hx
      by_cases hp : i % 2 = 1
      · have hpi : (i : Int) % 2 = 1 := by omega
        have hss : ((tabC i).setIfInBounds i (.int .u32 (x : Nat)))[i]? = some (.int .u32 (x : Nat)) := by
          rw [Array.getElem?_setIfInBounds, if_pos rfl, if_pos (by rw [tabC_size]; exact hlt)]
        rw [if_pos hp] at hst
        have hb : bits .xor .u32 (x : Int) 79764919 = ((tabN i : Nat) : Int) := by
          have := u32_xor_nat x 79764919 htl (by omega)
          rw [← hst] at this
          exact this
        have HS := chid hst
        clear hst hp
        go_wp2
        go_roundw
        case rel => exact ⟨i + 1, by omega, by go_num, by rw [← HT.out]⟩
        case measure => simp [intOf]; omega
      · have hpi : (i : Int) % 2 = 0 := by omega
        rw [if_neg hp, Nat.xor_zero] at hst
        have HS := chid hst
        clear hst hp
        go_wp2
        go_roundw
        case rel => exact ⟨i + 1, by omega, by go_num, by rw [← HT.out, HS.out]⟩
        case measure => simp [intOf]; omega
    · obtain rfl : i = 256 := by omega
      have hT := tabC_size 256
      have hsz' : (Try.prog.info? 116).map (·.size) = some (tabC 256).size := by rw [hT]; exact hsz
      have h1 := tabC_one 256
      have H1 : Hid ((tabC 256).all (·.oneCell') = true) := h1
      have HZ : Hid ((Try.prog.info? 116).map (·.size) = some (tabC 256).size) := hsz'
      clear hT hsz' h1 hv hsz
      have hgT : ((w.alloc (.cells (tabC 0) 116)).alloc (.cells (tabC 256) 116)).heap[w.heap.size + 1]? = some (.cells (tabC 256) 116) := by
        have := heap_alloc_last (w.alloc (.cells (tabC 0) 116)) (.cells (tabC 256) 116)
        rw [← this]; simp
      have HG := chid hgT
      have HU := chid (heap_alloc_under w (.cells (tabC 0) 116) (.cells (tabC 256) 116))
      have HE := chid (show (tabC 0).size = (tabC 256).size by rw [tabC_size, tabC_size])
      have HR := chid (setRow_alloc_under w (tabC 0) (tabC 256) 116 (.cells (tabC 256) 116))
      clear hgT
      go_wp2_with (first
        | refine wpList_load_row rfl 116 _ rfl (w.heap.size + 1) rfl (tabC 256) 116 (0, 0) HG.out 256 115 Try.underlying116 HZ.out ?_
        | refine wpList_store_row rfl 116 _ _ rfl w.heap.size (tabC 256) rfl rfl 116 (tabC 0) HU.out HZ.out HE.out H1.out HR.out ?_)
      have hld : (loadVar 116 ⟨w.heap.size, 0, none⟩).run Try.prog ((w.alloc (.cells (tabC 256) 116)).alloc (.cells (tabC 256) 116)) = .ok (.agg (tabC 256)) ((w.alloc (.cells (tabC 256) 116)).alloc (.cells (tabC 256) 116)) :=
        run_loadVar_row _ _ 116 _ (tabC 256) (0, 0) _ (heap_alloc_under _ _ _) Try.underlying116 rfl HZ.out
      refine bodyPost_ret (v := .agg (tabC 256)) ?_ rfl ⟨rfl, rfl⟩
      simp [results, Try.results67, Act.put, asAddr, hld]
end Go.Proofs.Ytifmpcldiimdbaa

namespace Go.Proofs.Ytifmpcldiimdbaa
open Go.RowKit

theorem crc_take_succ (a : Nat) (l : List UInt8) (i : Nat) (x : UInt8) (h : l[i]? = some x) : crc a (l.take (i + 1)) = stepC (crc a (l.take i)) x := by
  rw [List.take_add_one, h, crc_append]; rfl
theorem data_at (s : ByteArray) (i : Nat) (h : i < s.size) : s.data.toList[i]? = some (s[i]'h) := by
  have : i < s.data.toList.length := by rw [Array.length_toList]; exact h
  rw [List.getElem?_eq_getElem this]; rfl
theorem data_len (s : ByteArray) : s.data.toList.length = s.size := by rw [Array.length_toList]; rfl

set_option maxHeartbeats 4000000 in
set_option maxRecDepth 100000 in
theorem sum_any (s : ByteArray) (w : World) (hs : s.size ≤ 140737488351232) :
    Calls Try.prog 49 #[.string s] w fun e w' => e = .returned (.int .i64 (sumN s.data.toList : Nat)) ∧ Below w.heap.size w w' := by
  obtain ⟨hv, hsz⟩ := zero_of_info infoArr
  rw [← tabC_zero] at hv
  have HZ : Hid ((Try.prog.info? 116).map (·.size) = some (tabC 256).size) := by rw [tabC_size]; exact hsz
  have H1 : Hid ((tabC 256).all (·.oneCell') = true) := tabC_one 256
  have HE : Hid ((tabC 0).size = (tabC 256).size) := by rw [tabC_size, tabC_size]; exact rfl
  clear hsz
  go_enter Try.func49, Try.ntmps49
  go_wp2_with fail
  refine (shiftedOut_any w).mono ?_
  rintro e w1 ⟨rfl, hw1⟩
  have hbel : Below w.heap.size w (w1.alloc (.cells (tabC 256) 116)) := by
    rw [hw1]
    exact (((Below.refl _ _).alloc (Nat.le_refl _) _).alloc (by simp) _).alloc (by simp; omega) _
  clear hw1
  have HU := chid (heap_alloc_last w1 (.cells (tabC 0) 116))
  have HR := chid (World.setRow_alloc_new w1 (tabC 0) (tabC 256) 116)
  go_wp2_with (refine wpList_store_row rfl 116 _ _ rfl w1.heap.size (tabC 256) rfl rfl 116 (tabC 0) HU.out HZ.out HE.out H1.out HR.out ?_)
  have hcells : ∀ j, j < 256 → (w1.alloc (.cells (tabC 256) 116)).cell? ⟨w1.heap.size, j, none⟩ = some (.int .u32 ((tabN j : Nat) : Int)) := fun j hj => by
    rw [World.cell?_alloc_at _ _ _ _ rfl, tabC_at 256 j hj, if_pos hj]
  have HC := chid hcells
  clear hcells hv HZ H1 HE HU HR
  generalize w1.alloc (.cells (tabC 256) 116) = V at *
  generalize w1.heap.size = g at *
  go_loop [4, 9] (fun s4 s9 => ∃ i : Nat, i ≤ s.size ∧ s4 = .int .u32 ((crc 4294967295 (s.data.toList.take i) : Nat) : Int) ∧ s9 = .int .i64 i) (fun _ s9 => s.size - (intOf s9).toNat)
  case atStart => exact ⟨0, by omega, rfl, rfl⟩
  case round =>
    obtain ⟨i, hi, rfl, rfl⟩ := hrel
    have hnl := crc_lt (s.data.toList.take i) 4294967295 (by omega)
    by_cases hlt : i < s.size
    · obtain ⟨x, hx⟩ : ∃ x : UInt8, s[i]'hlt = x := ⟨_, rfl⟩
      have hxl := crc_take_succ 4294967295 s.data.toList i x (by rw [data_at s i hlt, hx])
      obtain ⟨n, hn⟩ : ∃ n, n = crc 4294967295 (s.data.toList.take i) := ⟨_, rfl⟩
      rw [← hn] at hxl hnl ⊢
      have HX := chid hxl
      clear hxl hn
      have hxb := UInt8.toNat_lt x
      have hb1 : bits .xor .u8 ((n : Int) / 16777216) (x.toNat : Int) = ((n / 16777216 % 256 ^^^ x.toNat : Nat) : Int) := by
        have := u8_xor_nat (n / 16777216 % 256) x.toNat (by omega) (by omega)
        rw [← this, show ((n / 16777216 % 256 : Nat) : Int) = (n : Int) / 16777216 by omega]
      obtain ⟨y, hy⟩ : ∃ y, y = n / 16777216 % 256 ^^^ x.toNat := ⟨_, rfl⟩
      have hyl : y < 256 := by rw [hy]; exact Nat.xor_lt_two_pow (n := 8) (by omega) (by omega)
      have hst := stepC_tab n hnl x
      rw [← hy] at hb1 hst
      have hc := HC.out y hyl
      have htl := tabN_lt y
      have hb2 : bits .xor .u32 ((n : Int) * 256 % 4294967296) ((tabN y : Nat) : Int) = ((stepC n x : Nat) : Int) := by
        have := u32_xor_nat (n * 256 % 4294967296) (tabN y) (by omega) htl
        rw [← hst] at this
        exact this
      clear hst hy
      go_wp2
      go_round
      case rel => exact ⟨i + 1, by omega, by rw [HX.out], by go_num⟩
      case measure => simp [intOf]; omega
    · obtain rfl : i = s.size := by omega
      rw [List.take_of_length_le (by rw [data_len]; exact Nat.le_refl _)] at hnl ⊢
      have hb : bits .xor .u32 ((crc 4294967295 s.data.toList : Nat) : Int) 4294967295 = ((sumN s.data.toList : Nat) : Int) := by
        have := u32_xor_nat (crc 4294967295 s.data.toList) 4294967295 hnl (by omega)
        exact this
      have hsl := sumN_lt s.data.toList
      go_wp2
      go_ret
      exact ⟨rfl, hbel⟩
end Go.Proofs.Ytifmpcldiimdbaa

namespace Go.Proofs.Ytifmpcldiimdbaa
open Go.RowKit

def twK : Nat → Nat → Nat
  | 0, m => m
  | k + 1, m => tw (twK k m)
theorem twK_eight (m : Nat) : twK 8 m = tw8 m := rfl
theorem twK_lt (m : Nat) (h : m < 4294967296) : ∀ k, twK k m < 4294967296
  | 0 => h
  | _ + 1 => tw_lt _

theorem ofInt_i64 (a : Nat) (ha : a < 18446744073709551616) : (BitVec.ofInt 64 (a : Int)).toNat = a := by
  rw [BitVec.ofInt_natCast, BitVec.toNat_ofNat]; exact Nat.mod_eq_of_lt (by omega)
theorem i64_xor_nat (a b : Nat) (ha : a < 9223372036854775808) (hb : b < 9223372036854775808) : bits .xor .i64 (a : Int) (b : Int) = ((a ^^^ b : Nat) : Int) := by
  have hx : a ^^^ b < 2 ^ 63 := Nat.xor_lt_two_pow (by omega) (by omega)
  show IntKind.i64.wrap ((BitVec.ofInt 64 (a : Int) ^^^ BitVec.ofInt 64 (b : Int)).toNat : Int) = _
  rw [BitVec.toNat_xor, ofInt_i64 a (by omega), ofInt_i64 b (by omega), IntKind.wrap_i64]
  omega

set_option maxHeartbeats 4000000 in
set_option maxRecDepth 100000 in
theorem rSum_any (s : ByteArray) (w : World) (hs : s.size ≤ 140737488351232) :
    Calls Try.prog 53 #[.string s] w fun e w' => e = .returned (.int .i64 (sumN s.data.toList : Nat)) ∧ w' = w := by
  go_enter Try.func53, Try.ntmps53
  go_wp2_with fail
  go_loop [3, 4] (fun s3 s4 => ∃ i : Nat, i ≤ s.size ∧ s3 = .int .i64 ((crc 4294967295 (s.data.toList.take i) : Nat) : Int) ∧ s4 = .int .i64 i) (fun _ s4 => s.size - (intOf s4).toNat)
  case atStart => exact ⟨0, by omega, rfl, rfl⟩
  case round =>
    obtain ⟨i, hi, rfl, rfl⟩ := hrel
    have hnl := crc_lt (s.data.toList.take i) 4294967295 (by omega)
    by_cases hlt : i < s.size
    · obtain ⟨x, hx⟩ : ∃ x : UInt8, s[i]'hlt = x := ⟨_, rfl⟩
      have hxl := crc_take_succ 4294967295 s.data.toList i x (by rw [data_at s i hlt, hx])
      obtain ⟨n, hn⟩ : ∃ n, n = crc 4294967295 (s.data.toList.take i) := ⟨_, rfl⟩
      rw [← hn] at hxl hnl ⊢
      have HX := chid hxl
      clear hxl hn
      have hxb := UInt8.toNat_lt x
      have hb1 : bits .xor .i64 (n : Int) ((x.toNat : Int) * 16777216) = ((n ^^^ x.toNat * 16777216 : Nat) : Int) := by
        have := i64_xor_nat n (x.toNat * 16777216) (by omega) (by omega)
        exact this
      obtain ⟨m, hm⟩ : ∃ m, m = n ^^^ x.toNat * 16777216 := ⟨_, rfl⟩
      have hml : m < 4294967296 := by rw [hm]; exact xor_lt32 hnl (byte_shift_lt x)
      have HS : Hid (stepC n x = tw8 m) := by rw [hm]; exact rfl
      rw [← hm] at hb1
      clear hm
      go_wp2_with fail
      go_loop [3, 5] (fun s3 s5 => ∃ k : Nat, k ≤ 8 ∧ s3 = .int .i64 ((twK k m : Nat) : Int) ∧ s5 = .int .i64 k) (fun _ s5 => 8 - (intOf s5).toNat)
      case atStart => exact ⟨0, by omega, rfl, rfl⟩
      case round =>
        obtain ⟨k, hk, rfl, rfl⟩ := hrel
        have hkl := twK_lt m hml k
        by_cases hk8 : k < 8
        · obtain ⟨z, hz⟩ : ∃ z, z = twK k m := ⟨_, rfl⟩
          have HK : Hid (twK (k + 1) m = tw z) := by rw [hz]; exact rfl
          rw [← hz] at hkl ⊢
          clear hz
          by_cases hh : 2147483648 ≤ z
          · have hb2 : bits .xor .i64 (2 * (z : Int) - 4294967295 - 1) 79764919 = ((tw z : Nat) : Int) := by
              have := i64_xor_nat (2 * z - 4294967296) 79764919 (by omega) (by omega)
              rw [← tw_high z hh hkl] at this
              have e : ((2 * z - 4294967296 : Nat) : Int) = 2 * (z : Int) - 4294967295 - 1 := by omega
              rw [e] at this
              exact this
            go_wp2
            go_round
            case rel => exact ⟨k + 1, by omega, by rw [HK.out], by go_num⟩
            case measure => simp [intOf]; omega
          · have hb2 : ((tw z : Nat) : Int) = 2 * (z : Int) := by rw [tw_low z (by omega)]; omega
            have HB := chid hb2
            clear hb2
            go_wp2
            go_round
            case rel => exact ⟨k + 1, by omega, by rw [HK.out, HB.out], by go_num⟩
            case measure => simp [intOf]; omega
        · obtain rfl : k = 8 := by omega
          rw [twK_eight, ← HS.out] at *
          go_wp2
          go_round
          case rel => exact ⟨i + 1, by omega, by rw [HX.out], by go_num⟩
          case measure => simp [intOf]; omega
    · obtain rfl : i = s.size := by omega
      rw [List.take_of_length_le (by rw [data_len]; exact Nat.le_refl _)] at hnl ⊢
      have hb : bits .xor .i64 ((crc 4294967295 s.data.toList : Nat) : Int) 4294967295 = ((sumN s.data.toList : Nat) : Int) := by
        have := i64_xor_nat (crc 4294967295 s.data.toList) 4294967295 (by omega) (by omega)
        exact this
      go_wp2
      go_ret
      exact ⟨rfl, rfl⟩
end Go.Proofs.Ytifmpcldiimdbaa
