/- The plain layer of check: the sum of bytes, bit by bit; that it adds up over xor; that four bytes in a row that are others give another sum. -/
import Derived.Test.YtojjepkmnifngaaRows
namespace Go.Proofs.Ytojjepkmnifngaa

/-- What a bit that is shifted out leaves behind. -/
def polyN : Nat := 79764919
/-- All 32 bits. -/
def allN : Nat := 4294967295
/-- One step: twice the number, and what its highest bit leaves. -/
def tw (a : Nat) : Nat := (2 * a % 4294967296) ^^^ (if a.testBit 31 then 79764919 else 0)
def tw8 (a : Nat) : Nat := tw (tw (tw (tw (tw (tw (tw (tw a)))))))
/-- One byte. -/
def stepC (n : Nat) (c : UInt8) : Nat := tw8 (n ^^^ c.toNat * 16777216)
def crc (n : Nat) (l : List UInt8) : Nat := l.foldl stepC n
/-- The document's sum. -/
def sumN (l : List UInt8) : Nat := crc 4294967295 l ^^^ 4294967295

theorem tb31 (a : Nat) (h : a < 4294967296) : a.testBit 31 = decide (2147483648 ≤ a) := by
  rw [Nat.testBit_eq_decide_div_mod_eq]
  congr 1
  apply propext
  constructor
  · intro h2; omega
  · intro h2; omega

theorem tw_lt (a : Nat) : tw a < 4294967296 := by
  unfold tw
  have : (2 * a % 4294967296) ^^^ (if a.testBit 31 then 79764919 else 0) < 2 ^ 32 := by
    apply Nat.xor_lt_two_pow
    · omega
    · split <;> omega
  omega

theorem tw_low (a : Nat) (h : a < 2147483648) : tw a = 2 * a := by
  unfold tw
  rw [tb31 a (by omega), decide_eq_false (by omega), if_neg (by decide), Nat.xor_zero]
  exact Nat.mod_eq_of_lt (by omega)

theorem tw_high (a : Nat) (h : 2147483648 ≤ a) (h2 : a < 4294967296) : tw a = (2 * a - 4294967296) ^^^ 79764919 := by
  unfold tw
  have e : 2 * a % 4294967296 = 2 * a - 4294967296 := by omega
  rw [tb31 a h2, decide_eq_true h, if_pos rfl, e]

theorem xor_left_comm' (m x y : Nat) : m ^^^ (x ^^^ y) = x ^^^ (m ^^^ y) := by
  rw [← Nat.xor_assoc, Nat.xor_comm m x, Nat.xor_assoc]
theorem xor_swap4 (n m x y : Nat) : n ^^^ m ^^^ (x ^^^ y) = n ^^^ x ^^^ (m ^^^ y) := by
  rw [Nat.xor_assoc, Nat.xor_assoc, xor_left_comm' m x y]
theorem tw_xor (a b : Nat) : tw (a ^^^ b) = tw a ^^^ tw b := by
  unfold tw
  have e : 2 * (a ^^^ b) = (2 * a) ^^^ (2 * b) := by
    rw [Nat.mul_comm 2 (a ^^^ b), Nat.mul_comm 2 a, Nat.mul_comm 2 b]
    have := Nat.shiftLeft_xor_distrib (a := a) (b := b) (i := 1)
    simpa [Nat.shiftLeft_eq] using this
  rw [e, show (4294967296 : Nat) = 2 ^ 32 from rfl, Nat.xor_mod_two_pow, Nat.testBit_xor]
  have hp : (if (a.testBit 31 ^^ b.testBit 31) = true then 79764919 else 0) = (if a.testBit 31 = true then 79764919 else 0) ^^^ (if b.testBit 31 = true then 79764919 else 0) := by
    cases a.testBit 31 <;> cases b.testBit 31 <;> rfl
  rw [hp, xor_swap4]

theorem tw_inj (a : Nat) (h : a < 4294967296) (h0 : tw a = 0) : a = 0 := by
  by_cases hh : 2147483648 ≤ a
  · exfalso
    rw [tw_high a hh h] at h0
    have e := Nat.testBit_xor (x := 2 * a - 4294967296) (y := 79764919) (i := 0)
    rw [h0] at e
    have e2 : (2 * a - 4294967296).testBit 0 = false := by
      simp [Nat.testBit_zero]; omega
    rw [e2] at e
    simp at e
  · rw [tw_low a (by omega)] at h0; omega

theorem tw8_lt (a : Nat) : tw8 a < 4294967296 := tw_lt _
theorem tw8_xor (a b : Nat) : tw8 (a ^^^ b) = tw8 a ^^^ tw8 b := by
  unfold tw8; simp only [tw_xor]
theorem tw8_inj (a : Nat) (h : a < 4294967296) (h0 : tw8 a = 0) : a = 0 := by
  unfold tw8 at h0
  exact tw_inj a h (tw_inj _ (tw_lt _) (tw_inj _ (tw_lt _) (tw_inj _ (tw_lt _) (tw_inj _ (tw_lt _) (tw_inj _ (tw_lt _) (tw_inj _ (tw_lt _) (tw_inj _ (tw_lt _) h0)))))))
theorem tw8_low (a : Nat) (h : a < 16777216) : tw8 a = a * 256 := by
  unfold tw8
  rw [tw_low a (by omega), tw_low (2 * a) (by omega), tw_low (2 * (2 * a)) (by omega), tw_low (2 * (2 * (2 * a))) (by omega), tw_low (2 * (2 * (2 * (2 * a)))) (by omega), tw_low (2 * (2 * (2 * (2 * (2 * a))))) (by omega), tw_low (2 * (2 * (2 * (2 * (2 * (2 * a)))))) (by omega), tw_low (2 * (2 * (2 * (2 * (2 * (2 * (2 * a))))))) (by omega)]
  omega
theorem tw8_tw (y : Nat) : tw8 (tw y) = tw (tw8 y) := by simp only [tw8]
theorem tw8_zero : tw8 0 = 0 := by rw [tw8_low 0 (by omega)]

theorem byte_shift_lt (c : UInt8) : c.toNat * 16777216 < 4294967296 := by have := UInt8.toNat_lt c; omega

theorem xor_lt32 {a b : Nat} (ha : a < 4294967296) (hb : b < 4294967296) : a ^^^ b < 4294967296 :=
  Nat.xor_lt_two_pow (n := 32) ha hb

theorem xor_mul_pow (a b k K : Nat) (hK : K = 2 ^ k) : (a ^^^ b) * K = a * K ^^^ b * K := by
  subst hK
  have := Nat.shiftLeft_xor_distrib (a := a) (b := b) (i := k)
  simpa [Nat.shiftLeft_eq] using this

theorem xor_three (x y z a : Nat) : x ^^^ y ^^^ z ^^^ a = x ^^^ a ^^^ (y ^^^ a) ^^^ (z ^^^ a) := by
  rw [xor_swap4 x a y a, Nat.xor_self, Nat.xor_zero, Nat.xor_assoc (x ^^^ y)]
theorem u8_xor_toNat (a b : UInt8) : (a ^^^ b).toNat = a.toNat ^^^ b.toNat := UInt8.toNat_xor a b

theorem stepC_xor (n m : Nat) (c d : UInt8) : stepC (n ^^^ m) (c ^^^ d) = stepC n c ^^^ stepC m d := by
  unfold stepC
  rw [← tw8_xor, u8_xor_toNat, xor_mul_pow _ _ 24 16777216 (by decide)]
  rw [xor_swap4]

/-- Two texts, byte xor byte. -/
def xorL (l m : List UInt8) : List UInt8 := List.zipWith (· ^^^ ·) l m

theorem crc_xor : ∀ (l m : List UInt8) (a b : Nat), l.length = m.length → crc (a ^^^ b) (xorL l m) = crc a l ^^^ crc b m
  | [], [], _, _, _ => rfl
  | c :: l, d :: m, a, b, h => by
    simp only [crc, xorL, List.zipWith_cons_cons, List.foldl_cons]
    rw [stepC_xor]
    exact crc_xor l m _ _ (by simpa using h)

theorem crc_lt (l : List UInt8) (a : Nat) (h : a < 4294967296) : crc a l < 4294967296 := by
  induction l generalizing a with
  | nil => exact h
  | cons c l ih => exact ih _ (tw8_lt _)

theorem crc_nil (a : Nat) : crc a [] = a := rfl
theorem crc_cons (a : Nat) (c : UInt8) (l : List UInt8) : crc a (c :: l) = crc (stepC a c) l := rfl
theorem crc_append (a : Nat) (l m : List UInt8) : crc a (l ++ m) = crc (crc a l) m := by simp [crc]

theorem sumN_lt (l : List UInt8) : sumN l < 4294967296 := xor_lt32 (crc_lt l _ (by omega)) (by omega)

theorem sumN_xor3 (l m k : List UInt8) (h1 : l.length = m.length) (h2 : m.length = k.length) : sumN (xorL (xorL l m) k) = sumN l ^^^ sumN m ^^^ sumN k := by
  unfold sumN
  have e := crc_xor (xorL l m) k (4294967295 ^^^ 4294967295) 4294967295 (by simp [xorL, h1]; omega)
  rw [crc_xor l m _ _ h1, Nat.xor_self, Nat.zero_xor] at e
  rw [e, xor_three]

/-! What a byte shifts out. -/
def tabN (b : Nat) : Nat := tw8 (b * 16777216)

theorem tabN_lt (b : Nat) : tabN b < 4294967296 := tw8_lt _

theorem tabN_step (b : Nat) (h : b < 256) : tabN b = tw (tabN (b / 2)) ^^^ (if b % 2 = 1 then 79764919 else 0) := by
  have e : b * 16777216 = tw (b / 2 * 16777216) ^^^ (b % 2) * 16777216 := by
    have hx : (b / 2 * 2) ^^^ (b % 2) = b := by
      apply Nat.eq_of_testBit_eq
      intro i
      rw [Nat.testBit_xor]
      cases i with
      | zero => simp [Nat.testBit_zero]
      | succ i =>
        rw [Nat.testBit_succ, Nat.testBit_succ, Nat.testBit_succ]
        have e1 : b / 2 * 2 / 2 = b / 2 := by omega
        have e2 : b % 2 / 2 = 0 := by omega
        rw [e1, e2]; simp
    have := xor_mul_pow (b / 2 * 2) (b % 2) 24 16777216 (by decide)
    rw [hx] at this
    rw [tw_low _ (by omega), show 2 * (b / 2 * 16777216) = b / 2 * 2 * 16777216 by omega]
    exact this
  unfold tabN
  rw [e, tw8_xor]
  rw [tw8_tw]
  rcases Nat.mod_two_eq_zero_or_one b with h2 | h2
  · rw [h2, Nat.zero_mul, tw8_zero, if_neg (by decide)]
  · rw [h2, if_pos rfl, show tw8 (1 * 16777216) = 79764919 by decide +kernel]

theorem tabN_zero : tabN 0 = 0 := tw8_zero

/-- The program's byte: the eight steps at once. -/
theorem stepC_tab (n : Nat) (hn : n < 4294967296) (c : UInt8) : stepC n c = (n * 256 % 4294967296) ^^^ tabN (n / 16777216 % 256 ^^^ c.toNat) := by
  unfold stepC tabN
  have hx : n = n / 16777216 * 16777216 ^^^ n % 16777216 := by
    generalize hK : 16777216 = K
    have hK2 : K = 2 ^ 24 := by rw [← hK]
    subst hK2
    apply Nat.eq_of_testBit_eq
    intro i
    rw [Nat.testBit_xor, Nat.testBit_mod_two_pow, ← Nat.shiftLeft_eq, ← Nat.shiftRight_eq_div_pow, Nat.testBit_shiftLeft, Nat.testBit_shiftRight]
    by_cases h : i < 24
    · have : ¬ 24 ≤ i := by omega
      simp [h, this]
    · have h' : 24 ≤ i := by omega
      simp [h, h']
  have e : n ^^^ c.toNat * 16777216 = n % 16777216 ^^^ (n / 16777216 % 256 ^^^ c.toNat) * 16777216 := by
    rw [xor_mul_pow _ _ 24 16777216 (by decide), show n / 16777216 % 256 = n / 16777216 by omega, ← Nat.xor_assoc, Nat.xor_comm (n % 16777216), ← hx]
  rw [e, tw8_xor, tw8_low _ (by omega), show n % 16777216 * 256 = n * 256 % 4294967296 by omega]

/-! Four bytes in a row. -/
theorem crc_zeros (m : Nat) : ∀ a, a < 4294967296 → crc a (List.replicate m 0) = 0 → a = 0 := by
  induction m with
  | zero => intro a _ h; exact h
  | succ m ih =>
    intro a ha h
    rw [List.replicate_succ] at h
    have h1 := ih (stepC a 0) (tw8_lt _) h
    unfold stepC at h1
    have := tw8_inj _ (xor_lt32 ha (byte_shift_lt 0)) h1
    simpa using this

theorem crc_zero_zeros (m : Nat) : crc 0 (List.replicate m 0) = 0 := by
  induction m with
  | zero => rfl
  | succ m ih =>
    rw [List.replicate_succ]
    show crc (stepC 0 0) _ = 0
    rw [show stepC 0 0 = 0 from tw8_zero]; exact ih

theorem xor_small {a b : Nat} (k K : Nat) (hK : K = 2 ^ k) (hb : b < K) : a * K ^^^ b = a * K + b := by
  subst hK
  apply Nat.eq_of_testBit_eq
  intro i
  rw [Nat.testBit_xor, Nat.mul_comm, Nat.testBit_two_pow_mul_add _ hb, Nat.testBit_two_pow_mul]
  by_cases h : i < k
  · have : ¬ k ≤ i := by omega
    simp [h, this]
  · have h' : k ≤ i := by omega
    have h2 : b.testBit i = false := Nat.testBit_lt_two_pow (Nat.lt_of_lt_of_le hb (Nat.pow_le_pow_right (by omega) h'))
    simp [h, h', h2]

theorem four_bytes (e0 e1 e2 e3 : UInt8) (h : crc 0 [e0, e1, e2, e3] = 0) : e0 = 0 ∧ e1 = 0 ∧ e2 = 0 ∧ e3 = 0 := by
  have l0 := UInt8.toNat_lt e0; have l1 := UInt8.toNat_lt e1; have l2 := UInt8.toNat_lt e2; have l3 := UInt8.toNat_lt e3
  have k1 : tw8 (e1.toNat * 65536) = e1.toNat * 16777216 := by rw [tw8_low _ (by omega)]; omega
  have k2 : tw8 (tw8 (e2.toNat * 256)) = e2.toNat * 16777216 := by rw [tw8_low (e2.toNat * 256) (by omega), tw8_low _ (by omega)]; omega
  have k3 : tw8 (tw8 (tw8 e3.toNat)) = e3.toNat * 16777216 := by rw [tw8_low e3.toNat (by omega), tw8_low (e3.toNat * 256) (by omega), tw8_low _ (by omega)]; omega
  have e : crc 0 [e0, e1, e2, e3] = tw8 (tw8 (tw8 (tw8 (((e0.toNat * 16777216 ^^^ e1.toNat * 65536) ^^^ e2.toNat * 256) ^^^ e3.toNat)))) := by
    rw [crc_cons, crc_cons, crc_cons, crc_cons, crc_nil, stepC, stepC, stepC, stepC, Nat.zero_xor, ← k1, ← k2, ← k3, ← tw8_xor, ← tw8_xor, ← tw8_xor, ← tw8_xor, ← tw8_xor, ← tw8_xor]
  rw [e] at h
  have h1 := tw8_inj _ (by
    refine xor_lt32 (xor_lt32 (xor_lt32 ?_ ?_) ?_) ?_ <;> omega) (tw8_inj _ (tw8_lt _) (tw8_inj _ (tw8_lt _) (tw8_inj _ (tw8_lt _) h)))
  have s1 : e0.toNat * 16777216 ^^^ e1.toNat * 65536 = e0.toNat * 16777216 + e1.toNat * 65536 := xor_small (a := e0.toNat) 24 16777216 (by decide) (by omega)
  have s2 : (e0.toNat * 256 + e1.toNat) * 65536 ^^^ e2.toNat * 256 = (e0.toNat * 256 + e1.toNat) * 65536 + e2.toNat * 256 := xor_small 16 65536 (by decide) (by omega)
  have s3 : ((e0.toNat * 256 + e1.toNat) * 256 + e2.toNat) * 256 ^^^ e3.toNat = ((e0.toNat * 256 + e1.toNat) * 256 + e2.toNat) * 256 + e3.toNat := xor_small 8 256 (by decide) (by omega)
  rw [s1, show e0.toNat * 16777216 + e1.toNat * 65536 = (e0.toNat * 256 + e1.toNat) * 65536 by omega, s2, show (e0.toNat * 256 + e1.toNat) * 65536 + e2.toNat * 256 = ((e0.toNat * 256 + e1.toNat) * 256 + e2.toNat) * 256 by omega, s3] at h1
  refine ⟨?_, ?_, ?_, ?_⟩ <;> apply UInt8.toNat_inj.1 <;> simp <;> omega

theorem xorL_self : ∀ l : List UInt8, xorL l l = List.replicate l.length 0
  | [] => rfl
  | c :: l => by
    have := xorL_self l
    unfold xorL at this ⊢
    rw [List.zipWith_cons_cons, this, List.length_cons, List.replicate_succ, UInt8.xor_self]

theorem xorL_append (a b c d : List UInt8) (h : a.length = c.length) : xorL (a ++ b) (c ++ d) = xorL a c ++ xorL b d := by
  unfold xorL; exact List.zipWith_append h

/-- Two texts of one length that differ in four bytes in a row alone have unlike sums. -/
theorem sumN_burst (p q : List UInt8) (a0 a1 a2 a3 b0 b1 b2 b3 : UInt8) (h : ¬ (a0 ^^^ b0 = 0 ∧ a1 ^^^ b1 = 0 ∧ a2 ^^^ b2 = 0 ∧ a3 ^^^ b3 = 0)) :
    ¬ sumN (p ++ ([a0, a1, a2, a3] ++ q)) = sumN (p ++ ([b0, b1, b2, b3] ++ q)) := by
  intro he
  apply h
  unfold sumN at he
  have he2 : crc 4294967295 (p ++ ([a0, a1, a2, a3] ++ q)) = crc 4294967295 (p ++ ([b0, b1, b2, b3] ++ q)) := by
    have := congrArg (· ^^^ 4294967295) he
    simpa [Nat.xor_assoc] using this
  have hx := crc_xor (p ++ ([a0, a1, a2, a3] ++ q)) (p ++ ([b0, b1, b2, b3] ++ q)) 4294967295 4294967295 (by simp)
  rw [he2, Nat.xor_self, Nat.xor_self, xorL_append p _ p _ rfl, xorL_append [a0, a1, a2, a3] _ [b0, b1, b2, b3] _ rfl, xorL_self, xorL_self, crc_append, crc_zero_zeros, crc_append] at hx
  exact four_bytes _ _ _ _ (crc_zeros _ _ (crc_lt _ _ (by omega)) hx)

theorem sum_nine : sumN [49, 50, 51, 52, 53, 54, 55, 56, 57] = 4236843288 := by decide +kernel
theorem sum_none : sumN [] = 0 := by decide +kernel
end Go.Proofs.Ytojjepkmnifngaa
