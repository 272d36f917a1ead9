/- Plain mathematics of layer 1: a number's bytes and the number that bytes begin with. Imports nothing of the program. -/
import Derived.Lib.BitFns
namespace Go.Proofs.Ytnepednomejniaa
/-- The digits of n to base 256, the lowest first (at most f of them). -/
def lowD : Nat → Nat → List UInt8
  | 0, _ => []
  | f + 1, n => if n = 0 then [] else UInt8.ofNat (n % 256) :: lowD f (n / 256)

/-- A number's bytes. -/
def numB (n : Nat) : List UInt8 := UInt8.ofNat (lowD 8 n).length :: (lowD 8 n).reverse

/-- What bytes mean, the highest first. -/
def beVal (l : List UInt8) : Nat := l.foldl (fun a b => a * 256 + b.toNat) 0

theorem lowD_zero (f : Nat) : lowD f 0 = [] := by cases f <;> simp [lowD]
theorem lowD_pos (f n : Nat) (h : 0 < n) : lowD (f + 1) n = UInt8.ofNat (n % 256) :: lowD f (n / 256) := by
  simp [lowD, Nat.pos_iff_ne_zero.1 h]
theorem lowD_le (f : Nat) : ∀ n, (lowD f n).length ≤ f := by
  induction f with
  | zero => intro n; simp [lowD]
  | succ f ih => intro n; unfold lowD; split <;> simp; exact ih _

theorem lowD_more (f : Nat) : ∀ n, n < 256 ^ f → lowD (f + 1) n = lowD f n := by
  induction f with
  | zero => intro n h; simp at h; subst h; simp [lowD]
  | succ f ih =>
    intro n h
    by_cases h0 : n = 0
    · subst h0; simp [lowD]
    · rw [lowD_pos (f + 1) n (by omega), lowD_pos f n (by omega), ih (n / 256) (by rw [Nat.div_lt_iff_lt_mul (by omega)]; rw [Nat.pow_succ] at h; exact h)]

theorem lowD_get (f : Nat) : ∀ n j, n < 256 ^ f → (lowD f n)[j]?.getD 0 = UInt8.ofNat (n / 256 ^ j % 256) := by
  induction f with
  | zero => intro n j h; simp at h; subst h; simp [lowD]
  | succ f ih =>
    intro n j h
    by_cases h0 : n = 0
    · subst h0; simp [lowD]
    · rw [lowD_pos _ _ (by omega)]
      cases j with
      | zero => simp
      | succ j =>
        simp only [List.getElem?_cons_succ]
        rw [ih _ _ (by rw [Nat.div_lt_iff_lt_mul (by omega)]; rw [Nat.pow_succ] at h; exact h)]
        rw [Nat.div_div_eq_div_mul, Nat.pow_succ, Nat.mul_comm]

/-- The digits are as many as eights of bits are begun. -/
theorem lowD_length_iff (f : Nat) : ∀ n j, n < 256 ^ f → (j < (lowD f n).length ↔ 256 ^ j ≤ n) := by
  induction f with
  | zero => intro n j h; simp at h; subst h; simp [lowD]
  | succ f ih =>
    intro n j h
    by_cases h0 : n = 0
    · subst h0; simp [lowD]
    · rw [lowD_pos _ _ (by omega)]
      cases j with
      | zero => simp; omega
      | succ j =>
        simp only [List.length_cons, Nat.add_lt_add_iff_right]
        rw [ih _ _ (by rw [Nat.div_lt_iff_lt_mul (by omega)]; rw [Nat.pow_succ] at h; exact h)]
        rw [Nat.le_div_iff_mul_le (by omega), Nat.pow_succ]

theorem bitLenAux_iff (f : Nat) : ∀ x j, x < 2 ^ f → (j < Lib.bitLenAux f x ↔ 2 ^ j ≤ x) := by
  induction f with
  | zero => intro x j h; simp at h; subst h; simp [Lib.bitLenAux]
  | succ f ih =>
    intro x j h
    unfold Lib.bitLenAux
    by_cases h0 : x = 0
    · subst h0; simp
    · simp only [h0, if_false]
      cases j with
      | zero => simp; omega
      | succ j =>
        rw [show (j + 1 < 1 + Lib.bitLenAux f (x / 2)) ↔ j < Lib.bitLenAux f (x / 2) by omega]
        rw [ih _ _ (by rw [Nat.div_lt_iff_lt_mul (by omega)]; rw [Nat.pow_succ] at h; exact h)]
        rw [Nat.le_div_iff_mul_le (by omega), Nat.pow_succ]

theorem bitLen_iff (x j : Nat) (h : x < 2 ^ 64) : j < Lib.bitLen x ↔ 2 ^ j ≤ x := bitLenAux_iff 64 x j h

/-- How many bytes a number has behind its first. -/
theorem size_eq (n : Nat) (h : n < 2 ^ 63) : (Lib.bitLen n + 7) / 8 = (lowD 8 n).length := by
  have hn : n < 256 ^ 8 := Nat.lt_of_lt_of_le h (by decide)
  have key : ∀ j, j < (Lib.bitLen n + 7) / 8 ↔ j < (lowD 8 n).length := by
    intro j
    rw [lowD_length_iff 8 n j hn, show (256 ^ j) = 2 ^ (8 * j) by rw [Nat.pow_mul]]
    rw [← bitLen_iff n (8 * j) (Nat.lt_of_lt_of_le h (by decide))]
    omega
  have a := key ((lowD 8 n).length)
  have b := key ((Lib.bitLen n + 7) / 8)
  omega
/-- What numBytes' row holds behind i rounds. -/
def rowN (m sz i : Nat) : List UInt8 := UInt8.ofNat sz :: (List.replicate (sz - i) 0 ++ ((lowD 8 m).take i).reverse)

theorem rowN_start (m sz : Nat) : (List.replicate (1 + sz) (0 : UInt8)).set 0 (UInt8.ofNat sz) = rowN m sz 0 := by
  rw [Nat.add_comm 1 sz, List.replicate_succ]; simp [rowN]

theorem rowN_end (m : Nat) : rowN m (lowD 8 m).length (lowD 8 m).length = numB m := by
  simp [rowN, numB]

theorem rowN_length (m sz i : Nat) (h : sz = (lowD 8 m).length) (hi : i ≤ sz) : (rowN m sz i).length = 1 + sz := by
  simp [rowN]; omega

theorem rowN_step (m sz i : Nat) (h : sz = (lowD 8 m).length) (hi : i < sz) (hm : m < 256 ^ 8) :
    (rowN m sz i).set (sz - i) (UInt8.ofNat (m / 256 ^ i % 256)) = rowN m sz (i + 1) := by
  have hg := lowD_get 8 m i hm
  rw [List.getElem?_eq_getElem (by omega)] at hg
  simp only [Option.getD_some] at hg
  unfold rowN
  rw [show sz - i = (sz - (i + 1)) + 1 by omega, List.set_cons_succ, List.replicate_succ', List.append_assoc, List.set_append_right _ _ (by simp)]
  rw [List.length_replicate, Nat.sub_self, List.singleton_append, List.set_cons_zero]
  rw [List.take_succ_eq_append_getElem (by omega), List.reverse_append, hg]
  simp
theorem low_step (m c : Nat) (acc : List UInt8) (hl : acc.length < 8) (h0 : 0 < c) (hc : c < 256 ^ (8 - acc.length)) (heq : acc ++ lowD (8 - acc.length) c = lowD 8 m) :
    c / 256 < 256 ^ (8 - (acc ++ [UInt8.ofNat (c % 256)]).length) ∧ (acc ++ [UInt8.ofNat (c % 256)]) ++ lowD (8 - (acc ++ [UInt8.ofNat (c % 256)]).length) (c / 256) = lowD 8 m := by
  have e : 8 - acc.length = (8 - (acc ++ [UInt8.ofNat (c % 256)]).length) + 1 := by simp; omega
  rw [e] at hc heq
  refine ⟨by rw [Nat.div_lt_iff_lt_mul (by omega)]; rw [Nat.pow_succ] at hc; exact hc, ?_⟩
  rw [lowD_pos _ _ h0] at heq
  rw [List.append_assoc]; exact heq

theorem ofNat_mod (c : Nat) : ((UInt8.ofNat (c % 256)).toNat : Int) = (c : Int) % 256 := by
  rw [UInt8.toNat_ofNat']; omega
theorem down_step (m k : Nat) (x : UInt8) (hx : (lowD 8 m)[k]? = some x) (h : UInt8) :
    h :: ((lowD 8 m).drop (k + 1)).reverse ++ [x] = h :: ((lowD 8 m).drop k).reverse := by
  obtain ⟨hk, e⟩ := List.getElem?_eq_some_iff.1 hx
  rw [List.drop_eq_getElem_cons hk, e]; simp

theorem numB_nil (m : Nat) (h : lowD 8 m = []) : numB m = [0] := by simp [numB, h]
theorem numB_length (m : Nat) : (numB m).length = 1 + (lowD 8 m).length := by simp [numB]; omega
theorem numB_le (m : Nat) : (numB m).length ≤ 9 := by have := lowD_le 8 m; rw [numB_length]; omega
theorem beVal_snoc (l : List UInt8) (x : UInt8) : beVal (l ++ [x]) = beVal l * 256 + x.toNat := by simp [beVal]
theorem beVal_cons_aux (l : List UInt8) : ∀ a, l.foldl (fun a b => a * 256 + b.toNat) a = a * 256 ^ l.length + beVal l := by
  induction l with
  | nil => intro a; simp [beVal]
  | cons x l ih =>
    intro a
    simp only [List.foldl_cons, beVal, List.length_cons]
    rw [ih, ih (0 * 256 + x.toNat), Nat.pow_succ, Nat.add_mul]
    simp only [Nat.zero_mul, Nat.zero_add]
    rw [Nat.mul_assoc, Nat.mul_comm 256, Nat.add_assoc]
theorem beVal_cons (x : UInt8) (l : List UInt8) : beVal (x :: l) = x.toNat * 256 ^ l.length + beVal l := by
  have := beVal_cons_aux l x.toNat
  simpa [beVal] using this
theorem beVal_lt (l : List UInt8) : beVal l < 256 ^ l.length := by
  induction l with
  | nil => simp [beVal]
  | cons x l ih =>
    rw [beVal_cons, List.length_cons, Nat.pow_succ]
    have h1 : x.toNat ≤ 255 := by have := x.toNat_lt; omega
    have h2 := Nat.mul_le_mul_right (256 ^ l.length) h1
    omega
theorem pow8_le {k : Nat} (h : k ≤ 7) : 256 ^ k ≤ 72057594037927936 := by
  have : 256 ^ k ≤ 256 ^ 7 := Nat.pow_le_pow_right (by omega) h
  omega
theorem take_snoc (s : ByteArray) (k : Nat) (h : k < s.size) : s.data.toList.take (k + 1) = s.data.toList.take k ++ [s[k]] := by
  rw [List.take_succ_eq_append_getElem (by simpa using h)]; rfl
/-- The number that bytes begin with, how many bytes it has, and why there is none (ErrNum 10, ErrCut 11). -/
def numP (l : List UInt8) : Nat × Nat × Nat :=
  match l with
  | [] => (0, 0, 11)
  | c :: r =>
    if 8 < c.toNat then (0, 0, 10)
    else if r.length < c.toNat then (0, 0, 11)
    else if (0 < c.toNat ∧ r.head? = some 0) ∨ 9223372036854775807 < beVal (r.take c.toNat) then (0, 0, 10)
    else (beVal (r.take c.toNat), 1 + c.toNat, 0)

theorem numP_gt (c : UInt8) (r : List UInt8) (h : 8 < c.toNat) : numP (c :: r) = (0, 0, 10) := by simp [numP, h]
theorem numP_cut (c : UInt8) (r : List UInt8) (h : ¬ 8 < c.toNat) (h2 : r.length < c.toNat) : numP (c :: r) = (0, 0, 11) := by simp [numP, h, h2]
theorem numP_zero (c : UInt8) (r : List UInt8) (h : ¬ 8 < c.toNat) (h2 : ¬ r.length < c.toNat) (h3 : 0 < c.toNat) (h4 : r.head? = some 0) : numP (c :: r) = (0, 0, 10) := by
  simp only [numP, h, h2, if_false]; rw [if_pos (Or.inl ⟨h3, h4⟩)]
theorem numP_big (c : UInt8) (r : List UInt8) (h : ¬ 8 < c.toNat) (h2 : ¬ r.length < c.toNat) (h4 : 9223372036854775807 < beVal (r.take c.toNat)) : numP (c :: r) = (0, 0, 10) := by
  simp only [numP, h, h2, if_false]; rw [if_pos (Or.inr h4)]
theorem numP_ok (c : UInt8) (r : List UInt8) (h : ¬ 8 < c.toNat) (h2 : ¬ r.length < c.toNat) (h3 : ¬ (0 < c.toNat ∧ r.head? = some 0)) (h4 : ¬ 9223372036854775807 < beVal (r.take c.toNat)) :
    numP (c :: r) = (beVal (r.take c.toNat), 1 + c.toNat, 0) := by
  simp only [numP, h, h2, if_false]; rw [if_neg (fun g => g.elim h3 h4)]
end Go.Proofs.Ytnepednomejniaa
