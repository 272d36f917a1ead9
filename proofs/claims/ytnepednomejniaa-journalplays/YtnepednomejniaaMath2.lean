/- Plain mathematics of layer 1, the second part: what the number of eight bytes is held against; readings of what was put. -/
import Derived.Test.YtnepednomejniaaMath
namespace Go.Proofs.Ytnepednomejniaa

theorem beVal_append (a b : List UInt8) : beVal (a ++ b) = beVal a * 256 ^ b.length + beVal b := by
  unfold beVal
  rw [List.foldl_append, beVal_cons_aux]; rfl

theorem beVal_take_le (l : List UInt8) {j k : Nat} (h : j ≤ k) : beVal (l.take j) ≤ beVal (l.take k) := by
  have e : l.take k = l.take j ++ (l.take k).drop j := by
    rw [show l.take j = (l.take k).take j by rw [List.take_take, Nat.min_eq_left h], List.take_append_drop]
  rw [e, beVal_append]
  have : 0 < 256 ^ ((l.take k).drop j).length := Nat.pow_pos (by omega)
  have := Nat.le_mul_of_pos_right (beVal (l.take j)) this
  omega

theorem big_iff (x : UInt8) (r : List UInt8) (k : Nat) (hk : 0 < k) (h8 : k ≤ 8) (hl : k ≤ (x :: r).length) :
    9223372036854775807 < beVal ((x :: r).take k) ↔ k = 8 ∧ 127 < x.toNat := by
  obtain ⟨j, rfl⟩ : ∃ j, k = j + 1 := ⟨k - 1, by omega⟩
  rw [List.take_succ_cons, beVal_cons]
  have hlen : (r.take j).length = j := by rw [List.length_take]; simp at hl; omega
  have hb := beVal_lt (r.take j)
  rw [hlen] at hb ⊢
  have hx := x.toNat_lt
  generalize beVal (r.take j) = v at *
  by_cases h7 : j = 7
  · subst h7
    rw [show (256 : Nat) ^ 7 = 72057594037927936 from rfl] at *
    omega
  · have hp : 256 ^ j ≤ 256 ^ 6 := Nat.pow_le_pow_right (by omega) (by omega)
    rw [show (256 : Nat) ^ 6 = 281474976710656 from rfl] at hp
    have hm : x.toNat * 256 ^ j ≤ 255 * 281474976710656 := Nat.mul_le_mul (by omega) hp
    constructor
    · intro h; omega
    · intro h; omega

theorem beVal_low (f : Nat) : ∀ n, n < 256 ^ f → beVal (lowD f n).reverse = n := by
  induction f with
  | zero => intro n h; simp at h; subst h; rfl
  | succ f ih =>
    intro n h
    by_cases h0 : n = 0
    · subst h0; simp [lowD, beVal]
    · rw [lowD_pos _ _ (by omega), List.reverse_cons, beVal_snoc, ih _ (by rw [Nat.div_lt_iff_lt_mul (by omega)]; rw [Nat.pow_succ] at h; exact h), UInt8.toNat_ofNat']
      omega

theorem low_top (f : Nat) : ∀ n, n < 256 ^ f → (lowD f n).getLast? ≠ some 0 := by
  induction f with
  | zero => intro n h; simp [lowD]
  | succ f ih =>
    intro n h
    by_cases h0 : n = 0
    · subst h0; simp [lowD]
    · rw [lowD_pos _ _ (by omega)]
      have hd : n / 256 < 256 ^ f := by rw [Nat.div_lt_iff_lt_mul (by omega)]; rw [Nat.pow_succ] at h; exact h
      have := ih _ hd
      by_cases hq : n / 256 = 0
      · rw [hq, lowD_zero]
        simp only [List.getLast?_singleton, ne_eq, Option.some.injEq]
        intro e
        have e2 := congrArg UInt8.toNat e
        rw [UInt8.toNat_ofNat'] at e2
        have : (0 : UInt8).toNat = 0 := rfl
        omega
      · cases f with
        | zero => simp at hd; omega
        | succ f =>
          rw [lowD_pos _ _ (by omega)] at this ⊢
          rw [List.getLast?_cons_cons]; exact this

theorem numP_numB (n : Nat) (h : n < 2 ^ 63) (t : List UInt8) : numP (numB n ++ t) = (n, (numB n).length, 0) := by
  have hn : n < 256 ^ 8 := Nat.lt_of_lt_of_le h (by decide)
  have hl := lowD_le 8 n
  have hc : (UInt8.ofNat (lowD 8 n).length).toNat = (lowD 8 n).length := by rw [UInt8.toNat_ofNat']; omega
  have hb := beVal_low 8 n hn
  have ht := low_top 8 n hn
  have htk : ((lowD 8 n).reverse ++ t).take (UInt8.ofNat (lowD 8 n).length).toNat = (lowD 8 n).reverse := by
    rw [hc]; exact List.take_left' (by simp)
  have e : numB n ++ t = UInt8.ofNat (lowD 8 n).length :: ((lowD 8 n).reverse ++ t) := rfl
  rw [e, numP_ok]
  · rw [htk, hb, hc, numB_length]
  · omega
  · rw [hc]; simp
  · rw [hc]
    rintro ⟨h0, h1⟩
    apply ht
    rw [List.getLast?_eq_head?_reverse]
    rw [List.head?_append] at h1
    cases hrev : (lowD 8 n).reverse with
    | nil => simp at hrev; rw [hrev] at h0; simp at h0
    | cons y ys => rw [hrev] at h1; simpa using h1
  · rw [htk, hb]; omega

theorem numB_inj {n m : Nat} (hn : n < 2 ^ 63) (hm : m < 2 ^ 63) (h : numB n = numB m) : n = m := by
  have a := numP_numB n hn []
  have b := numP_numB m hm []
  rw [h, b] at a
  exact (congrArg Prod.fst a).symm
end Go.Proofs.Ytnepednomejniaa
