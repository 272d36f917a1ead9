/- Plain mathematics of layer 1, the second part: what the number of eight bytes is held against; readings of what was put. -/
import Derived.Test.YtdegdoiecfoieaaMath
namespace Go.Proofs.Ytdegdoiecfoieaa

theorem beVal_append (a b : List UInt8) : beVal (a ++ b) = beVal a * 256 ^ b.length + beVal b := by
  unfold beVal
  rw [List.foldl_append, beVal_cons_aux]; rfl

theorem beVal_take_le (l : List UInt8) {j k : Nat} (h : j ≤ k) : beVal (l.take j) ≤ beVal (l.take k) := by
  have e : l.take k = l.take j ++ (l.take k).drop j := by
    rw [show l.take j = (l.take k).take j by rw [List.take_take, Nat.min_eq_left h], List.take_append_drop]
  rw [e, beVal_append]
  have : 0 < 256 ^ ((l.take k).drop j).length := Nat.pow_pos (by omega)
  have := Nat.le_mul_of_pos_right (beVal (l.take j)) this
  omega

theorem big_iff (x : UInt8) (r : List UInt8) (k : Nat) (hk : 0 < k) (h8 : k ≤ 8) (hl : k ≤ (x :: r).length) :
    9223372036854775807 < beVal ((x :: r).take k) ↔ k = 8 ∧ 127 < x.toNat := by
  obtain ⟨j, rfl⟩ : ∃ j, k = j + 1 := ⟨k - 1, by omega⟩
  rw [List.take_succ_cons, beVal_cons]
  have hlen : (r.take j).length = j := by rw [List.length_take]; simp at hl; omega
  have hb := beVal_lt (r.take j)
  rw [hlen] at hb ⊢
  have hx := x.toNat_lt
  generalize beVal (r.take j) = v at *
  by_cases h7 : j = 7
  · subst h7
    rw [show (256 : Nat) ^ 7 = 72057594037927936 from rfl] at *
    omega
  · have hp : 256 ^ j ≤ 256 ^ 6 := Nat.pow_le_pow_right (by omega) (by omega)
    rw [show (256 : Nat) ^ 6 = 281474976710656 from rfl] at hp
    have hm : x.toNat * 256 ^ j ≤ 255 * 281474976710656 := Nat.mul_le_mul (by omega) hp
    constructor
    · intro h; omega
    · intro h; omega
end Go.Proofs.Ytdegdoiecfoieaa
