/- LinkAll: behind whatever script of up to 150 acts on a line of two ends, once all that an end sends again comes, in whatever order, all that was put has come and nothing waits: for every epochs, script and turn. -/
import Derived.Test.YtifmpcldiimdbaaXEPay
import Derived.Laws.BitsAllLaws
namespace Go.Proofs.Ytifmpcldiimdbaa
open Go.RowKit

theorem i64_maskE (n : Int) (k : Nat) (m M : Int) (hk : k ≤ 62) (hm : (BitVec.ofInt 64 m).toNat = 2 ^ k - 1) (hM : M = ((2 ^ k : Nat) : Int)) : bits .and .i64 n m = n % M := by
  have key : (BitVec.ofInt 64 n &&& BitVec.ofInt 64 m).toNat = (n % ((2 ^ 64 : Nat) : Int)).toNat % 2 ^ k := by
    rw [BitVec.toNat_and, BitVec.toNat_ofInt, hm, Nat.and_two_pow_sub_one_eq_mod]
  show IntKind.i64.wrap ((BitVec.ofInt 64 n &&& BitVec.ofInt 64 m).toNat : Nat) = n % M
  have hd : (2 ^ 64 : Nat) = 2 ^ k * 2 ^ (64 - k) := by rw [← Nat.pow_add]; congr 1; omega
  have e : ((n % ((2 ^ 64 : Nat) : Int)).toNat % 2 ^ k : Nat) = (n % ((2 ^ k : Nat) : Int)).toNat := by
    apply Int.ofNat.inj
    show (((n % ((2 ^ 64 : Nat) : Int)).toNat % 2 ^ k : Nat) : Int) = ((n % ((2 ^ k : Nat) : Int)).toNat : Int)
    rw [Int.natCast_emod, Int.toNat_of_nonneg (Int.emod_nonneg _ (by omega)), Int.toNat_of_nonneg (Int.emod_nonneg _ (by have := Nat.two_pow_pos k; omega))]
    exact Int.emod_emod_of_dvd _ (Int.natCast_dvd_natCast.2 ⟨2 ^ (64 - k), hd⟩)
  have hlt : (2 ^ k : Nat) ≤ 2 ^ 62 := Nat.pow_le_pow_right (by omega) hk
  have hp := Nat.two_pow_pos k
  have h1 : 0 ≤ n % ((2 ^ k : Nat) : Int) := Int.emod_nonneg _ (by omega)
  have h2 : n % ((2 ^ k : Nat) : Int) < ((2 ^ k : Nat) : Int) := Int.emod_lt_of_pos _ (by omega)
  rw [key, e, IntKind.wrap_i64, hM]
  omega
/-- Which one of so many. -/
theorem mask16_mod (z : Int) (m : Nat) (hm : 0 < m) : ∃ n : Nat, (bits .and .i64 z 65535).tmod (m : Int) = (n : Int) ∧ n < m := by
  have h := i64_maskE z 16 65535 65536 (by decide) (by decide) (by decide)
  refine ⟨((z % 65536) % (m : Int)).toNat, ?_, ?_⟩
  · rw [h, Int.tmod_eq_emod_of_nonneg (by omega)]
    have := Int.emod_nonneg (z % 65536) (show (m : Int) ≠ 0 by omega)
    omega
  · have h1 := Int.emod_nonneg (z % 65536) (show (m : Int) ≠ 0 by omega)
    have h2 := Int.emod_lt_of_pos (z % 65536) (show (0 : Int) < m by omega)
    omega
theorem mask_nat (z : Int) (k : Nat) (m M : Int) (hk : k ≤ 62) (hm : (BitVec.ofInt 64 m).toNat = 2 ^ k - 1) (hM : M = ((2 ^ k : Nat) : Int)) : ∃ n : Nat, bits .and .i64 z m = (n : Int) ∧ n < 2 ^ k := by
  have h := i64_maskE z k m M hk hm hM
  have hp := Nat.two_pow_pos k
  have h1 := Int.emod_nonneg z (show M ≠ 0 by omega)
  have h2 := Int.emod_lt_of_pos z (show (0 : Int) < M by omega)
  exact ⟨(z % M).toNat, by rw [h]; omega, by omega⟩
end Go.Proofs.Ytifmpcldiimdbaa
