import Derived.Test.YtbknlmalfkpenabCSum
namespace Go.Proofs.Ytbknlmalfkpenab
open Go.RowKit

def twK : Nat → Nat → Nat
  | 0, m => m
  | k + 1, m => tw (twK k m)
theorem twK_eight (m : Nat) : twK 8 m = tw8 m := rfl
theorem twK_lt (m : Nat) (h : m < 4294967296) : ∀ k, twK k m < 4294967296
  | 0 => h
  | _ + 1 => tw_lt _

theorem ofInt_i64 (a : Nat) (ha : a < 18446744073709551616) : (BitVec.ofInt 64 (a : Int)).toNat = a := by
  rw [BitVec.ofInt_natCast, BitVec.toNat_ofNat]; exact Nat.mod_eq_of_lt (by omega)
theorem i64_xor_nat (a b : Nat) (ha : a < 9223372036854775808) (hb : b < 9223372036854775808) : bits .xor .i64 (a : Int) (b : Int) = ((a ^^^ b : Nat) : Int) := by
  have hx : a ^^^ b < 2 ^ 63 := Nat.xor_lt_two_pow (by omega) (by omega)
  show IntKind.i64.wrap ((BitVec.ofInt 64 (a : Int) ^^^ BitVec.ofInt 64 (b : Int)).toNat : Int) = _
  rw [BitVec.toNat_xor, ofInt_i64 a (by omega), ofInt_i64 b (by omega), IntKind.wrap_i64]
  omega

end Go.Proofs.Ytbknlmalfkpenab
