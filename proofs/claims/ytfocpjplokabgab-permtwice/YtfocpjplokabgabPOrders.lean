/- The statement of two orders. -/
import Derived.Test.YtfocpjplokabgabPOpen
namespace Go.Proofs.Ytfocpjplokabgab
open Go.RowKit

theorem i64_and65535 (n : Int) : bits .and .i64 n 65535 = n % 65536 := by
  have hm : (BitVec.ofInt 64 65535).toNat = 2 ^ 16 - 1 := by decide
  have key : (BitVec.ofInt 64 n &&& BitVec.ofInt 64 65535).toNat = (n % ((2 ^ 64 : Nat) : Int)).toNat % 2 ^ 16 := by
    rw [BitVec.toNat_and, BitVec.toNat_ofInt, hm, Nat.and_two_pow_sub_one_eq_mod]
  show IntKind.i64.wrap ((BitVec.ofInt 64 n &&& BitVec.ofInt 64 65535).toNat : Nat) = n % 65536
  rw [key, IntKind.wrap_i64]
  omega
/-- A place among six, out of a number. -/
theorem six (n : Int) : ∃ q K : Nat, bits .and .i64 n 65535 = (q : Int) ∧ (q : Int).tmod 6 = (K : Int) ∧ K < 6 ∧ IntKind.i64.wrap (K : Int) = (K : Int) := by
  have h : 0 ≤ n % 65536 := by omega
  refine ⟨(n % 65536).toNat, ((n % 65536).toNat) % 6, by rw [i64_and65535]; omega, ?_, by omega, by rw [IntKind.wrap_i64]; omega⟩
  rw [Int.tmod_eq_emod_of_nonneg (by omega)]
  omega
/-- The six orders, as the statements list them. -/
def ods : List Od := [⟨0, 1, 2⟩, ⟨1, 2, 0⟩, ⟨2, 0, 1⟩, ⟨0, 2, 1⟩, ⟨1, 0, 2⟩, ⟨2, 1, 0⟩]
theorem ods_ok {K : Nat} {o : Od} (h : ods[K]? = some o) : o.ok := by
  have hm := List.mem_of_getElem? h
  simp only [ods, List.mem_cons, List.not_mem_nil, or_false] at hm
  rcases hm with rfl | rfl | rfl | rfl | rfl | rfl <;> (unfold Od.ok; decide)
def odCs : Array Value := #[.int .i64 0, .int .i64 1, .int .i64 2, .int .i64 1, .int .i64 2, .int .i64 0, .int .i64 2, .int .i64 0, .int .i64 1, .int .i64 0, .int .i64 2, .int .i64 1, .int .i64 1, .int .i64 0, .int .i64 2, .int .i64 2, .int .i64 1, .int .i64 0]
theorem ods_at {w : World} {g K : Nat} {o : Od} (h : w.heap[g]? = some (.cells odCs 24 (0, 0))) (hk : ods[K]? = some o) : RowAt w g (K * 3) o.r3 := by
  match K with
  | 0 => obtain rfl := Option.some.inj hk; refine ⟨?_, ?_, ?_⟩ <;> simp [World.cell?, h, odCs, Od.r3]
  | 1 => obtain rfl := Option.some.inj hk; refine ⟨?_, ?_, ?_⟩ <;> simp [World.cell?, h, odCs, Od.r3]
  | 2 => obtain rfl := Option.some.inj hk; refine ⟨?_, ?_, ?_⟩ <;> simp [World.cell?, h, odCs, Od.r3]
  | 3 => obtain rfl := Option.some.inj hk; refine ⟨?_, ?_, ?_⟩ <;> simp [World.cell?, h, odCs, Od.r3]
  | 4 => obtain rfl := Option.some.inj hk; refine ⟨?_, ?_, ?_⟩ <;> simp [World.cell?, h, odCs, Od.r3]
  | 5 => obtain rfl := Option.some.inj hk; refine ⟨?_, ?_, ?_⟩ <;> simp [World.cell?, h, odCs, Od.r3]
  | K + 6 => simp [ods] at hk
theorem nodup_at {l : List R3} (h : l.Nodup) {i j : Nat} {r : R3} (hi : l[i]? = some r) (hj : l[j]? = some r) : i = j := by
  obtain ⟨a1, a2⟩ := List.getElem?_eq_some_iff.1 hi
  obtain ⟨b1, b2⟩ := List.getElem?_eq_some_iff.1 hj
  rcases Nat.lt_trichotomy i j with h1 | h1 | h1
  · have := List.pairwise_iff_getElem.1 h i j a1 b1 h1
    rw [a2, b2] at this; exact absurd rfl this
  · exact h1
  · have := List.pairwise_iff_getElem.1 h j i b1 a1 h1
    rw [a2, b2] at this; exact absurd rfl this
theorem idx_len {o p : Od} {rows l m : List R3} (h1 : IdxOf o rows l) (h2 : IdxOf p rows m) : l.length = m.length :=
  Nat.le_antisymm (nodup_sub_len l m h1.strict.nodup (fun r hr => (h2.mem r).2 ((h1.mem r).1 hr))) (nodup_sub_len m l h2.strict.nodup (fun r hr => (h1.mem r).2 ((h2.mem r).1 hr)))

end Go.Proofs.Ytfocpjplokabgab
