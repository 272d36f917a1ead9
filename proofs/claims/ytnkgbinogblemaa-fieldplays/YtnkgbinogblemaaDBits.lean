/- Numbers of a script, masked and shifted; numbers as an argument. -/
import Derived.Test.YtnkgbinogblemaaDAwk
namespace Go.Proofs.Ytnkgbinogblemaa
open Go.RowKit

theorem i64_maskH (n : Int) (k : Nat) (m M : Int) (hk : k ≤ 62) (hm : (BitVec.ofInt 64 m).toNat = 2 ^ k - 1) (hM : M = ((2 ^ k : Nat) : Int)) : bits .and .i64 n m = n % M := by
  have key : (BitVec.ofInt 64 n &&& BitVec.ofInt 64 m).toNat = (n % ((2 ^ 64 : Nat) : Int)).toNat % 2 ^ k := by
    rw [BitVec.toNat_and, BitVec.toNat_ofInt, hm, Nat.and_two_pow_sub_one_eq_mod]
  show IntKind.i64.wrap ((BitVec.ofInt 64 n &&& BitVec.ofInt 64 m).toNat : Nat) = n % M
  have hd : (2 ^ 64 : Nat) = 2 ^ k * 2 ^ (64 - k) := by rw [← Nat.pow_add]; congr 1; omega
  have e : ((n % ((2 ^ 64 : Nat) : Int)).toNat % 2 ^ k : Nat) = (n % ((2 ^ k : Nat) : Int)).toNat := by
    apply Int.ofNat.inj
    show (((n % ((2 ^ 64 : Nat) : Int)).toNat % 2 ^ k : Nat) : Int) = ((n % ((2 ^ k : Nat) : Int)).toNat : Int)
    rw [Int.natCast_emod, Int.toNat_of_nonneg (Int.emod_nonneg _ (by omega)), Int.toNat_of_nonneg (Int.emod_nonneg _ (by have := Nat.two_pow_pos k; omega))]
    exact Int.emod_emod_of_dvd _ (Int.natCast_dvd_natCast.2 ⟨2 ^ (64 - k), hd⟩)
  have hlt : (2 ^ k : Nat) ≤ 2 ^ 62 := Nat.pow_le_pow_right (by omega) hk
  have hp := Nat.two_pow_pos k
  have h1 : 0 ≤ n % ((2 ^ k : Nat) : Int) := Int.emod_nonneg _ (by omega)
  have h2 : n % ((2 ^ k : Nat) : Int) < ((2 ^ k : Nat) : Int) := Int.emod_lt_of_pos _ (by omega)
  rw [key, e, IntKind.wrap_i64, hM]
  omega
theorem mask_nat (z : Int) : ∃ x : Nat, bits .and .i64 z 65535 = (x : Int) ∧ x ≤ 65535 := by
  have h := i64_maskH z 16 65535 65536 (by decide) (by decide) (by decide)
  have h1 : 0 ≤ z % 65536 := Int.emod_nonneg _ (by decide)
  have h2 : z % 65536 < 65536 := Int.emod_lt_of_pos _ (by decide)
  exact ⟨(z % 65536).toNat, by omega, by omega⟩
theorem mask3 (x : Nat) : ∃ q : Nat, bits .and .i64 (x : Int) 3 = (q : Int) ∧ q ≤ 3 := by
  have h := i64_maskH (x : Int) 2 3 4 (by decide) (by decide) (by decide)
  exact ⟨x % 4, by omega, by omega⟩
theorem rem_any (x : Nat) (d k : Int) (hd : 0 < d) (hk : 0 < k) : ∃ a : Int, ((x : Int) / d).tmod k = a ∧ ((x : Int) / d) % k = a ∧ 0 ≤ a ∧ a < k := by
  have h0 : 0 ≤ (x : Int) / d := Int.ediv_nonneg (by omega) (by omega)
  have h1 := Int.emod_nonneg ((x : Int) / d) (show k ≠ 0 by omega)
  have h2 := Int.emod_lt_of_pos ((x : Int) / d) hk
  exact ⟨_, Int.tmod_eq_emod_of_nonneg h0, rfl, h1, h2⟩
theorem wf_range {n : Int} (h1 : -9223372036854775808 ≤ n) (h2 : n ≤ 9223372036854775807) : (Lit.int .i64 n).wf = true := by
  have e1 : IntKind.i64.min = -9223372036854775808 := by decide
  have e2 : IntKind.i64.max = 9223372036854775807 := by decide
  simp [Lit.wf, e1, e2, h1, h2]

section
variable {S : Nat → Prop} {w : World} {b : Nat} {f : Fd}
theorem below_drew {B : Nat} {a w : World} (h : Below B a w) : Below B a w.drew := ⟨h.os, h.tape, h.output, h.size, h.block⟩
/-- What becomes of a field by a call: the nodes are the same, one more number at most is given. -/
structure Nxt (f f' : Fd) : Prop where
  nodes : f'.nodes = f.nodes
  last : f'.last ≤ f.last + 1
/-- A copy of what is picked. -/
theorem copyP_any (h : FB S w b f) (hS : Low S w) (n : Int) (hl : f.last < 10000) :
    Calls Try.prog 14 #[.pointer (some ⟨b, 0, none⟩), .int .i64 (pickF f.l n)] w fun e w' => ∃ a er, e = .returned (.tuple #[.int .i64 a, .int .i64 er]) ∧ ∃ f', Nxt f f' ∧ FB S w' b f' ∧ Fr S w w' := by
  by_cases h0 : f.l = []
  · rw [h0, pickF_nil]
    refine (copy_not h (-1) (by decide) (by rw [h0]; simp) hl).mono ?_
    rintro e w' ⟨rfl, hb⟩
    exact ⟨_, _, rfl, f, ⟨rfl, by omega⟩, h.below hb, fr_below hS hb⟩
  · obtain ⟨p, -, hp, e⟩ := pickF_some h0 n
    rw [e]
    refine (copy_any h hS hp hl).mono ?_
    rintro e w' ⟨rfl, h1, h2⟩
    exact ⟨_, _, rfl, f.add p, ⟨rfl, by simp [Fd.add]⟩, h1, h2⟩
/-- What is picked arrives. -/
theorem arriveP_any (h : FB S w b f) (hS : Low S w) (n : Int) (hl : f.last ≤ 100000) :
    Calls Try.prog 12 #[.pointer (some ⟨b, 0, none⟩), .int .i64 (pickF f.l n)] w fun e w' => ∃ v er, e = .returned (.tuple #[v, .int .i64 er]) ∧ ∃ f', Nxt f f' ∧ FB S w' b f' ∧ Fr S w w' := by
  by_cases h0 : f.l = []
  · rw [h0, pickF_nil]
    refine (arrive_not h (-1) (by decide) (by rw [h0]; simp)).mono ?_
    rintro e w' ⟨rfl, hb⟩
    exact ⟨_, _, rfl, f, ⟨rfl, by omega⟩, h.below hb, fr_below hS hb⟩
  · obtain ⟨p, -, hp, e⟩ := pickF_some h0 n
    rw [e]
    obtain ⟨a, c, hac⟩ := List.append_of_mem hp
    refine (arrive_any h hS hac hl).mono ?_
    rintro e w' ⟨rfl, h1, h2⟩
    exact ⟨_, _, rfl, ⟨f.nodes, f.last, a ++ c⟩, ⟨rfl, by simp⟩, h1, h2⟩
theorem FB.sub {T : Nat → Prop} (h : FB S w b f) (hT : ∀ k, T k → S k) : FB T w b f := h.more (fun k hk => .inl (hT k hk))
end
end Go.Proofs.Ytnkgbinogblemaa
