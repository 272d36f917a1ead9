/- Numbers of a script, masked and shifted. -/
import Derived.Test.YtdbnbgpbbfckfaaKRun
namespace Go.Proofs.Ytdbnbgpbbfckfaa
open Go.RowKit

theorem mask_nat (z : Int) : ∃ x : Nat, bits .and .i64 z 65535 = (x : Int) ∧ x ≤ 65535 := by
  have h := i64_maskH z 16 65535 65536 (by decide) (by decide) (by decide)
  have h1 : 0 ≤ z % 65536 := Int.emod_nonneg _ (by decide)
  have h2 : z % 65536 < 65536 := Int.emod_lt_of_pos _ (by decide)
  exact ⟨(z % 65536).toNat, by omega, by omega⟩
theorem mask3 (x : Nat) : ∃ q : Nat, bits .and .i64 (x : Int) 3 = (q : Int) ∧ q ≤ 3 := by
  have h := i64_maskH (x : Int) 2 3 4 (by decide) (by decide) (by decide)
  exact ⟨x % 4, by omega, by omega⟩
theorem mask31 (x : Nat) : ∃ q : Nat, bits .and .i64 (x : Int) 31 = (q : Int) ∧ q ≤ 31 := by
  have h := i64_maskH (x : Int) 5 31 32 (by decide) (by decide) (by decide)
  exact ⟨x % 32, by omega, by omega⟩
theorem k_any (z : Int) : ∃ k : Nat, (bits .and .i64 z 65535).tmod 6 = (k : Int) ∧ k ≤ 5 := by
  obtain ⟨j, h1, h2, _, _⟩ := pick_any z 6 (by decide)
  exact ⟨j, h1, by omega⟩
theorem rem_any (x k : Nat) (d : Int) (hd : 0 < d) (hk : 1 ≤ k) : ∃ a : Nat, ((x : Int) / d).tmod (k : Int) = (a : Int) ∧ a < k := by
  have h0 : 0 ≤ (x : Int) / d := Int.ediv_nonneg (by omega) (by omega)
  have h1 := Int.emod_nonneg ((x : Int) / d) (show (k : Int) ≠ 0 by omega)
  have h2 := Int.emod_lt_of_pos ((x : Int) / d) (show (0 : Int) < (k : Int) by omega)
  exact ⟨(((x : Int) / d) % (k : Int)).toNat, by rw [Int.tmod_eq_emod_of_nonneg h0]; omega, by omega⟩
theorem more_any3 (x : Nat) : ∃ q : Nat, bits .and .i64 ((x : Int) / 1024) 3 = (q : Int) ∧ q ≤ 3 := by
  obtain ⟨q, h1, h2⟩ := mask3 (x / 1024)
  exact ⟨q, by rw [← h1]; rfl, h2⟩
/-- What was read of a world's first node. -/
theorem WAt.first {B : Nat} {w : World} {wb : Nat} {vn vu vt vw : Value} {bs : Nat → Nat} {s : Wd} (h : WAt B w wb vn vu vt vw bs s) (hk : 1 ≤ s.k) : ∃ gn cn, vn = .slice (some ⟨gn, 0, none⟩) s.k cn ∧ w.cell? ⟨wb, 0, none⟩ = some (.slice (some ⟨gn, 0, none⟩) s.k cn) ∧ w.cell? ⟨gn, 0, none⟩ = some (.pointer (some ⟨bs 0, 0, none⟩)) ∧ NAt w (bs 0) s.k (s.nd 0) true := by
  obtain ⟨gn, cn, gw, cw, rfl, rfl, hrn, hrw⟩ := h.reads hk
  exact ⟨gn, cn, rfl, h.cells.1, hrn 0 hk, (h.nd 0 hk).1⟩
end Go.Proofs.Ytdbnbgpbbfckfaa
