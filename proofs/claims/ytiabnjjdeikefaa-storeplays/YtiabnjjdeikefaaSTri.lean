/- A fact as a key of a map; a map of facts as a list of them. -/
import Derived.Test.YtiabnjjdeikefaaSMath
import Derived.Test.YtiabnjjdeikefaaVIs
import Derived.LaidEqlPtr
import Derived.Carry
import Derived.Maps.OwnSet
import Derived.Maps.RangeWalk
import Derived.DeepKeys4
namespace Go.Proofs.Ytiabnjjdeikefaa
open Go.RowKit

abbrev strV (s : List UInt8) : Value := .string ⟨s.toArray⟩
/-- A fact's cells, and a fact as one value. -/
abbrev cs3 (t : Tri) : List Value := [strV t.1, strV t.2.1, strV t.2.2]
abbrev encT (t : Tri) : Value := .agg #[strV t.1, strV t.2.1, strV t.2.2]
/-- Texts that a key may have. -/
def FineT (t : Tri) : Prop := t.1.length ≤ maxLen ∧ t.2.1.length ≤ maxLen ∧ t.2.2.length ≤ maxLen
theorem fine_word {t : Tri} (h : isTW t = true) : FineT t := by
  obtain ⟨h1, h2, h3⟩ := isTW_parts h
  have := isW_len h1; have := isW_len h2; have := isW_len h3
  unfold FineT maxLen; omega
def kT (t : Tri) : Lit := .string (keyBytes [.string t.1, .string t.2.1, .string t.2.2])
theorem kT_key (t : Tri) : WideAt.IsKeyLit (kT t) := trivial

theorem laidOutT : laidOutB Try.prog = true := by kernel_rfl
theorem rowT : 25 < Try.prog.types.size := of_decide_eq_true (by kernel_rfl)
theorem cellsT : Try.prog.cellsOf 25 = 3 := by kernel_rfl
theorem cellsS : Try.prog.cellsOf 9 = 1 := by kernel_rfl
theorem typesB : Nat.ble 2 (Try.prog.types.size + 1) = true := by kernel_rfl
theorem typesN : ∃ d, Try.prog.types.size + 1 = 2 + d := ⟨Try.prog.types.size + 1 - 2, by have := Nat.le_of_ble_eq_true typesB; omega⟩
theorem ktT : Try.prog.keyTypeAt 2 25 = true := by kernel_rfl
theorem wideT : (match Try.prog.underlying 25 with | some (.array _ _) | some (.struct _) => true | _ => false) = true := by rw [Try.underlying25]
set_option maxRecDepth 100000 in
theorem lawT : Maps.Keyed Try.prog 25 := Maps.Keyed.of_law (deep_law_laid laidOutT (m := 2) (by omega) rowT ktT wideT)
theorem keyTypeT : Try.prog.keyType 25 = true := by kernel_rfl
theorem formedT (a b c : Value) : (Value.agg #[a, b, c]).formed Try.prog 25 = true := by simp [Value.formed, Try.underlying25, cellsT]

theorem litsS (d : Nat) (v : Value) : Try.prog.keyLits (d + 1) 9 [v] = match v with | .string s => if s.size ≤ maxLen then some [.string s.data.toList] else none | _ => none := by
  unfold Program.keyLits
  rw [Try.underlying9]
  cases v <;> rfl
theorem litsT (d : Nat) (a b c : Value) : Try.prog.keyLits (2 + d) 25 [a, b, c] = (do
    let x ← Try.prog.keyLits (1 + d) 9 [a]
    let y ← Try.prog.keyLits (1 + d) 9 [b]
    let z ← Try.prog.keyLits (1 + d) 9 [c]
    pure (x ++ (y ++ z))) := by
  rw [show 2 + d = (1 + d) + 1 by omega]
  conv => lhs; unfold Program.keyLits
  rw [Try.underlying25]
  simp [cellsT, cellsS]
  cases Try.prog.keyLits (1 + d) 9 [a] <;> simp
  cases Try.prog.keyLits (1 + d) 9 [b] <;> simp
  cases Try.prog.keyLits (1 + d) 9 [c] <;> simp
theorem keyOf_T (v : Value) : keyOf Try.prog 25 v = if Try.prog.keyType 25 && v.formed Try.prog 25 then (Try.prog.keyLits (Try.prog.types.size + 1) 25 v.cells.toList).map fun ls => .string (keyBytes ls) else none := by
  unfold keyOf
  rw [Try.underlying25]
set_option maxRecDepth 100000 in
theorem formedT_inv {v : Value} (h : v.formed Try.prog 25 = true) : ∃ a b c, v = .agg #[a, b, c] := by
  unfold Value.formed at h
  rw [Try.underlying25] at h
  cases v with
  | agg cs =>
    simp only [cellsT, beq_iff_eq] at h
    obtain ⟨l⟩ := cs
    match l, h with
    | [a, b, c], _ => exact ⟨a, b, c, rfl⟩
  | _ => simp at h
theorem keyT {t : Tri} (h : FineT t) : keyOf Try.prog 25 (encT t) = some (kT t) := by
  obtain ⟨h1, h2, h3⟩ := h
  unfold keyOf
  rw [Try.underlying25]
  simp only [keyTypeT, formedT, Bool.and_self, if_true, Value.cells]
  obtain ⟨d, hd⟩ := typesN
  rw [hd, litsT, show 1 + d = d + 1 by omega, litsS, litsS, litsS]
  simp [size_list, h1, h2, h3, kT]
theorem keyT_inv {v : Value} {kl : Lit} (h : keyOf Try.prog 25 v = some kl) : ∃ t : Tri, v = encT t ∧ FineT t ∧ kl = kT t := by
  rw [keyOf_T, keyTypeT, Bool.true_and] at h
  cases hf : v.formed Try.prog 25 with
  | false => rw [hf] at h; cases h
  | true =>
    rw [hf, if_pos rfl] at h
    obtain ⟨a, b, c, rfl⟩ := formedT_inv hf
    obtain ⟨d, hd⟩ := typesN
    simp only [Value.cells] at h
    rw [hd, litsT, show 1 + d = d + 1 by omega, litsS, litsS, litsS] at h
    cases a with
    | string x =>
      cases b with
      | string y =>
        cases c with
        | string z =>
          simp only at h
          by_cases hx : x.size ≤ maxLen
          · by_cases hy : y.size ≤ maxLen
            · by_cases hz : z.size ≤ maxLen
              · rw [if_pos hx, if_pos hy, if_pos hz] at h
                refine ⟨(x.data.toList, y.data.toList, z.data.toList), rfl, ?_, ?_⟩
                · simp only [FineT, data_len]
                  exact ⟨hx, hy, hz⟩
                · simpa [kT] using h.symm
              · rw [if_pos hx, if_pos hy, if_neg hz] at h; simp at h
            · rw [if_pos hx, if_neg hy] at h; simp at h
          · rw [if_neg hx] at h; simp at h
        | _ => simp at h
      | _ => simp at h
    | _ => simp at h
theorem kT_inj {a b : Tri} (ha : FineT a) (hb : FineT b) (h : kT a = kT b) : a = b := by
  have := lawT.inj (keyT ha) (by rw [h]; exact keyT hb)
  simp [encT, strV] at this
  exact Prod.ext this.1 (Prod.ext this.2.1 this.2.2)
end Go.Proofs.Ytiabnjjdeikefaa
