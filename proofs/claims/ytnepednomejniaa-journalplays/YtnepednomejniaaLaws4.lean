/- The statement of joins: a list's bytes are the document's, and are read back whatever stands behind. -/
import Derived.Test.YtnepednomejniaaLaws3
import Derived.Test.YtnepednomejniaaRPutList
import Derived.SliceStrings
import Derived.OpenShut
namespace Go.Proofs.Ytnepednomejniaa
open Go.RowKit

theorem bytes_eta (s : ByteArray) : (⟨s.data.toList.toArray⟩ : ByteArray) = s := by cases s; simp

/-- An argument that is a slice of texts, as the walks want it. -/
theorem open_strs {H : Type} {enc : TypeId × Value → H} {W : World} {a : Option Addr} {len cap fuel : Nat} {cs : List Value} {x : DataW H × List MemPlace}
    (hf : DataW.trod enc Try.prog W 0 (fun _ => true) true fuel 34 cs = some x) (hcs : cs = [.slice a len cap]) : ∃ ls, StrsAt W (.slice a len cap) ls := by
  subst hcs
  rcases Go.ChangeShapes.open_strings Try.underlying34 Try.underlying9 (by kernel_rfl) hf with ⟨hcs, _⟩ | ⟨ad, len', cap', ss, hcs, _, hl, hm, hz, _, hcell, _⟩
  · simp only [List.cons.injEq, Value.slice.injEq, and_true] at hcs
    obtain ⟨rfl, rfl, rfl⟩ := hcs
    exact ⟨[], by simp, none, 0, rfl, .inl rfl⟩
  · simp only [List.cons.injEq, Value.slice.injEq, and_true] at hcs
    obtain ⟨rfl, rfl, rfl⟩ := hcs
    simp only [if_true] at hz
    have hl2 : ((ss.take len).map fun s => s.data.toList).length = len := by rw [List.length_map, List.length_take]; omega
    refine ⟨(ss.take len).map fun s => s.data.toList, by rw [hl2]; unfold maxLen at hm; omega, some ad, cap, by rw [hl2], ?_⟩
    by_cases h0 : len = 0
    · left; rw [h0]; simp
    · right
      obtain ⟨b, off, spot⟩ := ad
      have hspot : spot = none := by simpa [Addr.add] using World.cell?_spot (hcell 0 (by omega))
      subst hspot
      refine ⟨b, off, rfl, World.block_lt_of_cell? W _ (hcell 0 (by omega)), fun j t hj => ?_⟩
      have hj1 : j < len := by have := (List.getElem?_eq_some_iff.1 hj).1; rw [hl2] at this; exact this
      rw [List.getElem?_map, List.getElem?_take_of_lt hj1, List.getElem?_eq_getElem (by omega)] at hj
      simp only [Option.map_some, Option.some.injEq] at hj
      rw [← Go.WideShapes.add_plain, hcell j (by omega), List.getD, List.getElem?_eq_getElem (by omega), ← hj, bytes_eta]; rfl

theorem sum_step {ls : List (List UInt8)} {i : Nat} {t : List UInt8} (hx : ls[i]? = some t) : sumL (ls.take (i + 1)) = sumL (ls.take i) + t.length := by
  rw [List.take_add_one, hx, Option.toList_some, sumL_snoc]

theorem take_all4 {N : Nat} {ls : List (List UInt8)} {i : Nat} {t : List UInt8} (h : ∀ u ∈ ls.take i, u.length ≤ N) (hx : ls[i]? = some t) (ht : t.length ≤ N) : ∀ u ∈ ls.take (i + 1), u.length ≤ N := by
  intro u hu
  rw [List.take_add_one, hx] at hu
  simp at hu
  rcases hu with hu | rfl
  · exact h u hu
  · exact ht

theorem putListV_form (ls : List (List UInt8)) : ∃ (t : ByteArray) (e : Int), putListV ls = .tuple #[.string t, .int .i64 e] := ⟨_, _, rfl⟩

end Go.Proofs.Ytnepednomejniaa
