/- Lists that are cut; row of the document. -/
import Derived.Test.YthdnpddfdlhlaaaAAcc
namespace Go.Proofs.Ythdnpddfdlhlaaa
open Go.RowKit Go.Shelf

section
variable {α : Type} {enc : α → List Value} {k : Nat}
theorem sl_take {S : Nat → Prop} {w : World} {ao : Option Addr} {n cap cap2 i : Nat} {L : List α} (h : SlS enc k S w (.slice ao n cap) L) (hi : i ≤ L.length) : SlS enc k S w (.slice ao i cap2) (L.take i) := by
  obtain ⟨a, c, e, h⟩ := h
  injection e with e1 e2 e3
  subst e1
  refine ⟨ao, cap2, by rw [List.length_take]; congr 1; omega, ?_⟩
  rcases h with rfl | ⟨g, off, e1, hs, hl, hc⟩
  · left; simp
  · refine .inr ⟨g, off, e1, hs, hl, fun j x hx c u hu => hc j x ?_ c u hu⟩
    rw [List.getElem?_take] at hx
    split at hx
    · exact hx
    · cases hx
theorem sl_drop {S : Nat → Prop} {w : World} {g off n cap cap2 i : Nat} {L : List α} (h : SlS enc k S w (.slice (some ⟨g, off, none⟩) n cap) L) (hn : n = L.length) : SlS enc k S w (.slice (some ⟨g, off + i * k, none⟩) (n - i) cap2) (L.drop i) := by
  obtain ⟨a, c, e, h⟩ := h
  injection e with e1 e2 e3
  subst e1
  refine ⟨_, cap2, by rw [List.length_drop, hn], ?_⟩
  rcases h with rfl | ⟨g', off', e1, hs, hl, hc⟩
  · left; simp
  · injection e1 with e1
    injection e1 with e1 e4
    subst e1 e4
    refine .inr ⟨g, _, rfl, hs, hl, fun j x hx c u hu => ?_⟩
    rw [List.getElem?_drop] at hx
    have := hc (i + j) x hx c u hu
    rw [Nat.add_mul] at this
    rw [show off + i * k + j * k + c = off + (i * k + j * k) + c by omega]
    exact this
theorem sl_none {S : Nat → Prop} {w : World} {n cap : Nat} {L : List α} (h : SlS enc k S w (.slice none n cap) L) : L = [] := by
  obtain ⟨a, c, e, h⟩ := h
  injection e with e1 e2 e3
  subst e1
  rcases h with h | ⟨g, off, e1, _⟩
  · exact h
  · cases e1
theorem sl_end {S : Nat → Prop} {w : World} (ao : Option Addr) (cap : Nat) : SlS enc k S w (.slice ao 0 cap) [] := ⟨ao, cap, rfl, .inl rfl⟩
end
/-- What Will answers, of one path. -/
def WillC (S T : Nat → Prop) (x : Vt) : Prop := ∀ (w : World) (v : Value) (L : List Wd), VOk S w x → TxtS T w v L → CapS v L.length → L.length ≤ 1000000 → Calls Try.prog 26 #[encN x, v] w fun e w' => ∃ b : Bool, e = .returned (.bool b) ∧ (b = true ↔ willL x.pt L) ∧ Below w.heap.size w w'
theorem Calls.known {f : FuncId} {args : Array Value} {w : World} {P : Prop} (h : Calls Try.prog f args w fun e w' => ∃ b : Bool, e = .returned (.bool b) ∧ (b = true ↔ P) ∧ Below w.heap.size w w') {b : Bool} (hb : b = true ↔ P) : Calls Try.prog f args w fun e w' => e = .returned (.bool b) ∧ Below w.heap.size w w' := by
  refine h.mono ?_
  rintro e w' ⟨c, rfl, hc, hbel⟩
  have : c = b := by
    cases c <;> cases b
    · rfl
    · exact absurd (hc.2 (hb.1 rfl)) (by decide)
    · exact absurd (hb.2 (hc.1 rfl)) (by decide)
    · rfl
  rw [this]
  exact ⟨rfl, hbel⟩
theorem known_some (P : Prop) : ∃ b : Bool, (b = true ↔ P) := by
  by_cases h : P
  · exact ⟨true, by simp [h]⟩
  · exact ⟨false, by simp [h]⟩
end Go.Proofs.Ythdnpddfdlhlaaa
