/- Automata in memory; rising, May of the document. -/
import Derived.Test.YthdnpddfdlhlaabAInts
namespace Go.Proofs.Ythdnpddfdlhlaab
open Go.RowKit

/-- An automaton in memory. -/
structure Mu where
  wv : Value
  ws : List Wd
  fv : Value
  fs : List Int
  lv : Value
  ls : List Int
  ov : Value
  os : List (Value × List Int)
  em : Bool
def Mu.au (m : Mu) : Au := ⟨m.ws, m.fs, m.ls, m.os.map (·.2), m.em⟩
abbrev encU (m : Mu) : Value := .agg #[m.wv, m.fv, m.lv, m.ov, .bool m.em]
abbrev csW (p : Value × List Int) : List Value := [p.1]
structure UOk (S : Nat → Prop) (w : World) (m : Mu) : Prop where
  ws : TxtS S w m.wv m.ws
  wb : ∀ s ∈ m.ws, s.length ≤ 9223372036854775807
  wl : m.ws.length ≤ 9223372036854775806
  fs : IntZ S w m.fv m.fs
  fl : m.fs.length ≤ 9223372036854775806
  ls : IntZ S w m.lv m.ls
  ll : m.ls.length ≤ 9223372036854775806
  os : SlS csW 1 S w m.ov m.os
  ok : ∀ p ∈ m.os, IntZ S w p.1 p.2 ∧ p.2.length ≤ 9223372036854775806
  ol : m.os.length ≤ 9223372036854775806
theorem UOk.keep {S T : Nat → Prop} {w w' : World} {m : Mu} (h : UOk S w m) (hz : w.heap.size ≤ w'.heap.size) (hk : ∀ b, S b → b < w.heap.size → T b ∧ w'.heap[b]? = w.heap[b]?) : UOk T w' m :=
  ⟨h.ws.keep hz hk, h.wb, h.wl, h.fs.keep hz hk, h.fl, h.ls.keep hz hk, h.ll, h.os.keep hz hk, fun p hp => ⟨(h.ok p hp).1.keep hz hk, (h.ok p hp).2⟩, h.ol⟩
theorem UOk.below {S : Nat → Prop} {w w' : World} {m : Mu} (h : UOk S w m) (hb : Below w.heap.size w w') : UOk S w' m := h.keep hb.size (fun b hs hl => ⟨hs, hb.block b hl⟩)
/-- The slices of an automaton, written out. -/
theorem UOk.slices {S : Nat → Prop} {w : World} {m : Mu} (h : UOk S w m) : ∃ wa wc fa fc la lc oa oc, m.wv = .slice wa m.ws.length wc ∧ m.fv = .slice fa m.fs.length fc ∧ m.lv = .slice la m.ls.length lc ∧ m.ov = .slice oa m.os.length oc := by
  obtain ⟨wa, wc, h1⟩ := h.ws.slice
  obtain ⟨fa, fc, h2⟩ := h.fs.slice
  obtain ⟨la, lc, h3⟩ := h.ls.slice
  obtain ⟨oa, oc, h4⟩ := h.os.slice
  exact ⟨wa, wc, fa, fc, la, lc, oa, oc, h1, h2, h3, h4⟩
theorem cells5 {w : World} {b : Nat} {c0 c1 c2 c3 c4 : Value} {t : TypeId} (h : w.heap[b]? = some (.cells #[c0, c1, c2, c3, c4] t (0, 0))) :
    w.cell? ⟨b, 0, none⟩ = some c0 ∧ w.cell? ⟨b, 1, none⟩ = some c1 ∧ w.cell? ⟨b, 2, none⟩ = some c2 ∧ w.cell? ⟨b, 3, none⟩ = some c3 ∧ w.cell? ⟨b, 4, none⟩ = some c4 := by
  simp [World.cell?, h]

theorem riseI_len (k : Nat) (L : List Int) : (riseI k L).length ≤ k := by
  unfold riseI
  rw [List.length_map]
  exact Nat.le_trans (List.length_filter_le _ _) (by simp)
end Go.Proofs.Ythdnpddfdlhlaab
