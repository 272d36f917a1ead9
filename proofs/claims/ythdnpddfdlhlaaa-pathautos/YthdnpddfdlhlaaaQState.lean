/- Slices in memory; paths in memory. -/
import Derived.Test.YthdnpddfdlhlaaaQMath
import Derived.Test.YthdnpddfdlhlaaaVIs
import Derived.Test.YthdnpddfdlhlaaaQBase
import Derived.Deep.AppendLies
import Derived.Deep.RegionHeld3
namespace Go.Proofs.Ythdnpddfdlhlaaa
open Go.RowKit

/-- The cells of a path. -/
abbrev csN (x : Vt) : List Value := [.int .i64 x.kind, .string ⟨x.word.toArray⟩, x.val]
abbrev encN (x : Vt) : Value := .agg #[.int .i64 x.kind, .string ⟨x.word.toArray⟩, x.val]
theorem csN_len (x : Vt) : (csN x).length = 3 := rfl
abbrev NodS := SlS csN 3
/-- A path in memory, whole: all slices in it lie in blocks of S. -/
def VOk (S : Nat → Prop) (w : World) : Vt → Prop
  | ⟨_, wd, v, l⟩ => NodS S w v l ∧ wd.length ≤ 9223372036854775807 ∧ l.length ≤ 9223372036854775807 ∧ ∀ x, x ∈ l → VOk S w x
theorem vok_mk {S : Nat → Prop} {w : World} {k : Int} {wd : List UInt8} {v : Value} {l : List Vt} : VOk S w ⟨k, wd, v, l⟩ ↔ NodS S w v l ∧ wd.length ≤ 9223372036854775807 ∧ l.length ≤ 9223372036854775807 ∧ ∀ x, x ∈ l → VOk S w x := by rw [VOk]
theorem VOk.parts {S : Nat → Prop} {w : World} {t : Vt} (h : VOk S w t) : NodS S w t.val t.kids ∧ t.word.length ≤ 9223372036854775807 ∧ t.kids.length ≤ 9223372036854775807 ∧ ∀ x, x ∈ t.kids → VOk S w x := by
  obtain ⟨k, wd, v, l⟩ := t
  exact vok_mk.1 h
theorem VOk.keep {S T : Nat → Prop} {w w' : World} (hz : w.heap.size ≤ w'.heap.size) (hk : ∀ b, S b → b < w.heap.size → T b ∧ w'.heap[b]? = w.heap[b]?) : ∀ t : Vt, VOk S w t → VOk T w' t :=
  Vt.ind (fun _ _ _ _ ih h => by
    obtain ⟨h1, h2, h3, h4⟩ := vok_mk.1 h
    exact vok_mk.2 ⟨h1.keep hz hk, h2, h3, fun x hx => ih x hx (h4 x hx)⟩)
theorem VOk.below {S : Nat → Prop} {w w' : World} {t : Vt} (h : VOk S w t) (hb : Below w.heap.size w w') : VOk S w' t := VOk.keep hb.size (fun b hs hl => ⟨hs, hb.block b hl⟩) t h
theorem VOk.fr {S : Nat → Prop} {w w' : World} {t : Vt} (h : VOk S w t) (hf : Fr S w w') : VOk S w' t := VOk.keep hf.size (fun b hs _ => ⟨hs, hf.block b hs⟩) t h
theorem VOk.sub {S T : Nat → Prop} {w : World} {t : Vt} (h : VOk S w t) (hs : ∀ b, S b → b < w.heap.size → T b) : VOk T w t := VOk.keep (Nat.le_refl _) (fun b hb hl => ⟨hs b hb hl, rfl⟩) t h
theorem getN {w : World} {g o : Nat} {t : Vt} (h : ∀ (c : Nat) u, (csN t)[c]? = some u → w.cell? ⟨g, o + c, none⟩ = some u) : w.cell? ⟨g, o, none⟩ = some (.int .i64 t.kind) ∧ w.cell? ⟨g, o + 1, none⟩ = some (.string ⟨t.word.toArray⟩) ∧ w.cell? ⟨g, o + 2, none⟩ = some t.val :=
  ⟨h 0 _ rfl, h 1 _ rfl, h 2 _ rfl⟩
theorem infoN : (Try.prog.info? 24).map (fun i => (i.zero, i.size, i.bytes)) = some (some (.agg #[.int .i64 0, .string ⟨#[]⟩, .slice none 0 0]), 3, 48) := by kernel_rfl
/-- The cells of a text. -/
abbrev csT (s : List UInt8) : List Value := [.string ⟨s.toArray⟩]
abbrev TxtS := SlS csT 1
/-- A slice is no longer than its room. -/
def CapS (v : Value) (n : Nat) : Prop := ∃ ao cap, v = .slice ao n cap ∧ n ≤ cap
theorem isQ_any (s : List UInt8) (w : World) : Calls Try.prog 61 #[.string ⟨s.toArray⟩] w fun e w' => e = .returned (.bool (isW s)) ∧ w' = w := by
  have := is_any ⟨s.toArray⟩ w
  simpa using this
end Go.Proofs.Ythdnpddfdlhlaaa
