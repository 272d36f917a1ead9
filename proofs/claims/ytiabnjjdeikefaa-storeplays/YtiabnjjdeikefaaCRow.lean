/- Bytes that a call has laid into a block of its own: '[]byte(s)', 'make([]byte, n)', one byte stored, and back into a text. -/
import Derived.Test.YtiabnjjdeikefaaCLaws1
import Derived.Lib.ConvBytes
import Derived.Deep.RegionHeld
namespace Go.Proofs.Ytiabnjjdeikefaa
open Go.RowKit

/-- The block g holds the bytes l from its head on; they may be written. -/
def Bytes (w : World) (g : Nat) (l : List UInt8) : Prop :=
  g < w.heap.size ∧ ∀ j x, l[j]? = some x → w.cell? ⟨g, j, none⟩ = some (.int .u8 (x.toNat : Int)) ∧ w.frozen? ⟨g, j, none⟩ = false

theorem Bytes.below {w w' : World} {g : Nat} {l : List UInt8} (h : Bytes w g l) (hb : Below w.heap.size w w') : Bytes w' g l :=
  ⟨Nat.lt_of_lt_of_le h.1 hb.size, fun j x hx => ⟨(hb.cell (p := ⟨g, j, none⟩) h.1).trans (h.2 j x hx).1, (hb.frozen (p := ⟨g, j, none⟩) h.1).trans (h.2 j x hx).2⟩⟩

theorem Bytes.drew {w : World} {g : Nat} {l : List UInt8} (h : Bytes w g l) : Bytes w.drew g l :=
  ⟨h.1, fun j x hx => ⟨(h.2 j x hx).1, (h.2 j x hx).2⟩⟩

theorem Bytes.set {w : World} {g : Nat} {l : List UInt8} (h : Bytes w g l) (i : Nat) (x : UInt8) : Bytes (w.setCell ⟨g, i, none⟩ (.int .u8 (x.toNat : Int))) g (l.set i x) := by
  refine ⟨by simpa using h.1, fun j y hy => ?_⟩
  rw [List.getElem?_set] at hy
  by_cases he : i = j
  · subst he
    rw [if_pos rfl] at hy
    by_cases hl : i < l.length
    · rw [if_pos hl] at hy
      obtain rfl := Option.some.inj hy
      have h2 := h.2 i _ (List.getElem?_eq_getElem hl)
      exact ⟨World.cell?_setCell_same _ _ _ h2.1, by simpa using h2.2⟩
    · rw [if_neg hl] at hy; cases hy
  · rw [if_neg he] at hy
    have h2 := h.2 j y hy
    refine ⟨?_, by simpa using h2.2⟩
    rw [World.cell?_setCell_other _ _ _ _ (fun e => he (by have := congrArg Addr.off e; exact this))]
    exact h2.1

theorem Bytes.conv {w : World} {g : Nat} {l : List UInt8} (h : Bytes w g l) (cap : Nat) :
    (convert 56 9 (.slice (some ⟨g, 0, none⟩) l.length cap)).run Try.prog w = .ok (.string ⟨l.toArray⟩) w :=
  run_convert_bytes_back (P := Try.prog) w 56 9 5 ⟨g, 0, none⟩ cap l Try.underlying56 Try.underlying5 Try.underlying9 (fun j hj => by
    rw [show (⟨g, 0, none⟩ : Addr).add j = ⟨g, j, none⟩ from by cases j <;> simp [Addr.add]]
    exact (h.2 j _ (List.getElem?_eq_getElem hj)).1)

theorem bytes_made (w : World) (s : ByteArray) : Bytes (Lib.bytesWorld w 5 s) w.heap.size s.data.toList := by
  refine ⟨by rw [Lib.bytesWorld_size]; omega, fun j x hx => ?_⟩
  have hl := data_len s
  have hj : j < s.size := by have := (List.getElem?_eq_some_iff.1 hx).1; omega
  refine ⟨?_, ?_⟩
  · rw [Lib.bytesWorld_cell w 5 s j hj, List.getD, hx]; rfl
  · have hn := Lib.bytesWorld_at_new w 5 s
    have hcs : s.size ≤ (Lib.bytesCells w 5 s).size := by
      simp [Lib.bytesCells]
    simp only [World.frozen?, hn, Bool.and_eq_false_iff, decide_eq_false_iff_not]
    left; omega

theorem below_bytes (w : World) (s : ByteArray) : Below w.heap.size w (Lib.bytesWorld w 5 s) :=
  ⟨rfl, rfl, rfl, by rw [Lib.bytesWorld_size]; omega, fun k hk => Lib.bytesWorld_at_old w 5 s k hk⟩

theorem i64_mask (n : Int) (k : Nat) (m M : Int) (hk : k ≤ 62) (hm : (BitVec.ofInt 64 m).toNat = 2 ^ k - 1) (hM : M = ((2 ^ k : Nat) : Int)) : bits .and .i64 n m = n % M := by
  have key : (BitVec.ofInt 64 n &&& BitVec.ofInt 64 m).toNat = (n % ((2 ^ 64 : Nat) : Int)).toNat % 2 ^ k := by
    rw [BitVec.toNat_and, BitVec.toNat_ofInt, hm, Nat.and_two_pow_sub_one_eq_mod]
  show IntKind.i64.wrap ((BitVec.ofInt 64 n &&& BitVec.ofInt 64 m).toNat : Nat) = n % M
  have hd : (2 ^ 64 : Nat) = 2 ^ k * 2 ^ (64 - k) := by rw [← Nat.pow_add]; congr 1; omega
  have e : ((n % ((2 ^ 64 : Nat) : Int)).toNat % 2 ^ k : Nat) = (n % ((2 ^ k : Nat) : Int)).toNat := by
    apply Int.ofNat.inj
    show (((n % ((2 ^ 64 : Nat) : Int)).toNat % 2 ^ k : Nat) : Int) = ((n % ((2 ^ k : Nat) : Int)).toNat : Int)
    rw [Int.natCast_emod, Int.toNat_of_nonneg (Int.emod_nonneg _ (by omega)), Int.toNat_of_nonneg (Int.emod_nonneg _ (by have := Nat.two_pow_pos k; omega))]
    exact Int.emod_emod_of_dvd _ (Int.natCast_dvd_natCast.2 ⟨2 ^ (64 - k), hd⟩)
  have hlt : (2 ^ k : Nat) ≤ 2 ^ 62 := Nat.pow_le_pow_right (by omega) hk
  have hp := Nat.two_pow_pos k
  have h1 : 0 ≤ n % ((2 ^ k : Nat) : Int) := Int.emod_nonneg _ (by omega)
  have h2 : n % ((2 ^ k : Nat) : Int) < ((2 ^ k : Nat) : Int) := Int.emod_lt_of_pos _ (by omega)
  rw [key, e, IntKind.wrap_i64, hM]
  omega
end Go.Proofs.Ytiabnjjdeikefaa
