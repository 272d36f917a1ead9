/- LinkAll: behind whatever script of up to 150 acts on a line of two ends, once all that an end sends again comes, in whatever order, all that was put has come and nothing waits: for every epochs, script and turn. -/
import Derived.Test.YtifmpcldiimdbaaZJ
namespace Go.Proofs.Ytifmpcldiimdbaa
open Go.RowKit

def nk (k i : Nat) : NoteD := ⟨(k : Int), [(i : Int)], [], []⟩
theorem nk_fits {k i : Nat} (hk : 1 ≤ k ∧ k ≤ 255) (hi : i ≤ 4611686018427387903) : fitsN (nk k i) := by
  have hlen : (nk k i).body.length ≤ 1000 := by
    have a1 := numsB_le (nk k i).nums
    have a2 := rowsB_le (nk k i).rows (by simp [nk])
    have a3 := textsB_le2 (nk k i).texts (by simp [nk, shortL])
    have b1 : (numB (nk k i).kind.toNat).length ≤ 9 := by have := numsB_le [(nk k i).kind]; simpa [numsB] using this
    have b2 : (numB (nk k i).nums.length).length ≤ 9 := by have := numsB_le [((nk k i).nums.length : Int)]; simpa [numsB] using this
    have b3 : (numB (nk k i).texts.length).length ≤ 9 := by have := numsB_le [((nk k i).texts.length : Int)]; simpa [numsB] using this
    have b4 : (numB (nk k i).rows.length).length ≤ 9 := by have := numsB_le [((nk k i).rows.length : Int)]; simpa [numsB] using this
    simp only [NoteD.body, listB, List.length_append]
    have c1 : (nk k i).nums.length = 1 := rfl
    have c2 : (nk k i).texts = [] := rfl
    have c3 : (nk k i).rows = [] := rfl
    rw [c2] at a3 b3 ⊢
    rw [c3] at a2 b4 ⊢
    rw [c1] at a1
    simp only [sumL, sumR, cntR, List.map_nil, List.sum_nil, List.length_nil] at a1 a2 a3
    omega
  refine ⟨⟨⟨by simp only [nk]; omega, by simp only [nk]; omega, by simp [nk], fun x hx => ?_⟩, ⟨by simp [nk], by simp [nk, cntR], by simp [nk, shortL], by simp [nk]⟩, by omega⟩, by rw [sealB_len]; omega⟩
  simp only [nk, List.mem_singleton] at hx
  subst hx
  exact ⟨by omega, by omega⟩
def pk (k i : Nat) : List UInt8 := sealB (nk k i).body
def qs (k a b : Nat) : List (List UInt8) := (List.range' a (b - a)).map (pk k)
theorem qs_len (k a b : Nat) : (qs k a b).length = b - a := by simp [qs]
theorem qs_nil (k a : Nat) : qs k a a = [] := by simp [qs]
theorem qs_snoc {k a b : Nat} (h : a ≤ b) : qs k a (b + 1) = qs k a b ++ [pk k b] := by
  have h1 : b + 1 - a = (b - a) + 1 := by omega
  have h2 : a + 1 * (b - a) = b := by omega
  rw [qs, h1, List.range'_concat, List.map_append, h2]
  rfl
theorem qs_get {k a b j : Nat} (h : a + j < b) : (qs k a b)[j]? = some (pk k (a + j)) := by
  rw [qs, List.getElem?_map, List.getElem?_range' (by omega)]
  simp
theorem qs_drop {k a b : Nat} (g : Nat) : (qs k a b).drop g = qs k (a + g) b := by
  rw [qs, qs, ← List.map_drop, List.drop_range']
  congr 2
  · omega
  · omega
theorem qs_short {k a b : Nat} (hk : 1 ≤ k ∧ k ≤ 255) (hb : b ≤ 4611686018427387903) : ∀ p ∈ qs k a b, p.length ≤ 32768 := by
  intro p hp
  rw [qs] at hp
  obtain ⟨i, hi, rfl⟩ := List.mem_map.1 hp
  rw [List.mem_range'] at hi
  obtain ⟨j, hj, rfl⟩ := hi
  exact (nk_fits hk (by omega)).2
theorem tick_get {e : En} {k a b j : Nat} (hq : e.q = qs k a b) (h : a + j < b) (h64 : j < 64) : (tickE e)[j]? = some (carB e (e.fs + j) (pk k (a + j))) := by
  rw [tickE]
  refine tickF_at e _ _ _ _ ?_
  rw [List.getElem?_take, if_pos h64, hq, qs_get h]

/-- The other end is not known yet, or was not known when it was written: no more than how one stands is told. -/
theorem take_first {e f : En} (hf : f.ok) (hw : f.wt ≤ 4611686018427387903) {k : Nat} (hk : k ≤ 4611686018427387903) {n : NoteD} (hn : fitsN n) (h0 : e.ot = 0) (hne : f.ot ≠ e.ep) :
    takeE e (carB f k (sealB n.body)) = ({ e with ot := f.ep, wt := 1 }, [], [telB { e with ot := f.ep, wt := 1 }], false) := by
  have := hf.ep1
  have hs : seeE e f.ep = ({ e with ot := f.ep, wt := 1 }, false) := by rw [seeE, if_pos (by omega), meetE, if_pos h0]
  rw [takeE_car hf hw hk hn, if_neg (by omega), hs, metE_not (by simp only; omega)]
theorem take_stale {e f : En} (hf : f.ok) (hw : f.wt ≤ 4611686018427387903) {k : Nat} (hk : k ≤ 4611686018427387903) {n : NoteD} (hn : fitsN n) (h0 : e.ot = f.ep) (hne : f.ot ≠ e.ep) :
    takeE e (carB f k (sealB n.body)) = (e, [], [telB e], false) := by
  have hs : seeE e f.ep = (e, false) := by rw [seeE, if_neg (by omega)]
  rw [takeE_car hf hw hk hn, if_neg (by omega), hs, metE_not (by simp only; omega)]
theorem take_here {e f : En} (hf : f.ok) (hw : f.wt ≤ 4611686018427387903) {k : Nat} (hk : k ≤ 4611686018427387903) {n : NoteD} (hn : fitsN n) (h0 : e.ot = f.ep) (he : f.ot = e.ep) :
    takeE e (carB f k (sealB n.body)) = tookE (dropE e f.wt) ⟨f.ep, f.ot, f.wt, true, k, n⟩ false := by
  have hs : seeE e f.ep = (e, false) := by rw [seeE, if_neg (by omega)]
  rw [takeE_car hf hw hk hn, if_neg (by omega), hs, metE_yes (by simp only; omega)]
  simp only [Int.toNat_natCast]
theorem tell_first {e f : En} (hf : f.ok) (hw : f.wt ≤ 4611686018427387903) (h0 : e.ot = 0) (he : f.ot = e.ep) :
    takeE e (telB f) = (dropE { e with ot := f.ep, wt := 1 } f.wt, [], [], false) := by
  have := hf.ep1
  have hs : seeE e f.ep = ({ e with ot := f.ep, wt := 1 }, false) := by rw [seeE, if_pos (by omega), meetE, if_pos h0]
  rw [takeE_tel hf hw, if_neg (by omega), hs, metE_yes (by simp only; omega), tookE, if_pos rfl]
  simp only [Int.toNat_natCast]
theorem tell_here {e f : En} (hf : f.ok) (hw : f.wt ≤ 4611686018427387903) (h0 : e.ot = f.ep) (he : f.ot = e.ep) :
    takeE e (telB f) = (dropE e f.wt, [], [], false) := by
  have hs : seeE e f.ep = (e, false) := by rw [seeE, if_neg (by omega)]
  rw [takeE_tel hf hw, if_neg (by omega), hs, metE_yes (by simp only; omega), tookE, if_pos rfl]
  simp only [Int.toNat_natCast]
theorem took_next {d : En} {h : Hd} {a : Bool} (hc : h.ca = true) (hn : h.nr = (d.wt : Int)) : tookE d h a = ({ d with wt := d.wt + 1 }, [h.pl], [telB { d with wt := d.wt + 1 }], a) := by rw [tookE, if_neg (by rw [hc]; decide), if_pos hn]
theorem took_not {d : En} {h : Hd} {a : Bool} (hc : h.ca = true) (hn : ¬ h.nr = (d.wt : Int)) : tookE d h a = (d, [], [telB d], a) := by rw [tookE, if_neg (by rw [hc]; decide), if_neg hn]
/-- An end with the payloads a .. b - 1 of a kind. -/
theorem end_ok {ep ot fs wt k a b : Nat} (h1 : 1 ≤ ep ∧ ep ≤ 1099511627776) (h2 : ot ≤ 1099511627776) (h3 : 1 ≤ fs ∧ fs ≤ 1000000) (h4 : 1 ≤ wt ∧ wt ≤ 1000000) (hk : 1 ≤ k ∧ k ≤ 255) (hb : b - a ≤ 4096) (hb2 : b ≤ 1000000) : (En.mk ep ot fs wt (qs k a b)).ok :=
  ⟨h1.1, h1.2, by simp only; omega, h3.1, by simp only; omega, h4.1, by simp only; omega, by rw [qs_len]; exact hb, qs_short hk (by omega)⟩
theorem drop_qs {ep ot fs wt k a b g : Nat} (hg : g ≤ b - a) : dropE ⟨ep, ot, fs, wt, qs k a b⟩ (fs + g) = ⟨ep, ot, fs + g, wt, qs k (a + g) b⟩ := by
  have : goneE ⟨ep, ot, fs, wt, qs k a b⟩ (fs + g) = g := by unfold goneE; simp only [qs_len]; omega
  simp only [dropE, this, qs_drop]
end Go.Proofs.Ytifmpcldiimdbaa
