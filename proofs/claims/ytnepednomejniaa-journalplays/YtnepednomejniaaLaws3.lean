/- The statement of lists: List is the document's, for every text. -/
import Derived.Test.YtnepednomejniaaPutList
namespace Go.Proofs.Ytnepednomejniaa
open Go.RowKit

theorem putListV_hi : putListV [[104, 105], []] = .tuple #[.string ⟨#[1, 2, 1, 2, 104, 105, 0]⟩, .int .i64 0] := by
  rw [putListV_of (putListP_ok _ (by decide) (by decide)), show numB [[104, 105], ([] : List UInt8)].length ++ textsB [[104, 105], []] = [1, 2, 1, 2, 104, 105, 0] from by decide]; rfl

theorem putList_hi (w : World) : Calls Try.prog 54 #[.slice (some ⟨w.heap.size, 0, none⟩) 2 2] (w.alloc (.cells #[.string ⟨#[104, 105]⟩, .string ⟨#[]⟩] 9))
    fun e w' => e = .returned (.tuple #[.string ⟨#[1, 2, 1, 2, 104, 105, 0]⟩, .int .i64 0]) ∧ Below w.heap.size w w' := by
  have hat : StrsAt (w.alloc (.cells #[.string ⟨#[104, 105]⟩, .string ⟨#[]⟩] 9)) (.slice (some ⟨w.heap.size, 0, none⟩) 2 2) [[104, 105], []] := by
    refine ⟨by decide, _, 2, rfl, .inr ⟨w.heap.size, 0, rfl, by simp, fun j t hj => ?_⟩⟩
    match j, hj with
    | 0, hj => simp at hj; subst hj; simp
    | 1, hj => simp at hj; subst hj; simp
  have h := putList_any _ _ _ hat (fun _ => by decide)
  rw [putListV_hi] at h
  refine h.mono ?_
  rintro e w' ⟨rfl, hb⟩
  exact ⟨rfl, ((Below.refl _ _).alloc (Nat.le_refl _) _).trans (hb.mono (by simp))⟩


theorem same_self (va vb : Value) (xs : List (List UInt8)) (w : World) (ha : StrsAt w va xs) (hb : StrsAt w vb xs) :
    Calls Try.prog 36 #[va, vb] w fun e w' => e = .returned (.bool true) ∧ Below w.heap.size w w' := by
  have h := same_any va vb xs xs w ha hb
  rw [decide_eq_true (rfl : xs = xs)] at h
  exact h

theorem listLoop_len (n : Nat) : ∀ (l : List UInt8) (k : Nat) (acc : List (List UInt8)), (listLoop n l k acc).1.length ≤ acc.length + n := by
  induction n with
  | zero => intro l k acc; simp [listLoop]
  | succ n ih =>
    intro l k acc
    unfold listLoop
    split
    · simp
    · have := ih l (k + (strP (l.drop k)).2.1) (acc ++ [(strP (l.drop k)).1])
      simp at this; omega
theorem listP_len (l : List UInt8) : (listP l).1.length ≤ 4096 := by
  unfold listP
  split
  · simp
  · split
    · simp
    · have := listLoop_len (numP l).1 l (numP l).2.1 []
      simp at this; omega

end Go.Proofs.Ytnepednomejniaa
