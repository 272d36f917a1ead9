/- What comes whatever the arguments are; whether a note has few bytes. -/
import Derived.Test.YtnepednomejniaaWSameN
namespace Go.Proofs.Ytnepednomejniaa
open Go.RowKit

/-- Some truth value. -/
def IsBool (e : Ending) : Prop := ∃ b, e = .returned (.bool b)
theorem isBool (b : Bool) : IsBool (.returned (.bool b)) := ⟨b, rfl⟩


def n1 : NoteD := ⟨1, [], [], []⟩
theorem n1_body : n1.body = [1, 1, 0, 0, 0] := by decide +kernel
theorem n1_may : n1.may := by decide +kernel
theorem n1_at (w : World) : NoteAt w (.agg #[.int .i64 1, .slice none 0 0, .slice none 0 0, .slice none 0 0]) n1 :=
  ⟨_, _, _, rfl, ⟨by simp [n1, intCs], none, 0, rfl, .inl rfl⟩, ⟨by simp [n1], none, 0, rfl, .inl rfl⟩, ⟨[], ⟨by simp, none, 0, rfl, .inl rfl⟩, rfl, by simp⟩⟩

/-- A note that is cut is not read. -/
theorem unpackP_cut (b : List UInt8) (hb : b.length ≤ 1048576) (r : List UInt8) (k : Nat) (hk : k < (sealB b).length) : (unpackP ((sealB b ++ r).take k)).2.2 ≠ 0 := by
  rw [List.take_append_of_le_length (by omega)]
  have hl : ((sealB b).take k).length = k := by rw [List.length_take]; omega
  by_cases h8 : k < 8
  · rw [unpackP_1 (by omega)]; simp
  · have hf : fourN ((sealB b).take k) = b.length := by
      have e : (sealB b).take k = fourB b.length ++ (fourB (sumN b) ++ b).take (k - 4) := by
        rw [sealB, List.take_append, List.take_of_length_le (by rw [fourB_len]; omega), fourB_len]
      rw [e]; exact fourN_fourB _ (by omega) _
    rw [sealB_len] at hk
    rw [unpackP_3 (by omega) (by omega) (by omega)]; simp

theorem packV_may {n : NoteD} (h : n.may) : packV n = .tuple #[.string ⟨(sealB n.body).toArray⟩, .int .i64 0] := if_pos h
theorem packV_not {n : NoteD} (h : ¬ n.may) : packV n = .tuple #[.string ⟨#[]⟩, .int .i64 1] := if_neg h

theorem allP_seal (n : NoteD) (h : n.may) (r : List UInt8) : allP (sealB n.body ++ r) = (n :: (allP r).1, (sealB n.body).length + (allP r).2) := by
  have := allP_ok (unpackP_seal n h r)
  rwa [List.drop_left' rfl] at this

theorem awake_all : allP (sealB n1.body ++ (sealB n1.body ++ (sealB n1.body).take 9)) = ([n1, n1], 26) := by
  have e : (sealB n1.body).length = 13 := by rw [sealB_len, n1_body]; rfl
  have hc := allP_end (unpackP_cut n1.body (by rw [n1_body]; decide) [] 9 (by rw [e]; decide))
  rw [List.append_nil] at hc
  rw [allP_seal n1 n1_may, allP_seal n1 n1_may, hc, e]
  rfl

end Go.Proofs.Ytnepednomejniaa
