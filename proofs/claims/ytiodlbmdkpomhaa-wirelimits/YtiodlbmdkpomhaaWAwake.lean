/- What comes whatever the arguments are; whether a note has few bytes. -/
import Derived.Test.YtiodlbmdkpomhaaWSameN
namespace Go.Proofs.Ytiodlbmdkpomhaa
open Go.RowKit

/-- Some truth value. -/
def IsBool (e : Ending) : Prop := ∃ b, e = .returned (.bool b)
theorem isBool (b : Bool) : IsBool (.returned (.bool b)) := ⟨b, rfl⟩


def n1 : NoteD := ⟨1, [], [], []⟩
theorem n1_body : n1.body = [1, 1, 0, 0, 0] := by decide +kernel
theorem n1_may : n1.may := by decide +kernel
theorem n1_at (w : World) : NoteAt w (.agg #[.int .i64 1, .slice none 0 0, .slice none 0 0, .slice none 0 0]) n1 :=
  ⟨_, _, _, rfl, ⟨by simp [n1, intCs], none, 0, rfl, .inl rfl⟩, ⟨by simp [n1], none, 0, rfl, .inl rfl⟩, ⟨[], ⟨by simp, none, 0, rfl, .inl rfl⟩, rfl, by simp⟩⟩

/-- A note that is cut is not read. -/
theorem unpackP_cut (b : List UInt8) (hb : b.length ≤ 1048576) (r : List UInt8) (k : Nat) (hk : k < (sealB b).length) : (unpackP ((sealB b ++ r).take k)).2.2 ≠ 0 := by
  rw [List.take_append_of_le_length (by omega)]
  have hl : ((sealB b).take k).length = k := by rw [List.length_take]; omega
  by_cases h8 : k < 8
  · rw [unpackP_1 (by omega)]; simp
  · have hf : fourN ((sealB b).take k) = b.length := by
      have e : (sealB b).take k = fourB b.length ++ (fourB (sumN b) ++ b).take (k - 4) := by
        rw [sealB, List.take_append, List.take_of_length_le (by rw [fourB_len]; omega), fourB_len]
      rw [e]; exact fourN_fourB _ (by omega) _
    rw [sealB_len] at hk
    rw [unpackP_3 (by omega) (by omega) (by omega)]; simp

theorem packV_may {n : NoteD} (h : n.may) : packV n = .tuple #[.string ⟨(sealB n.body).toArray⟩, .int .i64 0] := if_pos h
theorem packV_not {n : NoteD} (h : ¬ n.may) : packV n = .tuple #[.string ⟨#[]⟩, .int .i64 1] := if_neg h

theorem allP_seal (n : NoteD) (h : n.may) (r : List UInt8) : allP (sealB n.body ++ r) = (n :: (allP r).1, (sealB n.body).length + (allP r).2) := by
  have := allP_ok (unpackP_seal n h r)
  rwa [List.drop_left' rfl] at this

theorem awake_all : allP (sealB n1.body ++ (sealB n1.body ++ (sealB n1.body).take 9)) = ([n1, n1], 26) := by
  have e : (sealB n1.body).length = 13 := by rw [sealB_len, n1_body]; rfl
  have hc := allP_end (unpackP_cut n1.body (by rw [n1_body]; decide) [] 9 (by rw [e]; decide))
  rw [List.append_nil] at hc
  rw [allP_seal n1 n1_may, allP_seal n1 n1_may, hc, e]
  rfl

set_option maxHeartbeats 1000000 in
set_option maxRecDepth 100000 in
theorem awake_any (w : World) : Calls Try.prog 5 #[] w fun e w' => e = .returned (.bool true) ∧ Below w.heap.size w w' := by
  have hp := packV_may n1_may
  have hu := unpackP_seal n1 n1_may [120]
  have ha := awake_all
  have hb := n1_body
  have hlen : (sealB n1.body).length = 13 := by rw [sealB_len, n1_body]; rfl
  have h8 : (sealB n1.body).drop 8 = [1, 1, 0, 0, 0] := by
    rw [← n1_body, sealB, ← List.append_assoc]; exact List.drop_left' rfl
  obtain ⟨l, hl⟩ : ∃ l, l = sealB n1.body := ⟨_, rfl⟩
  rw [← hl] at hp hu ha hlen h8
  rw [hlen] at hu
  have hsz := size_list l
  have hx8 := extract_from l 8
  rw [hsz, hlen, h8] at hx8
  have hx9 := extract_to l 9
  have hA1 : (⟨l.toArray⟩ : ByteArray) ++ ⟨#[120]⟩ = ⟨(l ++ [120]).toArray⟩ := append_list l ⟨#[120]⟩
  have hA2 : (⟨l.toArray⟩ : ByteArray) ++ ⟨l.toArray⟩ = ⟨(l ++ l).toArray⟩ := append_list l ⟨l.toArray⟩
  obtain ⟨l9, hl9⟩ : ∃ l9, l9 = l.take 9 := ⟨_, rfl⟩
  rw [← hl9] at hx9 ha
  have h9 : l9.length = 9 := by rw [hl9, List.length_take, hlen]; rfl
  have hA3 : (⟨(l ++ l).toArray⟩ : ByteArray) ++ ⟨l9.toArray⟩ = ⟨(l ++ (l ++ l9)).toArray⟩ := by
    rw [append_list]; simp
  obtain ⟨q1, hq1⟩ : ∃ q, q = l ++ [120] := ⟨_, rfl⟩
  obtain ⟨q2, hq2⟩ : ∃ q, q = l ++ (l ++ l9) := ⟨_, rfl⟩
  obtain ⟨q3, hq3⟩ : ∃ q, q = l ++ l := ⟨_, rfl⟩
  rw [← hq1] at hA1 hu
  rw [← hq2] at hA3 ha
  rw [← hq3] at hA2 hA3
  have hq1l : q1.length = 14 := by rw [hq1, List.length_append, hlen]; rfl
  have hq2l : q2.length = 35 := by rw [hq2, List.length_append, List.length_append, hlen, h9]
  have hq3l : q3.length = 26 := by rw [hq3, List.length_append, hlen]
  have hs9 := size_list l9
  have hs3 := size_list q3
  have HP := Hid.mk hp
  have CU : Hid (∀ w, Calls Try.prog 6 #[.string ⟨q1.toArray⟩] w (UEnd q1 w)) := Hid.mk (fun w => unpack_any q1 w (by omega))
  have CA : Hid (∀ w, Calls Try.prog 11 #[.string ⟨q2.toArray⟩] w (AEnd q2 w)) := Hid.mk (fun w => all_any q2 w (by omega))
  unfold UEnd at CU
  rw [hu] at CU
  unfold AEnd at CA
  rw [ha] at CA
  simp only at CU CA
  clear hp hu ha hb h8 hl hl9 hq1 hq2 hq3
  go_enter Try.func5, Try.ntmps5
  go_wp2_with fail
  refine (pack_any _ n1 _ (n1_at _) ⟨by simp [n1], by simp [n1]⟩).mono ?_
  rintro e w1 ⟨rfl, hb1⟩
  rw [HP.out]
  go_wp2_with fail
  refine (CU.out _).mono ?_
  rintro e w2 ⟨v, rfl, hown, hb2⟩
  obtain ⟨a0, l0, c0, a1, l1, c1, a2, l2, c2, rfl⟩ := own_parts hown
  have B2 := Hid.mk ((hb1.trans (hb2.mono hb1.size)))
  clear hb1 hb2 hown
  go_wp2_with fail
  refine (CA.out _).mono ?_
  rintro e w3 ⟨v3, rfl, hown3, hb3⟩
  obtain ⟨cs, ho3, _⟩ := hown3
  obtain ⟨a3, c3, rfl⟩ := own_slice ho3
  obtain ⟨g0, _, _, _⟩ := box_cells hb3
  have B3 := Hid.mk (B2.out.trans (((Below.refl _ _).alloc (Nat.le_refl _) _).trans (hb3.mono (by simp)) |>.mono B2.out.size))
  clear hb3 ho3
  have hkd : n1.kind = 1 := rfl
  have hln : [n1, n1].length = 2 := rfl
  go_wp2
  go_ret
  exact ⟨rfl, B3.out⟩
end Go.Proofs.Ytiodlbmdkpomhaa
