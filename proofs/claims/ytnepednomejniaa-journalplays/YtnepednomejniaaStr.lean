/- What Str and PutStr of the program, and of the document's own definition, answer: the same, for every text of up to 2^47 bytes. -/
import Derived.Test.YtnepednomejniaaLaws1
import Derived.Test.YtnepednomejniaaMath3
namespace Go.Proofs.Ytnepednomejniaa
open Go.RowKit

set_option maxRecDepth 100000 in
set_option maxHeartbeats 400000 in
theorem clone_any (s : ByteArray) (w : World) (hs : s.size ≤ 140737488355328) :
    Calls Try.prog 79 #[.string s] w fun e w' => e = .returned (.string s) ∧ Below w.heap.size w w' := by
  go_enter Try.func79, Try.ntmps79
  go_wp2_with fail
  refine (Try.stringslite_Clone _ _ (by omega)).mono ?_
  rintro e w1 ⟨rfl, hb⟩
  go_wp2
  go_ret
  exact ⟨rfl, hb⟩

/-- What Str answers, as a value. -/
def strV (l : List UInt8) : Value := .tuple #[.string ⟨(strP l).1.toArray⟩, .int .i64 ((strP l).2.1 : Int), .int .i64 ((strP l).2.2 : Int)]
theorem strV_of {l t : List UInt8} {k e : Nat} (h : strP l = (t, k, e)) : strV l = .tuple #[.string ⟨t.toArray⟩, .int .i64 (k : Int), .int .i64 (e : Int)] := by rw [strV, h]
theorem numV_of {l : List UInt8} {n k e : Nat} (h : numP l = (n, k, e)) : numV l = .tuple #[.int .i64 (n : Int), .int .i64 (k : Int), .int .i64 (e : Int)] := by rw [numV, h]

theorem bytes_ext {a b : ByteArray} (h : a.data.toList = b.data.toList) : a = b := by
  cases a; cases b; simp at h; simp [h]

theorem extract_list (s : ByteArray) (k n : Nat) : s.extract k (k + n) = ⟨((s.data.toList.drop k).take n).toArray⟩ := by
  apply bytes_ext
  rw [Lib.extract_data]; simp

theorem size_data_list (s : ByteArray) : s.data.toList.length = s.size := by rw [Array.length_toList]; rfl

set_option maxRecDepth 100000 in
set_option maxHeartbeats 400000 in
theorem str_any (s : ByteArray) (w : World) (hs : s.size ≤ 140737488355328) :
    Calls Try.prog 76 #[.string s] w fun e w' => e = .returned (strV s.data.toList) ∧ Below w.heap.size w w' := by
  have hsm : s.size ≤ maxLen := by unfold maxLen; omega
  obtain ⟨n, k, er, hP⟩ : ∃ n k er, numP s.data.toList = (n, k, er) := ⟨_, _, _, rfl⟩
  obtain ⟨u1, u2, u3, u4⟩ := numP_used s.data.toList
  have hl := size_data_list s
  have c1 := strP_err s.data.toList
  have c2 := strP_great s.data.toList
  have c3 := strP_cut s.data.toList
  have c4 := strP_ok s.data.toList
  rw [hP] at u1 u2 u3 u4 c1 c2 c3 c4
  simp only at u1 u2 u3 u4 c1 c2 c3 c4
  rw [hl] at u1 c3 c4
  have HN := Hid.mk (numV_of hP)
  clear hP hl
  by_cases h1 : er = 0
  · subst h1
    by_cases h2 : 65536 < n
    · have hV := Hid.mk (strV_of (c2 rfl h2))
      clear c1 c2 c3 c4
      go_enter Try.func76, Try.ntmps76
      go_wp2_with fail
      refine (num_any _ _ hsm).mono ?_
      rintro e w1 ⟨rfl, rfl⟩
      rw [HN.out]
      go_wp2
      go_ret3
      exact ⟨by rw [hV.out]; rfl, Below.refl _ _⟩
    · by_cases h3 : s.size < k + n
      · have hV := Hid.mk (strV_of (c3 rfl h2 h3))
        clear c1 c2 c3 c4
        go_enter Try.func76, Try.ntmps76
        go_wp2_with fail
        refine (num_any _ _ hsm).mono ?_
        rintro e w1 ⟨rfl, rfl⟩
        rw [HN.out]
        go_wp2
        go_ret3
        exact ⟨by rw [hV.out]; rfl, Below.refl _ _⟩
      · have hV := Hid.mk (strV_of (c4 rfl h2 h3))
        clear c1 c2 c3 c4
        go_enter Try.func76, Try.ntmps76
        go_wp2_with fail
        refine (num_any _ _ hsm).mono ?_
        rintro e w1 ⟨rfl, rfl⟩
        rw [HN.out]
        go_wp2_with fail
        refine (clone_any _ _ (by rw [ByteArray.size_extract]; omega)).mono ?_
        rintro e w2 ⟨rfl, hb⟩
        rw [extract_list]
        go_wp2
        go_ret3
        exact ⟨by rw [hV.out]; rfl, hb⟩
  · have hV := Hid.mk (strV_of (c1 h1))
    have h1' : ((er : Int) != 0) = true := by rw [bne_iff_ne]; omega
    clear c1 c2 c3 c4
    go_enter Try.func76, Try.ntmps76
    go_wp2_with fail
    refine (num_any _ _ hsm).mono ?_
    rintro e w1 ⟨rfl, rfl⟩
    rw [HN.out]
    go_wp2
    go_ret3
    exact ⟨by rw [hV.out]; rfl, Below.refl _ _⟩

/-- What PutStr answers, as a value. -/
def putStrV (l : List UInt8) : Value := if 65536 < l.length then .tuple #[.string ⟨#[]⟩, .int .i64 12] else .tuple #[.string ⟨(strB l).toArray⟩, .int .i64 0]

theorem append_list (a : List UInt8) (s : ByteArray) : (⟨a.toArray⟩ : ByteArray) ++ s = ⟨(a ++ s.data.toList).toArray⟩ := by
  apply bytes_ext; rw [append_data]

set_option maxRecDepth 100000 in
set_option maxHeartbeats 400000 in
theorem putStr_any (s : ByteArray) (w : World) (hs : s.size ≤ 140737488355328) :
    Calls Try.prog 71 #[.string s] w fun e w' => e = .returned (putStrV s.data.toList) ∧ Below w.heap.size w w' := by
  have hl := size_data_list s
  by_cases h : 65536 < s.size
  · have hV : putStrV s.data.toList = .tuple #[.string ⟨#[]⟩, .int .i64 12] := by rw [putStrV, if_pos (by omega)]
    have HV := Hid.mk hV
    clear hV hl
    go_enter Try.func71, Try.ntmps71
    go_wp2
    go_ret2
    exact ⟨by rw [HV.out]; rfl, Below.refl _ _⟩
  · have hV : putStrV s.data.toList = .tuple #[.string (⟨(numB s.size).toArray⟩ ++ s), .int .i64 0] := by
      rw [putStrV, if_neg (by omega), append_list, strB, hl]
    have HV := Hid.mk hV
    have h9 := numB_le s.size
    have hz := size_list (numB s.size)
    clear hV hl
    go_enter Try.func71, Try.ntmps71
    go_wp2_with fail
    refine (numBytes_any _ _ (by omega)).mono ?_
    rintro e w1 ⟨rfl, hb⟩
    go_wp2
    go_ret2
    exact ⟨by rw [HV.out]; rfl, hb⟩

set_option maxRecDepth 100000 in
set_option maxHeartbeats 400000 in
theorem rPutStr_any (s : ByteArray) (w : World) (hs : s.size ≤ 140737488355328) :
    Calls Try.prog 74 #[.string s] w fun e w' => e = .returned (putStrV s.data.toList) ∧ Below w.heap.size w w' := by
  have hl := size_data_list s
  by_cases h : 65536 < s.size
  · have hV : putStrV s.data.toList = .tuple #[.string ⟨#[]⟩, .int .i64 12] := by rw [putStrV, if_pos (by omega)]
    have HV := Hid.mk hV
    clear hV hl
    go_enter Try.func74, Try.ntmps74
    go_wp2
    go_ret2
    exact ⟨by rw [HV.out]; rfl, Below.refl _ _⟩
  · have hV : putStrV s.data.toList = .tuple #[.string (⟨(numB s.size).toArray⟩ ++ s), .int .i64 0] := by
      rw [putStrV, if_neg (by omega), append_list, strB, hl]
    have HV := Hid.mk hV
    have h9 := numB_le s.size
    have hz := size_list (numB s.size)
    clear hV hl
    go_enter Try.func74, Try.ntmps74
    go_wp2_with fail
    refine (rPutNum_pos _ _ (by omega)).mono ?_
    rintro e w1 ⟨rfl, hb⟩
    go_wp2
    go_ret2
    exact ⟨by rw [HV.out]; rfl, hb⟩
end Go.Proofs.Ytnepednomejniaa
