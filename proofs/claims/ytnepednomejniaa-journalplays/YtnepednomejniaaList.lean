/- What List of the program, and of the document's own definition, answers: the same list, for every text of up to 2^47 bytes. -/
import Derived.Test.YtnepednomejniaaLaws2
namespace Go.Proofs.Ytnepednomejniaa
open Go.RowKit

theorem info9 : (Try.prog.info? 9).map (fun i => (i.zero, i.size, i.bytes)) = some (some (.string ⟨#[]⟩), 1, 16) := by kernel_rfl

/-- Texts as cells. -/
def strCs (l : List (List UInt8)) : List Value := l.map fun t => .string ⟨t.toArray⟩
theorem strCs_snoc (l : List (List UInt8)) (t : List UInt8) : strCs (l ++ [t]) = strCs l ++ [.string ⟨t.toArray⟩] := by simp [strCs]

theorem extract_end (s : ByteArray) (k : Nat) : (s.extract k s.size).data.toList = s.data.toList.drop k := by
  rw [Lib.extract_data]
  exact List.take_of_length_le (by rw [List.length_drop, size_data_list]; exact Nat.le_refl _)

theorem below_grown {w w' : World} (hb : Below w.heap.size w w') : w.grownBy w' none := ⟨hb.os, hb.tape, hb.output, hb.size, fun k hk _ => hb.block k hk⟩
theorem ownsRow_below {w w' : World} {B n : Nat} {e : TypeId} {v : Value} {xs : List Value} (h : w.ownsRow B e 1 v n xs) (hb : Below w.heap.size w w') : w'.ownsRow B e 1 v n xs :=
  h.kept (below_grown hb) (Classical.em _)

/-- The end of a reading of a list. -/
def ListEnd (l : List UInt8) (w : World) (e : Ending) (w' : World) : Prop :=
  ∃ v, e = .returned (.tuple #[v, .int .i64 ((listP l).2.1 : Int), .int .i64 ((listP l).2.2 : Int)]) ∧
    w'.ownsRow w.heap.size 9 1 v (listP l).1.length (strCs (listP l).1) ∧ Below w.heap.size w w'

theorem listEnd_of {l : List UInt8} {w w' : World} {v : Value} {ts : List (List UInt8)} {k e : Nat} (h : listP l = (ts, k, e)) (ho : w'.ownsRow w.heap.size 9 1 v ts.length (strCs ts)) (hb : Below w.heap.size w w') :
    ListEnd l w (.returned (.tuple #[v, .int .i64 (k : Int), .int .i64 (e : Int)])) w' := by
  unfold ListEnd; rw [h]; exact ⟨v, rfl, ho, hb⟩

set_option maxRecDepth 100000 in
set_option maxHeartbeats 1000000 in
theorem list_any (s : ByteArray) (w : World) (hs : s.size ≤ 140737488355328) :
    Calls Try.prog 67 #[.string s] w (ListEnd s.data.toList w) := by
  have hsm : s.size ≤ maxLen := by unfold maxLen; omega
  obtain ⟨i0, hi, hz0, hz1, hz2⟩ := info_parts info9
  obtain ⟨n, k0, er, hP⟩ : ∃ n k er, numP s.data.toList = (n, k, er) := ⟨_, _, _, rfl⟩
  obtain ⟨q1, q2, q3, q4⟩ := numP_used s.data.toList
  have hL : listP s.data.toList = if er ≠ 0 then ([], 0, er) else if 4096 < n then ([], 0, 12) else listLoop n s.data.toList k0 [] := by
    unfold listP; rw [hP]
  rw [hP] at q1 q2 q3 q4
  simp only at q1 q2 q3 q4
  rw [size_data_list] at q1
  have HN := Hid.mk (numV_of hP)
  clear hP
  by_cases h1 : er = 0
  · subst h1
    by_cases h2 : 4096 < n
    · have hV : listP s.data.toList = ([], 0, 12) := by rw [hL, if_neg (by simp), if_pos h2]
      have HV := Hid.mk hV
      clear hL hV
      go_enter Try.func67, Try.ntmps67
      go_wp2_with fail
      refine (num_any _ _ hsm).mono ?_
      rintro e w1 ⟨rfl, rfl⟩
      rw [HN.out]
      go_wp2
      go_ret3
      exact listEnd_of HV.out (World.ownsRow_nil _ _ _ _) (Below.refl _ _)
    · have hV : listP s.data.toList = listLoop n s.data.toList k0 [] := by rw [hL, if_neg (by simp), if_neg h2]
      have HV := Hid.mk hV
      clear hL hV
      go_enter Try.func67, Try.ntmps67
      go_wp2_with fail
      refine (num_any _ _ hsm).mono ?_
      rintro e w1 ⟨rfl, rfl⟩
      rw [HN.out]
      go_wp2_with fail
      go_loopw [2, 3, 21] (fun v u c wr => ∃ (i k : Nat) (acc : List (List UInt8)), i ≤ n ∧ c = .int .i64 i ∧ u = .int .i64 k ∧ k ≤ s.size ∧ acc.length = i ∧ listP s.data.toList = listLoop (n - i) s.data.toList k acc ∧ wr.ownsRow w1.heap.size 9 1 v acc.length (strCs acc) ∧ Below w1.heap.size w1 wr) (fun _ _ c _ => n - (intOf c).toNat)
      case atStart => exact ⟨0, k0, [], Nat.zero_le _, rfl, rfl, q1, rfl, by simpa using HV.out, World.ownsRow_nil _ _ _ _, Below.refl _ _⟩
      case round =>
        obtain ⟨i, k, acc, hin, rfl, rfl, hk, hacc, hLL, hown, hb⟩ := hrel
        have hsz := hb.size
        have HA := Hid.mk hacc
        have hal : acc.length ≤ 4096 := by omega
        have HLL := Hid.mk hLL
        clear hacc hLL
        by_cases hlt : i < n
        · obtain ⟨t, k', e, hS⟩ : ∃ t k' e, strP (s.data.toList.drop k) = (t, k', e) := ⟨_, _, _, rfl⟩
          obtain ⟨v1, v2⟩ := strP_used (s.data.toList.drop k)
          rw [hS] at v1 v2
          simp only [List.length_drop, size_data_list] at v1 v2
          have HS := Hid.mk (strV_of hS)
          by_cases he : e = 0
          · subst he
            have hstep := loop_ok (n := n - i - 1) (acc := acc) hS
            rw [show n - i - 1 + 1 = n - i by omega, show n - i - 1 = n - (i + 1) by omega] at hstep
            have HST := Hid.mk (HLL.out.trans hstep)
            clear hS hstep
            go_wp2_with fail
            refine (str_any _ _ (by rw [ByteArray.size_extract]; omega)).mono ?_
            rintro e w2 ⟨rfl, hb2⟩
            rw [extract_end, HS.out]
            have hown2 := ownsRow_below hown hb2
            have hb12 := hb.trans (hb2.mono hsz)
            have hsz2 := hb12.size
            clear hown hb2 hb hsz HS HLL
            go_wp2_with (at_builtin; refine wpList_append_own _ rfl _ _ 34 rfl w1.heap.size 9 i0 (.string ⟨#[]⟩) 1 16 Try.underlying34 hi hz0 hz1 hz2 rfl (by decide) _ _ _ rfl (hown2.alloc _) ⟨w2.heap.size, 0, none⟩ 1 1 [.string ⟨t.toArray⟩] rfl rfl (cell_one_new _ _ _) ?c2 ?c3 ?c4 ?c5 ?_)
            case c2 => intro u hu; simp at hu; subst hu; rfl
            case c3 => unfold maxLen; omega
            case c4 => omega
            case c5 => simp; omega
            intro v' w3 hown3 hgrow3 _
            have hb3 : Below w1.heap.size w1 w3 := (hb12.alloc hsz2 _).grown hgrow3 (by simp; omega) (fun k hk => (hown2.lt k hk).1)
            have ho3 : w3.ownsRow w1.heap.size 9 1 v' (acc ++ [t]).length (strCs (acc ++ [t])) := by
              rw [strCs_snoc, List.length_append]; exact hown3
            clear hown3 hgrow3 hown2 hb12 hsz2
            go_wp2
            go_roundw
            case rel => exact ⟨i + 1, k + k', acc ++ [t], by omega, by go_num, by go_num, by omega, by rw [List.length_append, HA.out]; rfl, HST.out, ho3, hb3⟩
            case measure => simp [intOf]; omega
          · have hfin : listP s.data.toList = ([], 0, e) := by
              rw [HLL.out, show n - i = n - i - 1 + 1 by omega, loop_err hS he]
            have HF := Hid.mk hfin
            have he' : ((e : Int) != 0) = true := by rw [bne_iff_ne]; omega
            clear hS hfin
            go_wp2_with fail
            refine (str_any _ _ (by rw [ByteArray.size_extract]; omega)).mono ?_
            rintro e w2 ⟨rfl, hb2⟩
            rw [extract_end, HS.out]
            have hb12 := hb.trans (hb2.mono hsz)
            clear hown hb2 hb hsz
            go_wp2
            go_ret3
            exact listEnd_of HF.out (World.ownsRow_nil _ _ _ _) hb12
        · have hie : i = n := by omega
          have hfin : listP s.data.toList = (acc, k, 0) := by
            rw [HLL.out, hie, Nat.sub_self, listLoop]
          have HF := Hid.mk hfin
          clear hfin hie
          go_wp2
          go_ret3
          exact listEnd_of HF.out hown hb
  · have hV : listP s.data.toList = ([], 0, er) := by rw [hL, if_pos h1]
    have HV := Hid.mk hV
    have h1' : ((er : Int) != 0) = true := by rw [bne_iff_ne]; omega
    clear hL hV
    go_enter Try.func67, Try.ntmps67
    go_wp2_with fail
    refine (num_any _ _ hsm).mono ?_
    rintro e w1 ⟨rfl, rfl⟩
    rw [HN.out]
    go_wp2
    go_ret3
    exact listEnd_of HV.out (World.ownsRow_nil _ _ _ _) (Below.refl _ _)
end Go.Proofs.Ytnepednomejniaa
