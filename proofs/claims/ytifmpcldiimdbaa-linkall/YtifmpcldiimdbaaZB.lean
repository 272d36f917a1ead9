/- Parts of the proofs of stage 15. -/
import Derived.Test.YtifmpcldiimdbaaZA
import Derived.Deep.QuietTactic
import Derived.BigQuiet
import Derived.WalkSmall
import Derived.Test.YtifmpcldiimdbaaShelf
import Derived.WalkKit
import Derived.Deep.AppendSrc
import Derived.Lib.ConvBytes
import Derived.Laws.IdiomCopy
import Derived.SliceStrings
import Derived.OpenShut
namespace Go.Proofs.Ytifmpcldiimdbaa
open Go.RowKit

theorem info9 : (Try.prog.info? 9).map (fun i => (i.zero, i.size, i.bytes)) = some (some (.string ⟨#[]⟩), 1, 16) := by kernel_rfl

/-- Texts as cells. -/
def strCs (l : List (List UInt8)) : List Value := l.map fun t => .string ⟨t.toArray⟩
theorem strCs_snoc (l : List (List UInt8)) (t : List UInt8) : strCs (l ++ [t]) = strCs l ++ [.string ⟨t.toArray⟩] := by simp [strCs]

theorem extract_end (s : ByteArray) (k : Nat) : (s.extract k s.size).data.toList = s.data.toList.drop k := by
  rw [Lib.extract_data]
  exact List.take_of_length_le (by rw [List.length_drop, size_data_list]; exact Nat.le_refl _)

theorem below_grown {w w' : World} (hb : Below w.heap.size w w') : w.grownBy w' none := ⟨hb.os, hb.tape, hb.output, hb.size, fun k hk _ => hb.block k hk⟩
theorem ownsRow_below {w w' : World} {B n : Nat} {e : TypeId} {v : Value} {xs : List Value} (h : w.ownsRow B e 1 v n xs) (hb : Below w.heap.size w w') : w'.ownsRow B e 1 v n xs :=
  h.kept (below_grown hb) (Classical.em _)

/-- The end of a reading of a list. -/
def ListEnd (l : List UInt8) (w : World) (e : Ending) (w' : World) : Prop :=
  ∃ v, e = .returned (.tuple #[v, .int .i64 ((listP l).2.1 : Int), .int .i64 ((listP l).2.2 : Int)]) ∧
    w'.ownsRow w.heap.size 9 1 v (listP l).1.length (strCs (listP l).1) ∧ Below w.heap.size w w'

theorem listEnd_of {l : List UInt8} {w w' : World} {v : Value} {ts : List (List UInt8)} {k e : Nat} (h : listP l = (ts, k, e)) (ho : w'.ownsRow w.heap.size 9 1 v ts.length (strCs ts)) (hb : Below w.heap.size w w') :
    ListEnd l w (.returned (.tuple #[v, .int .i64 (k : Int), .int .i64 (e : Int)])) w' := by
  unfold ListEnd; rw [h]; exact ⟨v, rfl, ho, hb⟩

set_option maxRecDepth 100000 in
set_option maxHeartbeats 1000000 in
theorem list_any (s : ByteArray) (w : World) (hs : s.size ≤ 140737488355328) :
    Calls Try.prog 93 #[.string s] w (ListEnd s.data.toList w) := by
  have hsm : s.size ≤ maxLen := by unfold maxLen; omega
  obtain ⟨i0, hi, hz0, hz1, hz2⟩ := info_parts info9
  obtain ⟨n, k0, er, hP⟩ : ∃ n k er, numP s.data.toList = (n, k, er) := ⟨_, _, _, rfl⟩
  obtain ⟨q1, q2, q3, q4⟩ := numP_used s.data.toList
  have hL : listP s.data.toList = if er ≠ 0 then ([], 0, er) else if 4096 < n then ([], 0, 12) else listLoop n s.data.toList k0 [] := by
    unfold listP; rw [hP]
  rw [hP] at q1 q2 q3 q4
  simp only at q1 q2 q3 q4
  rw [size_data_list] at q1
  have HN := Hid.mk (numV_of hP)
  clear hP
  by_cases h1 : er = 0
  · subst h1
    by_cases h2 : 4096 < n
    · have hV : listP s.data.toList = ([], 0, 12) := by rw [hL, if_neg (by simp), if_pos h2]
      have HV := Hid.mk hV
      clear hL hV
      go_enter Try.func93, Try.ntmps93
      go_wp2_with fail
      refine (num_any _ _ hsm).mono ?_
      rintro e w1 ⟨rfl, rfl⟩
      rw [HN.out]
      go_wp2
      go_ret3
      exact listEnd_of HV.out (World.ownsRow_nil _ _ _ _) (Below.refl _ _)
    · have hV : listP s.data.toList = listLoop n s.data.toList k0 [] := by rw [hL, if_neg (by simp), if_neg h2]
      have HV := Hid.mk hV
      clear hL hV
      go_enter Try.func93, Try.ntmps93
      go_wp2_with fail
      refine (num_any _ _ hsm).mono ?_
      rintro e w1 ⟨rfl, rfl⟩
      rw [HN.out]
      go_wp2_with fail
      go_loopw [2, 3, 21] (fun v u c wr => ∃ (i k : Nat) (acc : List (List UInt8)), i ≤ n ∧ c = .int .i64 i ∧ u = .int .i64 k ∧ k ≤ s.size ∧ acc.length = i ∧ listP s.data.toList = listLoop (n - i) s.data.toList k acc ∧ wr.ownsRow w1.heap.size 9 1 v acc.length (strCs acc) ∧ Below w1.heap.size w1 wr) (fun _ _ c _ => n - (intOf c).toNat)
      case atStart => exact ⟨0, k0, [], Nat.zero_le _, rfl, rfl, q1, rfl, by simpa using HV.out, World.ownsRow_nil _ _ _ _, Below.refl _ _⟩
      case round =>
        obtain ⟨i, k, acc, hin, rfl, rfl, hk, hacc, hLL, hown, hb⟩ := hrel
        have hsz := hb.size
        have HA := Hid.mk hacc
        have hal : acc.length ≤ 4096 := by omega
        have HLL := Hid.mk hLL
        clear hacc hLL
        by_cases hlt : i < n
        · obtain ⟨t, k', e, hS⟩ : ∃ t k' e, strP (s.data.toList.drop k) = (t, k', e) := ⟨_, _, _, rfl⟩
          obtain ⟨v1, v2⟩ := strP_used (s.data.toList.drop k)
          rw [hS] at v1 v2
          simp only [List.length_drop, size_data_list] at v1 v2
          have HS := Hid.mk (strV_of hS)
          by_cases he : e = 0
          · subst he
            have hstep := loop_ok (n := n - i - 1) (acc := acc) hS
            rw [show n - i - 1 + 1 = n - i by omega, show n - i - 1 = n - (i + 1) by omega] at hstep
            have HST := Hid.mk (HLL.out.trans hstep)
            clear hS hstep
            go_wp2_with fail
            refine (str_any _ _ (by rw [ByteArray.size_extract]; omega)).mono ?_
            rintro e w2 ⟨rfl, hb2⟩
            rw [extract_end, HS.out]
            have hown2 := ownsRow_below hown hb2
            have hb12 := hb.trans (hb2.mono hsz)
            have hsz2 := hb12.size
            clear hown hb2 hb hsz HS HLL
            go_wp2_with (at_builtin; refine wpList_append_own _ rfl _ _ 27 rfl w1.heap.size 9 i0 (.string ⟨#[]⟩) 1 16 Try.underlying27 hi hz0 hz1 hz2 rfl (by decide) _ _ _ rfl (hown2.alloc _) ⟨w2.heap.size, 0, none⟩ 1 1 [.string ⟨t.toArray⟩] rfl rfl (cell_one_new _ _ _) ?c2 ?c3 ?c4 ?c5 ?_)
            case c2 => intro u hu; simp at hu; subst hu; rfl
            case c3 => unfold maxLen; omega
            case c4 => omega
            case c5 => simp; omega
            intro v' w3 hown3 hgrow3 _
            have hb3 : Below w1.heap.size w1 w3 := (hb12.alloc hsz2 _).grown hgrow3 (by simp; omega) (fun k hk => (hown2.lt k hk).1)
            have ho3 : w3.ownsRow w1.heap.size 9 1 v' (acc ++ [t]).length (strCs (acc ++ [t])) := by
              rw [strCs_snoc, List.length_append]; exact hown3
            clear hown3 hgrow3 hown2 hb12 hsz2
            go_wp2
            go_roundw
            case rel => exact ⟨i + 1, k + k', acc ++ [t], by omega, by go_num, by go_num, by omega, by rw [List.length_append, HA.out]; rfl, HST.out, ho3, hb3⟩
            case measure => simp [intOf]; omega
          · have hfin : listP s.data.toList = ([], 0, e) := by
              rw [HLL.out, show n - i = n - i - 1 + 1 by omega, loop_err hS he]
            have HF := Hid.mk hfin
            have he' : ((e : Int) != 0) = true := by rw [bne_iff_ne]; omega
            clear hS hfin
            go_wp2_with fail
            refine (str_any _ _ (by rw [ByteArray.size_extract]; omega)).mono ?_
            rintro e w2 ⟨rfl, hb2⟩
            rw [extract_end, HS.out]
            have hb12 := hb.trans (hb2.mono hsz)
            clear hown hb2 hb hsz
            go_wp2
            go_ret3
            exact listEnd_of HF.out (World.ownsRow_nil _ _ _ _) hb12
        · have hie : i = n := by omega
          have hfin : listP s.data.toList = (acc, k, 0) := by
            rw [HLL.out, hie, Nat.sub_self, listLoop]
          have HF := Hid.mk hfin
          clear hfin hie
          go_wp2
          go_ret3
          exact listEnd_of HF.out hown hb
  · have hV : listP s.data.toList = ([], 0, er) := by rw [hL, if_pos h1]
    have HV := Hid.mk hV
    have h1' : ((er : Int) != 0) = true := by rw [bne_iff_ne]; omega
    clear hL hV
    go_enter Try.func93, Try.ntmps93
    go_wp2_with fail
    refine (num_any _ _ hsm).mono ?_
    rintro e w1 ⟨rfl, rfl⟩
    rw [HN.out]
    go_wp2
    go_ret3
    exact listEnd_of HV.out (World.ownsRow_nil _ _ _ _) (Below.refl _ _)
end Go.Proofs.Ytifmpcldiimdbaa

namespace Go.Proofs.Ytifmpcldiimdbaa
open Go.RowKit

set_option maxRecDepth 100000 in
set_option maxHeartbeats 1000000 in
theorem rList_any (s : ByteArray) (w : World) (hs : s.size ≤ 140737488355328) :
    Calls Try.prog 85 #[.string s] w (ListEnd s.data.toList w) := by
  have hsm : s.size ≤ maxLen := by unfold maxLen; omega
  obtain ⟨i0, hi, hz0, hz1, hz2⟩ := info_parts info9
  obtain ⟨n, k0, er, hP⟩ : ∃ n k er, numP s.data.toList = (n, k, er) := ⟨_, _, _, rfl⟩
  obtain ⟨q1, q2, q3, q4⟩ := numP_used s.data.toList
  have hL : listP s.data.toList = if er ≠ 0 then ([], 0, er) else if 4096 < n then ([], 0, 12) else listLoop n s.data.toList k0 [] := by
    unfold listP; rw [hP]
  rw [hP] at q1 q2 q3 q4
  simp only at q1 q2 q3 q4
  rw [size_data_list] at q1
  have HN := Hid.mk (numV_of hP)
  clear hP
  by_cases h1 : er = 0
  · subst h1
    by_cases h2 : 4096 < n
    · have hV : listP s.data.toList = ([], 0, 12) := by rw [hL, if_neg (by simp), if_pos h2]
      have HV := Hid.mk hV
      clear hL hV
      go_enter Try.func85, Try.ntmps85
      go_wp2_with fail
      refine (rNum_any _ _ hsm).mono ?_
      rintro e w1 ⟨rfl, rfl⟩
      rw [HN.out]
      go_wp2
      go_ret3
      exact listEnd_of HV.out (World.ownsRow_nil _ _ _ _) (Below.refl _ _)
    · have hV : listP s.data.toList = listLoop n s.data.toList k0 [] := by rw [hL, if_neg (by simp), if_neg h2]
      have HV := Hid.mk hV
      clear hL hV
      go_enter Try.func85, Try.ntmps85
      go_wp2_with fail
      refine (rNum_any _ _ hsm).mono ?_
      rintro e w1 ⟨rfl, rfl⟩
      rw [HN.out]
      go_wp2_with fail
      go_loopw [8, 6, 9] (fun v u c wr => ∃ (i k : Nat) (acc : List (List UInt8)), i ≤ n ∧ c = .int .i64 i ∧ u = .int .i64 k ∧ k ≤ s.size ∧ acc.length = i ∧ listP s.data.toList = listLoop (n - i) s.data.toList k acc ∧ wr.ownsRow w1.heap.size 9 1 v acc.length (strCs acc) ∧ Below w1.heap.size w1 wr) (fun _ _ c _ => n - (intOf c).toNat)
      case atStart => exact ⟨0, k0, [], Nat.zero_le _, rfl, rfl, q1, rfl, by simpa using HV.out, World.ownsRow_nil _ _ _ _, Below.refl _ _⟩
      case round =>
        obtain ⟨i, k, acc, hin, rfl, rfl, hk, hacc, hLL, hown, hb⟩ := hrel
        have hsz := hb.size
        have HA := Hid.mk hacc
        have hal : acc.length ≤ 4096 := by omega
        have HLL := Hid.mk hLL
        clear hacc hLL
        by_cases hlt : i < n
        · obtain ⟨t, k', e, hS⟩ : ∃ t k' e, strP (s.data.toList.drop k) = (t, k', e) := ⟨_, _, _, rfl⟩
          obtain ⟨v1, v2⟩ := strP_used (s.data.toList.drop k)
          rw [hS] at v1 v2
          simp only [List.length_drop, size_data_list] at v1 v2
          have HS := Hid.mk (strV_of hS)
          by_cases he : e = 0
          · subst he
            have hstep := loop_ok (n := n - i - 1) (acc := acc) hS
            rw [show n - i - 1 + 1 = n - i by omega, show n - i - 1 = n - (i + 1) by omega] at hstep
            have HST := Hid.mk (HLL.out.trans hstep)
            clear hS hstep
            go_wp2_with fail
            refine (rStr_any _ _ (by rw [ByteArray.size_extract]; omega)).mono ?_
            rintro e w2 ⟨rfl, hw2⟩
            have hb2 : Below wr.heap.size wr w2 := by rw [hw2]; exact Below.refl _ _
            clear hw2
            rw [extract_end, HS.out]
            have hown2 := ownsRow_below hown hb2
            have hb12 := hb.trans (hb2.mono hsz)
            have hsz2 := hb12.size
            clear hown hb2 hb hsz HS HLL
            go_wp2_with (at_builtin; refine wpList_append_own _ rfl _ _ 27 rfl w1.heap.size 9 i0 (.string ⟨#[]⟩) 1 16 Try.underlying27 hi hz0 hz1 hz2 rfl (by decide) _ _ _ rfl (hown2.alloc _) ⟨w2.heap.size, 0, none⟩ 1 1 [.string ⟨t.toArray⟩] rfl rfl (cell_one_new _ _ _) ?c2 ?c3 ?c4 ?c5 ?_)
            case c2 => intro u hu; simp at hu; subst hu; rfl
            case c3 => unfold maxLen; omega
            case c4 => omega
            case c5 => simp; omega
            intro v' w3 hown3 hgrow3 _
            have hb3 : Below w1.heap.size w1 w3 := (hb12.alloc hsz2 _).grown hgrow3 (by simp; omega) (fun k hk => (hown2.lt k hk).1)
            have ho3 : w3.ownsRow w1.heap.size 9 1 v' (acc ++ [t]).length (strCs (acc ++ [t])) := by
              rw [strCs_snoc, List.length_append]; exact hown3
            clear hown3 hgrow3 hown2 hb12 hsz2
            go_wp2
            go_roundw
            case rel => exact ⟨i + 1, k + k', acc ++ [t], by omega, by go_num, by go_num, by omega, by rw [List.length_append, HA.out]; rfl, HST.out, ho3, hb3⟩
            case measure => simp [intOf]; omega
          · have hfin : listP s.data.toList = ([], 0, e) := by
              rw [HLL.out, show n - i = n - i - 1 + 1 by omega, loop_err hS he]
            have HF := Hid.mk hfin
            have he' : ((e : Int) != 0) = true := by rw [bne_iff_ne]; omega
            clear hS hfin
            go_wp2_with fail
            refine (rStr_any _ _ (by rw [ByteArray.size_extract]; omega)).mono ?_
            rintro e w2 ⟨rfl, hw2⟩
            have hb2 : Below wr.heap.size wr w2 := by rw [hw2]; exact Below.refl _ _
            clear hw2
            rw [extract_end, HS.out]
            have hb12 := hb.trans (hb2.mono hsz)
            clear hown hb2 hb hsz
            go_wp2
            go_ret3
            exact listEnd_of HF.out (World.ownsRow_nil _ _ _ _) hb12
        · have hie : i = n := by omega
          have hfin : listP s.data.toList = (acc, k, 0) := by
            rw [HLL.out, hie, Nat.sub_self, listLoop]
          have HF := Hid.mk hfin
          clear hfin hie
          go_wp2
          go_ret3
          exact listEnd_of HF.out hown hb
  · have hV : listP s.data.toList = ([], 0, er) := by rw [hL, if_pos h1]
    have HV := Hid.mk hV
    have h1' : ((er : Int) != 0) = true := by rw [bne_iff_ne]; omega
    clear hL hV
    go_enter Try.func85, Try.ntmps85
    go_wp2_with fail
    refine (rNum_any _ _ hsm).mono ?_
    rintro e w1 ⟨rfl, rfl⟩
    rw [HN.out]
    go_wp2
    go_ret3
    exact listEnd_of HV.out (World.ownsRow_nil _ _ _ _) (Below.refl _ _)
end Go.Proofs.Ytifmpcldiimdbaa

namespace Go.Proofs.Ytifmpcldiimdbaa
open Go.RowKit

/-- A slice of texts in memory, read-only. -/
def StrsAt (w : World) (v : Value) (ss : List (List UInt8)) : Prop :=
  ss.length ≤ 9223372036854775807 ∧ ∃ ao cap, v = .slice ao ss.length cap ∧ (ss = [] ∨ ∃ b o, ao = some ⟨b, o, none⟩ ∧ b < w.heap.size ∧ ∀ j t, ss[j]? = some t → w.cell? ⟨b, o + j, none⟩ = some (.string ⟨t.toArray⟩))

theorem StrsAt.below {w w' : World} {v : Value} {ss : List (List UInt8)} (h : StrsAt w v ss) (hb : Below w.heap.size w w') : StrsAt w' v ss := by
  obtain ⟨h1, ao, cap, h2, h3⟩ := h
  refine ⟨h1, ao, cap, h2, ?_⟩
  rcases h3 with h3 | ⟨b, o, ha, hl, hc⟩
  · exact .inl h3
  · exact .inr ⟨b, o, ha, Nat.lt_of_lt_of_le hl hb.size, fun j t hj => (hb.cell (p := ⟨b, o + j, none⟩) hl).trans (hc j t hj)⟩

theorem strsAt_own {w : World} {B : Nat} {v : Value} {ss : List (List UInt8)} (h : w.ownsRow B 9 1 v ss.length (strCs ss)) (hl : ss.length ≤ 9223372036854775807) : StrsAt w v ss := by
  refine ⟨hl, ?_⟩
  have h2 := h.2
  rcases h2 with ⟨rfl, h0⟩ | ⟨g, cap, cur, rfl, h2⟩
  · exact ⟨none, 0, by rw [h0], .inl (List.length_eq_zero_iff.1 h0)⟩
  · refine ⟨_, cap, rfl, .inr ⟨g, 0, rfl, (h.lt g rfl).2, fun j t hj => ?_⟩⟩
    rw [Nat.zero_add, h.cellAt j (by have := (List.getElem?_eq_some_iff.1 hj).1; omega), strCs, List.getElem?_map, hj]; rfl

set_option maxRecDepth 100000 in
set_option maxHeartbeats 1000000 in
theorem same_any (va vb : Value) (xs ys : List (List UInt8)) (w : World) (ha : StrsAt w va xs) (hb : StrsAt w vb ys) :
    Calls Try.prog 15 #[va, vb] w fun e w' => e = .returned (.bool (decide (xs = ys))) ∧ Below w.heap.size w w' := by
  obtain ⟨la, aa, ca, rfl, ha⟩ := ha
  obtain ⟨lb, ab, cb, rfl, hb⟩ := hb
  by_cases hl : xs.length = ys.length
  · rcases ha with rfl | ⟨ba, oa, rfl, ha1, ha2⟩
    · have h0 : ys = [] := List.length_eq_zero_iff.1 (by simpa using hl.symm)
      subst h0
      go_enter Try.func15, Try.ntmps15
      go_wp2
      refine wp_loop_rounds 1 ?_
      rw [rounds_succ]
      go_wp2
      go_ret
      exact ⟨rfl, Below.refl _ _⟩
    · rcases hb with rfl | ⟨bb, ob, rfl, hb1, hb2⟩
      · have h0 : xs = [] := List.length_eq_zero_iff.1 (by simpa using hl)
        subst h0
        go_enter Try.func15, Try.ntmps15
        go_wp2
        refine wp_loop_rounds 1 ?_
        rw [rounds_succ]
        go_wp2
        go_ret
        exact ⟨rfl, Below.refl _ _⟩
      · have HA := Hid.mk ha2
        have HB := Hid.mk hb2
        have HL := Hid.mk hl
        rw [← hl]
        clear ha2 hb2 hl
        go_enter Try.func15, Try.ntmps15
        go_wp2
        go_loopw [5] (fun c wr => ∃ i : Nat, i ≤ xs.length ∧ c = .int .i64 i ∧ xs.take i = ys.take i ∧ Below w.heap.size w wr) (fun c _ => xs.length - (intOf c).toNat)
        case atStart => exact ⟨0, Nat.zero_le _, rfl, rfl, Below.refl _ _⟩
        case round =>
          obtain ⟨i, hi, rfl, htk, hbw⟩ := hrel
          have HT := Hid.mk htk
          clear htk
          by_cases hlt : i < xs.length
          · obtain ⟨x, hx⟩ : ∃ x, xs[i]? = some x := ⟨_, List.getElem?_eq_getElem hlt⟩
            obtain ⟨y, hy⟩ : ∃ y, ys[i]? = some y := ⟨_, List.getElem?_eq_getElem (by rw [← HL.out]; exact hlt)⟩
            have hcx := (hbw.cell (p := ⟨ba, oa + i, none⟩) ha1).trans (HA.out i x hx)
            have hcy := (hbw.cell (p := ⟨bb, ob + i, none⟩) hb1).trans (HB.out i y hy)
            have HX := Hid.mk hx
            have HY := Hid.mk hy
            clear hx hy
            have hltI : (i : Int) < (xs.length : Int) := by omega
            by_cases hxy : x = y
            · subst hxy
              have hnx : xs.take (i + 1) = ys.take (i + 1) := by
                rw [List.take_add_one, List.take_add_one, HT.out, HX.out, HY.out]
              have HN := Hid.mk hnx
              clear hnx
              go_wp2
              go_quiet (fail)
              have hbq := below_drewN hbw nq
              go_wp2
              go_roundw
              case rel => exact ⟨i + 1, by omega, by go_num, HN.out, hbq⟩
              case measure => simp [intOf]; omega
            · have hxy2 : (x == y) = false := by rw [beq_eq_false_iff_ne]; exact hxy
              have hne : decide (xs = ys) = false := by
                rw [decide_eq_false_iff_not]; intro h
                have a := HX.out
                rw [h, HY.out] at a
                exact hxy (Option.some.inj a).symm
              have HN := Hid.mk hne
              clear hne
              go_wp2
              go_quiet (fail)
              have hbq := below_drewN hbw nq
              go_wp2
              go_ret
              exact ⟨by rw [HN.out]; rfl, hbq⟩
          · have hie : i = xs.length := by omega
            have heq : decide (xs = ys) = true := by
              rw [decide_eq_true_iff]
              have := HT.out
              rw [List.take_of_length_le (by omega), List.take_of_length_le (by rw [← HL.out]; omega)] at this
              exact this
            have HN := Hid.mk heq
            clear heq hie
            go_wp2
            go_ret
            exact ⟨by rw [HN.out]; rfl, hbw⟩
  · have hne : decide (xs = ys) = false := by
      rw [decide_eq_false_iff_not]; intro h; exact hl (by rw [h])
    have HN := Hid.mk hne
    have hl2 : ((xs.length : Int) != (ys.length : Int)) = true := by rw [bne_iff_ne]; omega
    clear hne
    go_enter Try.func15, Try.ntmps15
    go_wp2
    go_ret
    exact ⟨by rw [HN.out]; rfl, Below.refl _ _⟩
end Go.Proofs.Ytifmpcldiimdbaa

namespace Go.Proofs.Ytifmpcldiimdbaa
open Go.RowKit Go.Shelf
def renB : Go.Shelf.Ren := ⟨fun | 166 => 60 | 240 => 76 | 276 => 86 | n => n, fun | 0 => 0 | 3 => 3 | 4 => 4 | 5 => 5 | 9 => 9 | 20 => 20 | 37 => 104 | 70 => 103 | 72 => 106 | 75 => 108 | 80 => 89 | 164 => 129 | n => n, fun | n => n⟩
theorem lays240 : Go.Proofs.Lays.n240 Try.prog renB := {
  mixed := by kernel_rfl
  f240 := Try.func76.trans (congrArg some (by kernel_rfl))
  f276 := Try.func86.trans (congrArg some (by kernel_rfl))
  t0 := Try.underlying0
  a0 := Try.isAgg0
  z0 := Try.sizeOf0
  v0 := Try.zeroValue0
  t4 := Try.underlying4
  a4 := Try.isAgg4
  z4 := Try.sizeOf4
  v4 := Try.zeroValue4
  t9 := Try.underlying9
  a9 := Try.isAgg9
  z9 := Try.sizeOf9
  v9 := Try.zeroValue9
  t20 := Try.underlying20
  a20 := Try.isAgg20
  z20 := Try.sizeOf20
  v20 := Try.zeroValue20
  t70 := Try.underlying103
  a70 := Try.isAgg103
  z70 := Try.sizeOf103
  v70 := Try.zeroValue103
  t72 := Try.underlying106
  a72 := Try.isAgg106
  z72 := Try.sizeOf106
  v72 := Try.zeroValue106
  t164 := Try.underlying129
  a164 := Try.isAgg129
  z164 := Try.sizeOf129
  v164 := Try.zeroValue129 }
theorem lays166 : Go.Proofs.Lays.n166 Try.prog renB := {
  mixed := by kernel_rfl
  f166 := Try.func60.trans (congrArg some (by kernel_rfl))
  f240 := Try.func76.trans (congrArg some (by kernel_rfl))
  f276 := Try.func86.trans (congrArg some (by kernel_rfl))
  t0 := Try.underlying0
  a0 := Try.isAgg0
  z0 := Try.sizeOf0
  v0 := Try.zeroValue0
  t3 := Try.underlying3
  a3 := Try.isAgg3
  z3 := Try.sizeOf3
  v3 := Try.zeroValue3
  t4 := Try.underlying4
  a4 := Try.isAgg4
  z4 := Try.sizeOf4
  v4 := Try.zeroValue4
  t9 := Try.underlying9
  a9 := Try.isAgg9
  z9 := Try.sizeOf9
  v9 := Try.zeroValue9
  t20 := Try.underlying20
  a20 := Try.isAgg20
  z20 := Try.sizeOf20
  v20 := Try.zeroValue20
  t37 := Try.underlying104
  a37 := Try.isAgg104
  z37 := Try.sizeOf104
  v37 := Try.zeroValue104
  t70 := Try.underlying103
  a70 := Try.isAgg103
  z70 := Try.sizeOf103
  v70 := Try.zeroValue103
  t72 := Try.underlying106
  a72 := Try.isAgg106
  z72 := Try.sizeOf106
  v72 := Try.zeroValue106
  t75 := Try.underlying108
  a75 := Try.isAgg108
  z75 := Try.sizeOf108
  v75 := Try.zeroValue108
  t164 := Try.underlying129
  a164 := Try.isAgg129
  z164 := Try.sizeOf129
  v164 := Try.zeroValue129 }
theorem extraB : Builder.Extra Try.prog renB := {
  sizeBuilder := by kernel_rfl
  liesBuilder := by kernel_rfl
  t5 := Try.underlying5
  a5 := Try.isAgg5
  z5 := Try.sizeOf5
  v5 := Try.zeroValue5
  infoByte := by kernel_rfl
  cellsByte := by kernel_rfl
  sizeByte := by kernel_rfl
  neB5 := by decide }
theorem writeString_any (B b : Nat) (bs : List Value) (s : ByteArray) (w : World) (h : Lib.IsBuilder 106 5 B b bs w) (hlen : bs.length + s.size ≤ 140737488355328) (hBw : B ≤ w.heap.size) :
    Calls Try.prog 60 #[.pointer (some ⟨b, 0, none⟩), .string s] w fun e w' => e = .returned (.tuple #[.int .i64 s.size, .nilIface]) ∧ (Lib.BuilderAt 106 5 B b (.pointer (some ⟨b, 0, none⟩)) (bs ++ Lib.strCells s) w' ∧ Below B w w') :=
  Any.Builder_WriteString lays166 extraB B b bs s w h hlen hBw
end Go.Proofs.Ytifmpcldiimdbaa

namespace Go.Proofs.Ytifmpcldiimdbaa
open Go.RowKit

theorem builder_below {w w' : World} {T e : TypeId} {B b : Nat} {bs : List Value} (h : Lib.IsBuilder T e B b bs w) (hb : Below w.heap.size w w') : Lib.IsBuilder T e B b bs w' := by
  have key : ∀ p, Lib.BuilderAt T e B b p bs w → Lib.BuilderAt T e B b p bs w' := by
    rintro p h
    have hlt := h.lt
    obtain ⟨h1, v, h2, h3, h4⟩ := h
    exact ⟨h1, v, (hb.block b hlt).trans h2, ownsRow_below h3 hb, h4⟩
  rcases h with h | h
  · exact .inl (key _ h)
  · exact .inr (key _ h)

theorem byteCells_str (a : List UInt8) (l : List UInt8) : Lib.byteCells a ++ Lib.strCells ⟨l.toArray⟩ = Lib.byteCells (a ++ l) := by
  simp [Lib.byteCells, Lib.strCells]

/-- What PutList answers, as a value. -/
def putListV (ls : List (List UInt8)) : Value := .tuple #[.string ⟨(putListP ls).1.toArray⟩, .int .i64 ((putListP ls).2 : Int)]
theorem putListV_of {ls : List (List UInt8)} {l : List UInt8} {e : Nat} (h : putListP ls = (l, e)) : putListV ls = .tuple #[.string ⟨l.toArray⟩, .int .i64 (e : Int)] := by rw [putListV, h]
theorem putStrV_ok {t : List UInt8} (h : t.length ≤ 65536) : putStrV t = .tuple #[.string ⟨(strB t).toArray⟩, .int .i64 0] := by rw [putStrV, if_neg (by omega)]
theorem putStrV_long {t : List UInt8} (h : 65536 < t.length) : putStrV t = .tuple #[.string ⟨#[]⟩, .int .i64 12] := by rw [putStrV, if_pos h]

theorem take_all {ls : List (List UInt8)} {i : Nat} {t : List UInt8} (h : ∀ u ∈ ls.take i, u.length ≤ 65536) (hx : ls[i]? = some t) (ht : t.length ≤ 65536) : ∀ u ∈ ls.take (i + 1), u.length ≤ 65536 := by
  intro u hu
  rw [List.take_add_one, hx] at hu
  simp at hu
  rcases hu with hu | rfl
  · exact h u hu
  · exact ht

set_option maxRecDepth 100000 in
set_option maxHeartbeats 1000000 in
theorem putList_any (v : Value) (ls : List (List UInt8)) (w : World) (hv : StrsAt w v ls) (hsm : ls.length ≤ 4096 → ∀ t ∈ ls, t.length ≤ 140737488355328) :
    Calls Try.prog 64 #[v] w fun e w' => e = .returned (putListV ls) ∧ Below w.heap.size w w' := by
  obtain ⟨hlen, ao, cap, rfl, hc⟩ := hv
  by_cases hm : 4096 < ls.length
  · have HV := Hid.mk (putListV_of (putListP_many ls hm))
    go_enter Try.func64, Try.ntmps64
    go_wp2
    go_ret2
    exact ⟨by rw [HV.out]; rfl, Below.refl _ _⟩
  · have hfb := Lib.fresh_isBuilder 106 5 w
    have HSM := Hid.mk (hsm (by omega))
    clear hsm
    have hn63 : ls.length < 2 ^ 63 := by omega
    have h9 := numB_le ls.length
    rcases hc with rfl | ⟨b, o, rfl, hl, hc⟩
    · have HV := Hid.mk (putListV_of (putListP_ok [] (by simp) (by simp)))
      go_enter Try.func64, Try.ntmps64
      go_wp2_with fail
      refine (numBytes_any _ _ hn63).mono ?_
      rintro e w1 ⟨rfl, hb1⟩
      have hbu1 := builder_below hfb hb1
      have hbw1 : Below w.heap.size w w1 := ((Below.refl _ _).alloc (Nat.le_refl _) _).trans (hb1.mono (by simp))
      have hs1 := hbw1.size
      clear hfb hb1
      go_wp2_with fail
      refine (writeString_any _ _ _ _ _ hbu1 (by rw [size_list]; exact Nat.le_trans (Nat.add_le_add (Nat.le_refl _) (numB_le _)) (by decide)) hs1).mono ?_
      rintro e w2 ⟨rfl, hbu2, hb2⟩
      have hbw2 := hbw1.trans hb2
      have hb2' : Lib.IsBuilder 106 5 w.heap.size w.heap.size (Lib.byteCells (numB ([] : List (List UInt8)).length ++ textsB (([] : List (List UInt8)).take 0))) w2 := by
        have := byteCells_str [] (numB ([] : List (List UInt8)).length)
        rw [List.nil_append] at this
        rw [List.take_zero, show textsB [] = [] from rfl, List.append_nil, ← this]
        exact .inr hbu2
      clear hbu1 hbu2 hbw1 hs1 hb2
      have hs2 := hbw2.size
      go_wp2_with fail
      refine wp_loop_rounds 1 ?_
      rw [rounds_succ]
      go_wp2_with fail
      refine (Try.Builder_String_any _ _ _ _ hb2' hs2).mono ?_
      rintro e w3 ⟨rfl, hb3⟩
      have hbw3 := hbw2.trans hb3
      clear hb2'
      go_wp2
      go_ret2
      exact ⟨by rw [HV.out]; rfl, hbw3⟩
    · have HC := Hid.mk hc
      clear hc
      go_enter Try.func64, Try.ntmps64
      go_wp2_with fail
      refine (numBytes_any _ _ hn63).mono ?_
      rintro e w1 ⟨rfl, hb1⟩
      have hbu1 := builder_below hfb hb1
      have hbw1 : Below w.heap.size w w1 := ((Below.refl _ _).alloc (Nat.le_refl _) _).trans (hb1.mono (by simp))
      have hs1 := hbw1.size
      clear hfb hb1
      go_wp2_with fail
      refine (writeString_any _ _ _ _ _ hbu1 (by rw [size_list]; exact Nat.le_trans (Nat.add_le_add (Nat.le_refl _) (numB_le _)) (by decide)) hs1).mono ?_
      rintro e w2 ⟨rfl, hbu2, hb2⟩
      have hbw2 := hbw1.trans hb2
      have hb2' : Lib.IsBuilder 106 5 w.heap.size w.heap.size (Lib.byteCells (numB ls.length ++ textsB (ls.take 0))) w2 := by
        have := byteCells_str [] (numB ls.length)
        rw [List.nil_append] at this
        rw [List.take_zero, show textsB [] = [] from rfl, List.append_nil, ← this]
        exact .inr hbu2
      clear hbu1 hbu2 hbw1 hs1 hb2
      go_wp2_with fail
      go_loopw [18] (fun c wr => ∃ i : Nat, i ≤ ls.length ∧ c = .int .i64 i ∧ (∀ u ∈ ls.take i, u.length ≤ 65536) ∧ Lib.IsBuilder 106 5 w.heap.size w.heap.size (Lib.byteCells (numB ls.length ++ textsB (ls.take i))) wr ∧ Below w.heap.size w wr) (fun c _ => ls.length - (intOf c).toNat)
      case atStart => exact ⟨0, Nat.zero_le _, rfl, by simp, hb2', hbw2⟩
      case round =>
        obtain ⟨i, hi, rfl, hall, hbu, hb⟩ := hrel
        have HALL := Hid.mk hall
        have hsz := hb.size
        clear hall hb2' hbw2
        by_cases hlt : i < ls.length
        · obtain ⟨t, ht⟩ : ∃ t, ls[i]? = some t := ⟨_, List.getElem?_eq_getElem hlt⟩
          have hcx := (hb.cell (p := ⟨b, o + i, none⟩) hl).trans (HC.out i t ht)
          have htm : t ∈ ls := List.mem_of_getElem? ht
          have htl := HSM.out t htm
          have HT := Hid.mk ht
          have hltI : (i : Int) < (ls.length : Int) := by omega
          have hts : (⟨t.toArray⟩ : ByteArray).size ≤ 140737488355328 := by rw [size_list]; exact htl
          clear ht
          by_cases h6 : t.length ≤ 65536
          · have hPV := Hid.mk (putStrV_ok h6)
            have hall2 := Hid.mk (take_all HALL.out HT.out h6)
            have hlc := textsB_le (ls.take i) HALL.out
            rw [List.length_take, Nat.min_eq_left hi] at hlc
            have hsb := strB_le t h6
            clear htm
            go_wp2_with fail
            refine (putStr_any _ _ hts).mono ?_
            rintro e w3 ⟨rfl, hb3⟩
            rw [data_list, hPV.out]
            have hbu3 := builder_below hbu hb3
            have hbw3 := hb.trans (hb3.mono hsz)
            have hsz3 := hbw3.size
            clear hbu hb hb3 hsz hcx
            go_wp2_with fail
            refine (writeString_any _ _ _ _ _ hbu3 (by rw [Lib.byteCells_length, List.length_append, size_list]; omega) hsz3).mono ?_
            rintro e w4 ⟨rfl, hbu4, hb4⟩
            have hbw4 := hbw3.trans hb4
            have hbu5 : Lib.IsBuilder 106 5 w.heap.size w.heap.size (Lib.byteCells (numB ls.length ++ textsB (ls.take (i + 1)))) w4 := by
              rw [List.take_add_one, HT.out, Option.toList_some, textsB_snoc, ← List.append_assoc, ← byteCells_str]
              exact .inr hbu4
            clear hbu3 hbu4 hb4 hbw3 hsz3
            go_wp2
            go_roundw
            case rel => exact ⟨i + 1, by omega, by go_num, hall2.out, hbu5, hbw4⟩
            case measure => simp [intOf]; omega
          · have hPV := Hid.mk (putStrV_long (t := t) (by omega))
            have HV := Hid.mk (putListV_of (putListP_long ls t htm (by omega)))
            clear htm
            go_wp2_with fail
            refine (putStr_any _ _ hts).mono ?_
            rintro e w3 ⟨rfl, hb3⟩
            rw [data_list, hPV.out]
            have hbw3 := hb.trans (hb3.mono hsz)
            clear hbu hb hb3 hsz hcx
            go_wp2
            go_ret2
            exact ⟨by rw [HV.out]; rfl, hbw3⟩
        · have hie : i = ls.length := by omega
          have hall := HALL.out
          rw [hie, List.take_of_length_le (Nat.le_refl _)] at hall
          have HV := Hid.mk (putListV_of (putListP_ok ls (by omega) hall))
          have HI := Hid.mk hie
          clear hie hall
          go_wp2_with fail
          refine (Try.Builder_String_any _ _ _ _ hbu hsz).mono ?_
          rintro e w3 ⟨rfl, hb3⟩
          have hbw3 := hb.trans hb3
          clear hbu hb hb3
          go_wp2
          go_ret2
          exact ⟨by rw [HV.out, HI.out, List.take_of_length_le (Nat.le_refl _)]; rfl, hbw3⟩
end Go.Proofs.Ytifmpcldiimdbaa

namespace Go.Proofs.Ytifmpcldiimdbaa
open Go.RowKit

theorem putListV_hi : putListV [[104, 105], []] = .tuple #[.string ⟨#[1, 2, 1, 2, 104, 105, 0]⟩, .int .i64 0] := by
  rw [putListV_of (putListP_ok _ (by decide) (by decide)), show numB [[104, 105], ([] : List UInt8)].length ++ textsB [[104, 105], []] = [1, 2, 1, 2, 104, 105, 0] from by decide]; rfl

theorem putList_hi (w : World) : Calls Try.prog 64 #[.slice (some ⟨w.heap.size, 0, none⟩) 2 2] (w.alloc (.cells #[.string ⟨#[104, 105]⟩, .string ⟨#[]⟩] 9))
    fun e w' => e = .returned (.tuple #[.string ⟨#[1, 2, 1, 2, 104, 105, 0]⟩, .int .i64 0]) ∧ Below w.heap.size w w' := by
  have hat : StrsAt (w.alloc (.cells #[.string ⟨#[104, 105]⟩, .string ⟨#[]⟩] 9)) (.slice (some ⟨w.heap.size, 0, none⟩) 2 2) [[104, 105], []] := by
    refine ⟨by decide, _, 2, rfl, .inr ⟨w.heap.size, 0, rfl, by simp, fun j t hj => ?_⟩⟩
    match j, hj with
    | 0, hj => simp at hj; subst hj; simp
    | 1, hj => simp at hj; subst hj; simp
  have h := putList_any _ _ _ hat (fun _ => by decide)
  rw [putListV_hi] at h
  refine h.mono ?_
  rintro e w' ⟨rfl, hb⟩
  exact ⟨rfl, ((Below.refl _ _).alloc (Nat.le_refl _) _).trans (hb.mono (by simp))⟩


theorem same_self (va vb : Value) (xs : List (List UInt8)) (w : World) (ha : StrsAt w va xs) (hb : StrsAt w vb xs) :
    Calls Try.prog 15 #[va, vb] w fun e w' => e = .returned (.bool true) ∧ Below w.heap.size w w' := by
  have h := same_any va vb xs xs w ha hb
  rw [decide_eq_true (rfl : xs = xs)] at h
  exact h

theorem listLoop_len (n : Nat) : ∀ (l : List UInt8) (k : Nat) (acc : List (List UInt8)), (listLoop n l k acc).1.length ≤ acc.length + n := by
  induction n with
  | zero => intro l k acc; simp [listLoop]
  | succ n ih =>
    intro l k acc
    unfold listLoop
    split
    · simp
    · have := ih l (k + (strP (l.drop k)).2.1) (acc ++ [(strP (l.drop k)).1])
      simp at this; omega
theorem listP_len (l : List UInt8) : (listP l).1.length ≤ 4096 := by
  unfold listP
  split
  · simp
  · split
    · simp
    · have := listLoop_len (numP l).1 l (numP l).2.1 []
      simp at this; omega

end Go.Proofs.Ytifmpcldiimdbaa

namespace Go.Proofs.Ytifmpcldiimdbaa
open Go.RowKit

/-- The slice v holds the bytes l, in a block from B on; what lies behind them, up to the capacity, may be written. -/
def RowB (w : World) (B : Nat) (v : Value) (l : List UInt8) : Prop :=
  ∃ g cap, v = .slice (some ⟨g, 0, none⟩) l.length cap ∧ B ≤ g ∧ g < w.heap.size ∧ l.length ≤ cap ∧
    (∀ j x, l[j]? = some x → w.cell? ⟨g, j, none⟩ = some (.int .u8 (x.toNat : Int))) ∧
    (∀ j, l.length ≤ j → j < cap → (w.cell? ⟨g, j, none⟩).isSome = true ∧ w.frozen? ⟨g, j, none⟩ = false)

theorem RowB.below {w w' : World} {B : Nat} {v : Value} {l : List UInt8} (h : RowB w B v l) (hb : Below w.heap.size w w') : RowB w' B v l := by
  obtain ⟨g, cap, hv, hB, hlt, hc, h1, h2⟩ := h
  refine ⟨g, cap, hv, hB, Nat.lt_of_lt_of_le hlt hb.size, hc, fun j x hx => (hb.cell (p := ⟨g, j, none⟩) hlt).trans (h1 j x hx), fun j hj hj2 => ?_⟩
  rw [hb.cell (p := ⟨g, j, none⟩) hlt, hb.frozen (p := ⟨g, j, none⟩) hlt]
  exact h2 j hj hj2

theorem RowB.conv {w : World} {B : Nat} {v : Value} {l : List UInt8} (h : RowB w B v l) :
    (convert 104 9 v).run Try.prog w = .ok (.string ⟨l.toArray⟩) w := by
  obtain ⟨g, cap, rfl, _, _, _, h1, _⟩ := h
  exact run_convert_bytes_back (P := Try.prog) w 104 9 5 ⟨g, 0, none⟩ cap l Try.underlying104 Try.underlying5 Try.underlying9 (fun j hj => by
    rw [show (⟨g, 0, none⟩ : Addr).add j = ⟨g, j, none⟩ from by cases j <;> simp [Addr.add]]
    exact h1 j _ (List.getElem?_eq_getElem hj))

theorem below_setCells {B b : Nat} (hb : B ≤ b) : ∀ (vs : List Value) (o : Nat) (a w : World), Below B a w → Below B a (w.setCells b o vs)
  | [], _, _, _, h => h
  | v :: r, o, a, w, h => below_setCells hb r (o + 1) a (w.setCell ⟨b, o, none⟩ v) (h.setCell (p := ⟨b, o, none⟩) hb v)

theorem size_setCells (b : Nat) : ∀ (vs : List Value) (o : Nat) (w : World), (w.setCells b o vs).heap.size = w.heap.size
  | [], _, _ => rfl
  | v :: r, o, w => by
    rw [World.setCells, size_setCells b r (o + 1)]; simp

/-- The row of '[]byte(s)'. -/
theorem rowB_made (w : World) (s : ByteArray) : RowB (Lib.bytesWorld w 5 s) w.heap.size (.slice (some ⟨w.heap.size, 0, none⟩) s.size (grownCap w s.size 0 5)) s.data.toList := by
  have hl := size_data_list s
  refine ⟨w.heap.size, grownCap w s.size 0 5, by rw [hl], Nat.le_refl _, by rw [Lib.bytesWorld_size]; omega, by rw [hl]; exact grownCap_ge w s.size 0 5, ?_, ?_⟩
  · intro j x hx
    have hj : j < s.size := by have := (List.getElem?_eq_some_iff.1 hx).1; omega
    rw [Lib.bytesWorld_cell w 5 s j hj, List.getD, hx]; rfl
  · intro j hj hj2
    have hge := grownCap_ge w s.size 0 5
    have hcs : (Lib.bytesCells w 5 s).size = grownCap w s.size 0 5 := by
      simp [Lib.bytesCells]; omega
    have hn := Lib.bytesWorld_at_new w 5 s
    constructor
    · simp only [World.cell?, hn]
      rw [Array.getElem?_eq_getElem (by omega)]; rfl
    · simp only [World.frozen?, hn, Bool.and_eq_false_iff, decide_eq_false_iff_not]
      left; omega

theorem below_made (w : World) (s : ByteArray) : Below w.heap.size w (Lib.bytesWorld w 5 s) :=
  ⟨rfl, rfl, rfl, by rw [Lib.bytesWorld_size]; omega, fun k hk => Lib.bytesWorld_at_old w 5 s k hk⟩

/-- 'append(row, text...)'. -/
theorem run_append_rowB {w : World} {B : Nat} {v : Value} {l : List UInt8} (h : RowB w B v l) (s : ByteArray) (hlim : l.length + s.size ≤ 140737488355328) (hB : B ≤ w.heap.size) :
    ∃ v' w', (Builtin.append_ #[104, 9] 104 #[v, .string s]).run Try.prog w = .ok v' w' ∧ RowB w' B v' (l ++ s.data.toList) ∧ Below B w w' := by
  obtain ⟨i0, hi, hz0, hz1, hz2⟩ := info_parts info5
  obtain ⟨g, cap, rfl, hBg, hlt, hc, h1, h2⟩ := h
  have hl := size_data_list s
  have hsrc : Src Try.prog i0.size 9 (.string s) s.size (byteCells s) w := by rw [hz1]; exact Src.ofString w Try.underlying9 s
  have hbl := byteCells_length s
  have hget : ∀ (j : Nat) (x : UInt8), s.data.toList[j]? = some x → (byteCells s)[j]? = some (Value.int .u8 (x.toNat : Int)) := fun j x hx => by rw [byteCells, List.getElem?_map, hx]; rfl
  by_cases hroom : l.length + s.size ≤ cap
  · have hr := run_append_room_src (P := Try.prog) w 104 9 104 5 i0 Try.underlying104 hi g 0 l.length cap (.string s) s.size (byteCells s) hsrc hroom
      (fun j hj => by rw [hz1, Nat.mul_one, Nat.zero_add]; exact (h2 (l.length + j) (by omega) (by omega)).1)
      (fun j hj => by rw [hz1, Nat.mul_one, Nat.zero_add]; exact (h2 (l.length + j) (by omega) (by omega)).2)
    rw [hz1, Nat.mul_one, Nat.zero_add] at hr
    have hsome : ∀ j, j < (byteCells s).length → (w.cell? ⟨g, l.length + j, none⟩).isSome = true := fun j hj => (h2 (l.length + j) (by omega) (by omega)).1
    refine ⟨_, _, hr, ⟨g, cap, by rw [List.length_append, hl], hBg, by rw [size_setCells]; exact hlt, by rw [List.length_append, hl]; exact hroom, ?_, ?_⟩, below_setCells hBg _ _ _ _ (Below.refl _ _)⟩
    · intro j x hx
      by_cases hj : j < l.length
      · rw [List.getElem?_append_left hj] at hx
        rw [World.cell?_setCells_out g _ _ _ _ (fun _ _ => .inl hj)]
        exact h1 j x hx
      · rw [List.getElem?_append_right (by omega)] at hx
        have hj2 : j - l.length < (byteCells s).length := by have := (List.getElem?_eq_some_iff.1 hx).1; omega
        have := World.cell?_setCells_in g (byteCells s) l.length w hsome (j - l.length) hj2
        rw [show l.length + (j - l.length) = j by omega] at this
        rw [this, ← List.getElem?_eq_getElem hj2]
        exact hget _ _ hx
    · intro j hj hj2
      rw [List.length_append, hl] at hj
      rw [World.cell?_setCells_out g _ _ _ _ (fun _ _ => .inr (by rw [hbl]; exact hj)), World.frozen?_setCells]
      exact h2 j (by omega) hj2
  · have hold : (Builtin.firstCells i0.size l.length (.slice (some ⟨g, 0, none⟩) l.length cap)).run Try.prog w.drew = .ok (u8s l).toArray w.drew := by
      rw [hz1]
      refine run_firstCells_some w.drew 1 l.length ⟨g, 0, none⟩ l.length cap (u8s l) (by simp [u8s]) (fun j u hu => ?_)
      rw [u8s, List.getElem?_map] at hu
      obtain ⟨x, hx, rfl⟩ := Option.map_eq_some_iff.1 hu
      rw [show (⟨g, 0, none⟩ : Addr).add j = ⟨g, j, none⟩ from by cases j <;> simp [Addr.add]]
      exact h1 j x hx
    have hr := run_append_grow_src (P := Try.prog) w 104 9 104 5 i0 (.int .u8 0) Try.underlying104 hi hz0 (some ⟨g, 0, none⟩) l.length cap (u8s l) hold (.string s) s.size (byteCells s) hsrc (by omega) (by omega)
      (by rw [hz2]; exact growslice_fits (by omega) (by omega))
    have hge := grownCap_ge w (l.length + s.size) cap 5
    have hnew := heap_alloc_new w.drew (.cells ((u8s l ++ byteCells s).toArray ++ Builtin.zeroCells (Value.int IntKind.u8 0).cells (grownCap w (l.length + s.size) cap 5 - (l.length + s.size))) 5)
    have hsz : ((u8s l ++ byteCells s).toArray ++ Builtin.zeroCells (Value.int IntKind.u8 0).cells (grownCap w (l.length + s.size) cap 5 - (l.length + s.size))).size = grownCap w (l.length + s.size) cap 5 := by
      have hz1 : (Value.int IntKind.u8 0).cells.size = 1 := rfl
      simp only [Array.size_append, List.size_toArray, List.length_append, size_zeroCells, hz1, hbl]
      simp [u8s]; omega
    refine ⟨_, _, hr, ⟨w.heap.size, grownCap w (l.length + s.size) cap 5, by rw [List.length_append, hl], hB, by simp, by rw [List.length_append, hl]; exact hge, ?_, ?_⟩, ((Below.refl _ _).drew).alloc hB _⟩
    · intro j x hx
      simp only [World.cell?]
      rw [show w.heap.size = w.drew.heap.size from rfl, hnew]
      have hj : j < l.length + s.size := by have := (List.getElem?_eq_some_iff.1 hx).1; rw [List.length_append, hl] at this; exact this
      have e : (u8s l ++ byteCells s)[j]? = some (.int .u8 (x.toNat : Int)) := by
        by_cases hj1 : j < l.length
        · rw [List.getElem?_append_left hj1] at hx
          rw [List.getElem?_append_left (by simpa [u8s] using hj1), u8s, List.getElem?_map, hx]; rfl
        · rw [List.getElem?_append_right (by omega)] at hx
          rw [List.getElem?_append_right (by simp [u8s]; omega)]
          have := hget _ _ hx
          simpa [u8s] using this
      simp only
      rw [Array.getElem?_append_left (by simp [u8s, hbl]; omega), List.getElem?_toArray]
      exact e
    · intro j _ hj2
      constructor
      · simp only [World.cell?]
        rw [show w.heap.size = w.drew.heap.size from rfl, hnew]
        simp only
        rw [Array.getElem?_eq_getElem (by rw [hsz]; exact hj2)]; rfl
      · simp only [World.frozen?]
        rw [show w.heap.size = w.drew.heap.size from rfl, hnew]
        simp

/-- The operation, for a walk. -/
theorem wpList_append_rowB {w : World} {ops : Array Oper} {rest : List Oper} {o : Oper} {a : Act} {Q : Exit → Act → World → Prop} (hgd : o.guard = none) (sl x : Operand)
    (ho : o.op = .call { callee := .builtin .append, args := #[sl, x], argTypes := #[104, 9] }) (hty : o.type = 104)
    (B : Nat) (v : Value) (l : List UInt8) (hs : a.eval sl = v) (hrow : RowB w B v l) (s : ByteArray) (hx : a.eval x = .string s) (hlim : l.length + s.size ≤ 140737488355328) (hB : B ≤ w.heap.size)
    (h : ∀ v' w', RowB w' B v' (l ++ s.data.toList) → Below B w w' → wpList Try.prog ops Q rest (a.put o.dst v') w') : wpList Try.prog ops Q (o :: rest) a w := by
  refine wpList_plain hgd fun K hK => ?_
  obtain ⟨v', w', hr, h2, h3⟩ := run_append_rowB hrow s hlim hB
  unfold Oper.wp execOp
  simp only [ho, hty, resolve, invoke, builtin, Sem.run_bind, Sem.run_pure, Result.andThen_ok, List.map_toArray, List.map_cons, List.map_nil, hs, hx, hr]
  exact hK _ _ (h v' w' h2 h3)
end Go.Proofs.Ytifmpcldiimdbaa

namespace Go.Proofs.Ytifmpcldiimdbaa
open Go.RowKit

set_option maxRecDepth 100000 in
set_option maxHeartbeats 1000000 in
theorem rPutList_any (v : Value) (ls : List (List UInt8)) (w : World) (hv : StrsAt w v ls) (hsm : ls.length ≤ 4096 → ∀ t ∈ ls, t.length ≤ 140737488355328) :
    Calls Try.prog 71 #[v] w fun e w' => e = .returned (putListV ls) ∧ Below w.heap.size w w' := by
  obtain ⟨hlen, ao, cap, rfl, hc⟩ := hv
  by_cases hm : 4096 < ls.length
  · have HV := Hid.mk (putListV_of (putListP_many ls hm))
    go_enter Try.func71, Try.ntmps71
    go_wp2
    go_ret2
    exact ⟨by rw [HV.out]; rfl, Below.refl _ _⟩
  · have HSM := Hid.mk (hsm (by omega))
    clear hsm
    have hn63 : ls.length < 2 ^ 63 := by omega
    have h9 := numB_le ls.length
    have HCC : Hid (ls = [] ∨ ∃ b o, ao = some ⟨b, o, none⟩ ∧ b < w.heap.size ∧ ∀ j t, ls[j]? = some t → w.cell? ⟨b, o + j, none⟩ = some (.string ⟨t.toArray⟩)) := hc
    clear hc
    rcases HCC with hnil | ⟨b, o, rfl, hl, hc⟩
    · subst hnil
      have HV := Hid.mk (putListV_of (putListP_ok [] (by simp) (by simp)))
      go_enter Try.func71, Try.ntmps71
      go_wp2_with fail
      refine (rPutNum_pos _ _ hn63).mono ?_
      rintro e w1 ⟨rfl, hb1⟩
      have hcv := Lib.run_convert_string_bytes (P := Try.prog) w1 9 104 5 ⟨(numB 0).toArray⟩ Try.underlying9 Try.underlying104 Try.underlying5
      have hrow := rowB_made w1 ⟨(numB 0).toArray⟩
      have hcv2 := hrow.conv
      rw [size_list] at hcv2
      have hbw := hb1.trans ((below_made w1 ⟨(numB 0).toArray⟩).mono hb1.size)
      have HB := Hid.mk hbw
      clear hrow hb1 hbw
      go_wp2_with fail
      refine wp_loop_rounds 1 ?_
      rw [rounds_succ]
      go_wp2
      go_ret2
      exact ⟨by rw [HV.out]; rfl, HB.out⟩
    · have HC := Hid.mk hc
      clear hc
      go_enter Try.func71, Try.ntmps71
      go_wp2_with fail
      refine (rPutNum_pos _ _ hn63).mono ?_
      rintro e w1 ⟨rfl, hb1⟩
      have hcv := Lib.run_convert_string_bytes (P := Try.prog) w1 9 104 5 ⟨(numB ls.length).toArray⟩ Try.underlying9 Try.underlying104 Try.underlying5
      have hrow : RowB (Lib.bytesWorld w1 5 ⟨(numB ls.length).toArray⟩) w.heap.size (.slice (some ⟨w1.heap.size, 0, none⟩) (⟨(numB ls.length).toArray⟩ : ByteArray).size (grownCap w1 (⟨(numB ls.length).toArray⟩ : ByteArray).size 0 5)) (numB ls.length ++ textsB (ls.take 0)) := by
        have h := rowB_made w1 ⟨(numB ls.length).toArray⟩
        rw [List.take_zero, show textsB [] = [] from rfl, List.append_nil]
        obtain ⟨g, cp, e1, e2, e3⟩ := h
        exact ⟨g, cp, e1, Nat.le_trans hb1.size e2, e3⟩
      have hbw := hb1.trans ((below_made w1 ⟨(numB ls.length).toArray⟩).mono hb1.size)
      have HR := Hid.mk hrow
      have HB := Hid.mk hbw
      clear hrow hb1 hbw
      go_wp2_with fail
      go_loopw [6, 7] (fun v c wr => ∃ i : Nat, i ≤ ls.length ∧ c = .int .i64 i ∧ (∀ u ∈ ls.take i, u.length ≤ 65536) ∧ RowB wr w.heap.size v (numB ls.length ++ textsB (ls.take i)) ∧ Below w.heap.size w wr) (fun _ c _ => ls.length - (intOf c).toNat)
      case atStart => exact ⟨0, Nat.zero_le _, rfl, by simp, HR.out, HB.out⟩
      case round =>
        obtain ⟨i, hi, rfl, hall, hrow, hb⟩ := hrel
        have HALL := Hid.mk hall
        have hsz := hb.size
        clear hall HR HB
        by_cases hlt : i < ls.length
        · obtain ⟨t, ht⟩ : ∃ t, ls[i]? = some t := ⟨_, List.getElem?_eq_getElem hlt⟩
          have hcx := (hb.cell (p := ⟨b, o + i, none⟩) hl).trans (HC.out i t ht)
          have htm : t ∈ ls := List.mem_of_getElem? ht
          have htl := HSM.out t htm
          have HT := Hid.mk ht
          have hltI : (i : Int) < (ls.length : Int) := by omega
          have hts : (⟨t.toArray⟩ : ByteArray).size ≤ 140737488355328 := by rw [size_list]; exact htl
          clear ht
          by_cases h6 : t.length ≤ 65536
          · have hPV := Hid.mk (putStrV_ok h6)
            have hall2 := Hid.mk (take_all HALL.out HT.out h6)
            have hlc := textsB_le (ls.take i) HALL.out
            rw [List.length_take, Nat.min_eq_left hi] at hlc
            have hsb := strB_le t h6
            clear htm
            go_wp2_with fail
            refine (rPutStr_any _ _ hts).mono ?_
            rintro e w3 ⟨rfl, hb3⟩
            rw [data_list, hPV.out]
            have hrow3 := hrow.below hb3
            have hbw3 := hb.trans (hb3.mono hsz)
            have hsz3 := hbw3.size
            clear hrow hb hb3 hsz hcx
            go_wp2_with (at_builtin; refine wpList_append_rowB rfl _ _ rfl rfl w.heap.size _ _ rfl hrow3 ⟨(strB t).toArray⟩ rfl ?z1 hsz3 ?_)
            case z1 => rw [List.length_append, size_list]; omega
            intro v4 w4 hrow4 hb4
            have hbw4 := hbw3.trans hb4
            have hrow5 : RowB w4 w.heap.size v4 (numB ls.length ++ textsB (ls.take (i + 1))) := by
              rw [List.take_add_one, HT.out, Option.toList_some, textsB_snoc]
              exact hrow4
            clear hrow3 hrow4 hb4 hbw3 hsz3
            go_wp2
            go_roundw
            case rel => exact ⟨i + 1, by omega, by go_num, hall2.out, hrow5, hbw4⟩
            case measure => simp [intOf]; omega
          · have hPV := Hid.mk (putStrV_long (t := t) (by omega))
            have HV := Hid.mk (putListV_of (putListP_long ls t htm (by omega)))
            clear htm
            go_wp2_with fail
            refine (rPutStr_any _ _ hts).mono ?_
            rintro e w3 ⟨rfl, hb3⟩
            rw [data_list, hPV.out]
            have hbw3 := hb.trans (hb3.mono hsz)
            clear hrow hb hb3 hsz hcx
            go_wp2
            go_ret2
            exact ⟨by rw [HV.out]; rfl, hbw3⟩
        · have hie : i = ls.length := by omega
          have hall := HALL.out
          rw [hie, List.take_of_length_le (Nat.le_refl _)] at hall
          have HV := Hid.mk (putListV_of (putListP_ok ls (by omega) hall))
          have hcv3 := hrow.conv
          have HI := Hid.mk hie
          clear hie hall hcv
          go_wp2
          go_ret2
          exact ⟨by rw [HV.out, HI.out, List.take_of_length_le (Nat.le_refl _)]; rfl, hb⟩
end Go.Proofs.Ytifmpcldiimdbaa

namespace Go.Proofs.Ytifmpcldiimdbaa
open Go.RowKit

theorem bytes_eta (s : ByteArray) : (⟨s.data.toList.toArray⟩ : ByteArray) = s := by cases s; simp

/-- An argument that is a slice of texts, as the walks want it. -/
theorem open_strs {H : Type} {enc : TypeId × Value → H} {W : World} {a : Option Addr} {len cap fuel : Nat} {cs : List Value} {x : DataW H × List MemPlace}
    (hf : DataW.trod enc Try.prog W 0 (fun _ => true) true fuel 27 cs = some x) (hcs : cs = [.slice a len cap]) : ∃ ls, StrsAt W (.slice a len cap) ls := by
  subst hcs
  rcases Go.ChangeShapes.open_strings Try.underlying27 Try.underlying9 (by kernel_rfl) hf with ⟨hcs, _⟩ | ⟨ad, len', cap', ss, hcs, _, hl, hm, hz, _, hcell, _⟩
  · simp only [List.cons.injEq, Value.slice.injEq, and_true] at hcs
    obtain ⟨rfl, rfl, rfl⟩ := hcs
    exact ⟨[], by simp, none, 0, rfl, .inl rfl⟩
  · simp only [List.cons.injEq, Value.slice.injEq, and_true] at hcs
    obtain ⟨rfl, rfl, rfl⟩ := hcs
    simp only [if_true] at hz
    have hl2 : ((ss.take len).map fun s => s.data.toList).length = len := by rw [List.length_map, List.length_take]; omega
    refine ⟨(ss.take len).map fun s => s.data.toList, by rw [hl2]; unfold maxLen at hm; omega, some ad, cap, by rw [hl2], ?_⟩
    by_cases h0 : len = 0
    · left; rw [h0]; simp
    · right
      obtain ⟨b, off, spot⟩ := ad
      have hspot : spot = none := by simpa [Addr.add] using World.cell?_spot (hcell 0 (by omega))
      subst hspot
      refine ⟨b, off, rfl, World.block_lt_of_cell? W _ (hcell 0 (by omega)), fun j t hj => ?_⟩
      have hj1 : j < len := by have := (List.getElem?_eq_some_iff.1 hj).1; rw [hl2] at this; exact this
      rw [List.getElem?_map, List.getElem?_take_of_lt hj1, List.getElem?_eq_getElem (by omega)] at hj
      simp only [Option.map_some, Option.some.injEq] at hj
      rw [← Go.WideShapes.add_plain, hcell j (by omega), List.getD, List.getElem?_eq_getElem (by omega), ← hj, bytes_eta]; rfl

theorem sum_step {ls : List (List UInt8)} {i : Nat} {t : List UInt8} (hx : ls[i]? = some t) : sumL (ls.take (i + 1)) = sumL (ls.take i) + t.length := by
  rw [List.take_add_one, hx, Option.toList_some, sumL_snoc]

theorem take_all4 {N : Nat} {ls : List (List UInt8)} {i : Nat} {t : List UInt8} (h : ∀ u ∈ ls.take i, u.length ≤ N) (hx : ls[i]? = some t) (ht : t.length ≤ N) : ∀ u ∈ ls.take (i + 1), u.length ≤ N := by
  intro u hu
  rw [List.take_add_one, hx] at hu
  simp at hu
  rcases hu with hu | rfl
  · exact h u hu
  · exact ht

theorem putListV_form (ls : List (List UInt8)) : ∃ (t : ByteArray) (e : Int), putListV ls = .tuple #[.string t, .int .i64 e] := ⟨_, _, rfl⟩

end Go.Proofs.Ytifmpcldiimdbaa
