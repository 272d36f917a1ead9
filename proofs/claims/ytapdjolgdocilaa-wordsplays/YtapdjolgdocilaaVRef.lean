/- Texts in memory; a list that is put behind another; Id and Put of the document. -/
import Derived.Test.YtapdjolgdocilaaVPut
import Derived.Test.YtapdjolgdocilaaVAre
import Derived.Maps.AppendAt
import Derived.SliceStrings
import Derived.OpenShut
namespace Go.Proofs.Ytapdjolgdocilaa
open Go.RowKit

/-- A slice of texts, in a block of S. -/
def StrsS (S : Nat → Prop) (w : World) (v : Value) (ss : List (List UInt8)) : Prop :=
  ss.length ≤ 9223372036854775807 ∧ (∀ t ∈ ss, t.length ≤ maxLen) ∧ ∃ ao cap, v = .slice ao ss.length cap ∧ (ss = [] ∨ ∃ b o, ao = some ⟨b, o, none⟩ ∧ S b ∧ b < w.heap.size ∧ ∀ (j : Nat) t, ss[j]? = some t → w.cell? ⟨b, o + j, none⟩ = some (.string ⟨t.toArray⟩))
abbrev StrsAt (w : World) (v : Value) (ss : List (List UInt8)) : Prop := StrsS (fun _ => True) w v ss

theorem StrsS.keep {S T : Nat → Prop} {w w' : World} {v : Value} {ss : List (List UInt8)} (h : StrsS S w v ss) (hz : w.heap.size ≤ w'.heap.size) (hk : ∀ k, S k → k < w.heap.size → T k ∧ w'.heap[k]? = w.heap[k]?) : StrsS T w' v ss := by
  obtain ⟨h1, h2, ao, cap, h3, h4⟩ := h
  refine ⟨h1, h2, ao, cap, h3, ?_⟩
  rcases h4 with h4 | ⟨b, o, ha, hb, hl, hc⟩
  · exact .inl h4
  · obtain ⟨k1, k2⟩ := hk b hb hl
    exact .inr ⟨b, o, ha, k1, Nat.lt_of_lt_of_le hl hz, fun j t hj => by
      have := hc j t hj
      simpa only [World.cell?, k2] using this⟩
theorem StrsS.below {S : Nat → Prop} {w w' : World} {v : Value} {ss : List (List UInt8)} (h : StrsS S w v ss) (hb : Below w.heap.size w w') : StrsS S w' v ss :=
  h.keep hb.size (fun k hk hl => ⟨hk, hb.block k hl⟩)
theorem StrsS.fr {S : Nat → Prop} {w w' : World} {v : Value} {ss : List (List UInt8)} (h : StrsS S w v ss) (hf : Fr S w w') : StrsS S w' v ss :=
  h.keep hf.size (fun k hk _ => ⟨hk, hf.block k hk⟩)
theorem StrsS.sub {S T : Nat → Prop} {w : World} {v : Value} {ss : List (List UInt8)} (h : StrsS S w v ss) (hs : ∀ k, S k → T k) : StrsS T w v ss :=
  h.keep (Nat.le_refl _) (fun k hk _ => ⟨hs k hk, rfl⟩)
theorem StrsS.nil (S : Nat → Prop) (w : World) : StrsS S w (.slice none 0 0) [] := ⟨by simp, by simp, none, 0, rfl, .inl rfl⟩

theorem bytes_eta (s : ByteArray) : (⟨s.data.toList.toArray⟩ : ByteArray) = s := by cases s; simp
/-- An argument that is a slice of texts, as the walks want it. -/
theorem open_strs {H : Type} {enc : TypeId × Value → H} {W : World} {a : Option Addr} {len cap fuel : Nat} {cs : List Value} {x : DataW H × List MemPlace}
    (hf : DataW.trod enc Try.prog W 0 (fun _ => true) true fuel 23 cs = some x) (hcs : cs = [.slice a len cap]) : ∃ ls, StrsAt W (.slice a len cap) ls := by
  subst hcs
  rcases Go.ChangeShapes.open_strings Try.underlying23 Try.underlying9 (by kernel_rfl) hf with ⟨hcs, _⟩ | ⟨ad, len', cap', ss, hcs, _, hl, hm, hz, _, hcell, hall⟩
  · simp only [List.cons.injEq, Value.slice.injEq, and_true] at hcs
    obtain ⟨rfl, rfl, rfl⟩ := hcs
    exact ⟨[], StrsS.nil _ _⟩
  · simp only [List.cons.injEq, Value.slice.injEq, and_true] at hcs
    obtain ⟨rfl, rfl, rfl⟩ := hcs
    simp only [if_true] at hz
    have hl2 : ((ss.take len).map fun s => s.data.toList).length = len := by rw [List.length_map, List.length_take]; omega
    refine ⟨(ss.take len).map fun s => s.data.toList, by rw [hl2]; unfold maxLen at hm; omega, ?_, some ad, cap, by rw [hl2], ?_⟩
    · intro t ht
      obtain ⟨s, hs, rfl⟩ := List.mem_map.1 ht
      have := hall s (List.mem_of_mem_take hs)
      rw [data_len]; exact this
    by_cases h0 : len = 0
    · left; rw [h0]; simp
    · right
      obtain ⟨b, off, spot⟩ := ad
      have hspot : spot = none := by simpa [Addr.add] using World.cell?_spot (hcell 0 (by omega))
      subst hspot
      refine ⟨b, off, rfl, trivial, World.block_lt_of_cell? W _ (hcell 0 (by omega)), fun j t hj => ?_⟩
      have hj1 : j < len := by have := (List.getElem?_eq_some_iff.1 hj).1; rw [hl2] at this; exact this
      rw [List.getElem?_map, List.getElem?_take_of_lt hj1, List.getElem?_eq_getElem (by omega)] at hj
      simp only [Option.map_some, Option.some.injEq] at hj
      rw [← Go.WideShapes.add_plain, hcell j (by omega), List.getD, List.getElem?_eq_getElem (by omega), ← hj, bytes_eta]; rfl

/-- 'append(v, list...)': the list may be nil, empty or of any length. -/
theorem run_append_vals {w : World} {B n : Nat} {v : Value} {xs : List Value} {t e : TypeId} {i0 : TypeInfo} {z : Value} {bytes : Nat} (ht : Try.prog.underlying t = some (.slice e)) (hi : Try.prog.info? e = some i0) (hz0 : i0.zero = some z) (hz1 : i0.size = 1) (hz2 : i0.bytes = bytes) (hz3 : z.cells.size = 1)
    (hown : w.ownsRow B e 1 v n xs) (ao : Option Addr) (us : List Value) (cap : Nat) (hnone : ao = none → us = [] ∧ cap = 0) (hc : ∀ ad, ao = some ad → ∀ j u, us[j]? = some u → w.cell? (ad.add j) = some u) (h1 : ∀ u ∈ us, u.oneCell' = true)
    (h63 : n + us.length ≤ maxLen) (hb : (n + us.length) * bytes ≤ 140737488355328) (hB : B ≤ w.heap.size) (ty : TypeId) :
    ∃ v' w', (Builtin.append_ #[t, t] ty #[v, .slice ao us.length cap]).run Try.prog w = .ok v' w' ∧ w'.ownsRow B e 1 v' (n + us.length) (xs ++ us) ∧ w.grownBy w' v.ownBlock ∧ (v'.ownBlock = v.ownBlock ∨ v'.ownBlock = some w.heap.size) := by
  cases ao with
  | some ad =>
    obtain ⟨v', w', hr, h2, h3, _, h5⟩ := run_append_own_at (P := Try.prog) w B t ty e i0 z 1 bytes ht hi hz0 hz1 hz2 hz3 (by decide) v n xs hown ad us.length cap us (by rw [Nat.mul_one]) (hc ad rfl) h1 h63 hb hB
    exact ⟨v', w', hr, h2, h3, h5⟩
  | none =>
    obtain ⟨rfl, rfl⟩ := hnone rfl
    have hrun := run_append_owned_none (P := Try.prog) w B t ty e i0 1 ht hi v n xs hown
    exact ⟨v, w, hrun, by simpa using hown, World.grownBy.refl _ _, .inl rfl⟩
/-- The operation, for a walk. -/
theorem wpList_append_vals {w : World} {ops : Array Oper} {rest : List Oper} {o : Oper} {a : Act} {Q : Exit → Act → World → Prop} (hgd : o.guard = none) (sl x : Operand) {t : TypeId}
    (ho : o.op = .call { callee := .builtin .append, args := #[sl, x], argTypes := #[t, t] })
    {B n : Nat} {v : Value} {xs : List Value} {e : TypeId} {i0 : TypeInfo} {z : Value} {bytes : Nat} (ht : Try.prog.underlying t = some (.slice e)) (hi : Try.prog.info? e = some i0) (hz0 : i0.zero = some z) (hz1 : i0.size = 1) (hz2 : i0.bytes = bytes) (hz3 : z.cells.size = 1)
    (hs : a.eval sl = v) (hown : w.ownsRow B e 1 v n xs) (ao : Option Addr) (us : List Value) (m cap : Nat) (hx : a.eval x = .slice ao m cap) (hm : us.length = m) (hnone : ao = none → us = [] ∧ cap = 0) (hc : ∀ ad, ao = some ad → ∀ j u, us[j]? = some u → w.cell? (ad.add j) = some u) (h1 : ∀ u ∈ us, u.oneCell' = true)
    (h63 : n + us.length ≤ maxLen) (hb : (n + us.length) * bytes ≤ 140737488355328) (hB : B ≤ w.heap.size)
    (h : ∀ v' w', w'.ownsRow B e 1 v' (n + m) (xs ++ us) → w.grownBy w' v.ownBlock → (v'.ownBlock = v.ownBlock ∨ v'.ownBlock = some w.heap.size) → wpList Try.prog ops Q rest (a.put o.dst v') w') : wpList Try.prog ops Q (o :: rest) a w := by
  subst hm
  refine wpList_plain hgd fun K hK => ?_
  obtain ⟨v', w', hr, h2, h3, h4⟩ := run_append_vals ht hi hz0 hz1 hz2 hz3 hown ao us cap hnone hc h1 h63 hb hB o.type
  unfold Oper.wp execOp
  simp only [ho, resolve, invoke, builtin, Sem.run_bind, Sem.run_pure, Result.andThen_ok, List.map_toArray, List.map_cons, List.map_nil, hs, hx, hr]
  exact hK _ _ (h v' w' h2 h3 h4)

set_option maxRecDepth 100000 in
set_option maxHeartbeats 1000000 in
theorem rId_any {S : Nat → Prop} {w : World} {v : Value} {ss : List (List UInt8)} (h : StrsS S w v ss) (s : List UInt8) :
    Calls Try.prog 13 #[v, .string ⟨s.toArray⟩] w fun e w' => ∃ k er : Nat, e = .returned (.tuple #[.int .i64 (k : Int), .int .i64 (er : Int)]) ∧ IdR ss s k er ∧ w' = w := by
  obtain ⟨hl, _, ao, cap, rfl, hc⟩ := h
  have HC := Hid.mk hc
  clear hc
  go_enter Try.func13, Try.ntmps13
  go_wp2
  go_loopw [6] (fun c wr => ∃ i : Nat, i ≤ ss.length ∧ c = .int .i64 i ∧ s ∉ ss.take i ∧ wr = w) (fun c _ => ss.length - (intOf c).toNat)
  case atStart => exact ⟨0, Nat.zero_le _, rfl, by simp, rfl⟩
  case round =>
    obtain ⟨i, hi, rfl, hall, rfl⟩ := hrel
    have HA := Hid.mk hall
    clear hall
    by_cases hlt : i < ss.length
    · have hltI : (i : Int) < (ss.length : Int) := by omega
      obtain ⟨x, hx⟩ : ∃ x, ss[i]? = some x := ⟨_, List.getElem?_eq_getElem hlt⟩
      rcases HC.out with hnil | ⟨g, o, rfl, _, hb, hcs⟩
      · rw [hnil] at hx; simp at hx
      · have hcx := hcs i x hx
        have HX := Hid.mk hx
        clear hcs hx
        by_cases hxy : x = s
        · subst hxy
          go_wp2
          go_ret2
          exact ⟨i, 0, rfl, .inr ⟨HX.out, rfl⟩, rfl⟩
        · have hxy2 : (x == s) = false := by rw [beq_eq_false_iff_ne]; exact hxy
          have HN : Hid (s ∉ ss.take (i + 1)) := Hid.mk (by
            rw [List.take_add_one, HX.out]
            intro hm
            rcases List.mem_append.1 hm with hm | hm
            · exact HA.out hm
            · simp at hm; exact hxy hm.symm)
          go_wp2
          go_roundw
          case rel => exact ⟨i + 1, by omega, by go_num, HN.out, by trivial⟩
          case measure => simp [intOf]; omega
    · have hn : s ∉ ss := by have := HA.out; rwa [List.take_of_length_le (by omega)] at this
      have HN := Hid.mk hn
      clear hn
      go_wp2
      go_ret2
      exact ⟨0, 3, rfl, .inl ⟨HN.out, rfl, rfl⟩, rfl⟩

theorem strCs_one (l : List (List UInt8)) : ∀ u ∈ strCs l, u.oneCell' = true := by
  intro u hu
  obtain ⟨y, _, rfl⟩ := List.mem_map.1 hu
  rfl
theorem strs_S {S : Nat → Prop} {w : World} {B : Nat} {v : Value} {ss : List (List UInt8)} (h : w.ownsRow B 9 1 v ss.length (strCs ss)) (hl : ss.length ≤ 1000001) (ha : ∀ t ∈ ss, t.length ≤ maxLen) (hS : ∀ g, v.ownBlock = some g → S g) : StrsS S w v ss := by
  refine ⟨by omega, ha, ?_⟩
  rcases h.2 with ⟨rfl, h0⟩ | ⟨g, cap, cur, rfl, h2⟩
  · exact ⟨none, 0, by rw [h0], .inl (List.length_eq_zero_iff.1 h0)⟩
  · refine ⟨_, cap, rfl, .inr ⟨g, 0, rfl, hS g rfl, (h.lt g rfl).2, fun j t hj => ?_⟩⟩
    rw [Nat.zero_add, h.cellAt j (by have := (List.getElem?_eq_some_iff.1 hj).1; omega), strCs, List.getElem?_map, hj]; rfl

set_option maxRecDepth 100000 in
set_option maxHeartbeats 2000000 in
theorem rPut_any {S : Nat → Prop} {w : World} {v : Value} {ss : List (List UInt8)} (h : StrsS S w v ss) (s : List UInt8) (hs : s.length ≤ maxLen) (hl : ss.length ≤ 1000000) (hnil : v = .slice none 0 0 ∨ ss ≠ []) :
    Calls Try.prog 14 #[v, .string ⟨s.toArray⟩] w fun e w' => ∃ (ao : Option Addr) (c : Nat) (ss' : List (List UInt8)) (k er : Nat), e = .returned (.tuple #[.slice ao ss'.length c, .int .i64 (k : Int), .int .i64 (er : Int)]) ∧ PutR ss s ss' k er ∧
      StrsS (Plus S w.heap.size w'.heap.size) w' (.slice ao ss'.length c) ss' ∧ (Value.slice ao ss'.length c = .slice none 0 0 ∨ ss' ≠ []) ∧ Below w.heap.size w w' := by
  have H := Hid.mk h
  have HN := Hid.mk hnil
  have I := rIs_any ⟨s.toArray⟩ w (by rw [size_list]; unfold maxLen at hs; omega)
  obtain ⟨m, hm⟩ : ∃ m, m = isW s := ⟨_, rfl⟩
  have I2 : Hid (Calls Try.prog 10 #[.string ⟨s.toArray⟩] w fun e w' => e = .returned (.bool m) ∧ w' = w) := Hid.mk (by rw [hm]; simpa using I)
  have HM := Hid.mk hm
  have C := Hid.mk (rId_any h s)
  obtain ⟨_, hall, ao, cap, rfl, hc⟩ := h
  have HC := Hid.mk hc
  have HALL := Hid.mk hall
  obtain ⟨i0, hi0, hz0, hz1, hz2⟩ := info_parts infoS
  clear I hm hc hnil hall
  cases m with
  | false =>
    go_enter Try.func14, Try.ntmps14
    go_wp2_with fail
    refine I2.out.mono ?_
    rintro e w1 ⟨rfl, hw⟩
    subst hw
    go_wp2
    go_ret3
    exact ⟨ao, cap, ss, 0, 1, rfl, .inl ⟨HM.out.symm, rfl, rfl, rfl⟩, H.out.sub (fun _ hk => .inl hk), HN.out, Below.refl _ _⟩
  | true =>
    go_enter Try.func14, Try.ntmps14
    go_wp2_with fail
    refine I2.out.mono ?_
    rintro e w1 ⟨rfl, hw⟩
    subst hw
    go_wp2_with fail
    refine C.out.mono ?_
    rintro e w1 ⟨k, er, rfl, hid, hw⟩
    subst hw
    rcases hid with ⟨hno, rfl, rfl⟩ | ⟨hat, rfl⟩
    · have HNO := Hid.mk hno
      clear hno
      have hlen : (strCs ss).length = ss.length := by simp [strCs]
      go_wp2_with (at_builtin; refine wpList_append_vals rfl _ _ rfl Try.underlying23 hi0 hz0 hz1 hz2 rfl (by rfl) (World.ownsRow_nil _ w1.heap.size _ _) ao (strCs ss) _ cap (by rfl) hlen ?c1 ?c2 (strCs_one ss) ?c3 ?c4 (Nat.le_refl _) ?_)
      case c1 =>
        intro e
        subst e
        have h0 : ss = [] := by
          rcases HC.out with h | ⟨_, _, h, _⟩
          · exact h
          · cases h
        refine ⟨by rw [h0]; rfl, ?_⟩
        rcases HN.out with h | h
        · injection h
        · exact absurd h0 h
      case c2 =>
        intro ad e j u hu
        rw [strCs, List.getElem?_map] at hu
        obtain ⟨y, hy, rfl⟩ := Option.map_eq_some_iff.1 hu
        rcases HC.out with h | ⟨b, o, h, _, _, hcs⟩
        · rw [h] at hy; simp at hy
        · rw [h] at e
          rw [← Option.some.inj e, Go.WideShapes.add_plain]
          exact hcs j y hy
      case c3 => rw [hlen]; unfold maxLen; omega
      case c4 => rw [hlen]; omega
      intro v2 w2 hown2 hgrow2 _
      have B2 : Below w1.heap.size w1 w2 := (Below.refl _ _).grown hgrow2 (Nat.le_refl _) (by simp [Value.ownBlock])
      have HB2 := Hid.mk B2
      have hsz2 := B2.size
      obtain ⟨ao2, cap2, rfl⟩ := own_slice hown2
      clear B2 hgrow2
      go_wp2_with (at_builtin; refine wpList_append_lies _ rfl _ _ _ rfl w1.heap.size 9 i0 _ 1 16 Try.underlying23 hi0 hz0 hz1 hz2 rfl (by decide) (.slice ao2 ss.length cap2) _ _ (by rfl) (hown2.alloc _) ⟨w2.heap.size, 0, none⟩ 1 1 [.string ⟨s.toArray⟩] (by rfl) (by rfl) ?d1 ?d2 (by decide) ?d3 ?d4 ?d5 (w2.heap.size + 1) (by simp) ?_)
      case d1 => exact World.news_of_block (cs := #[.string ⟨s.toArray⟩]) (t := 9) (fr := (0, 0)) (heap_alloc_new w2 _)
      case d2 => simp [Value.oneCell']
      case d3 => unfold maxLen; omega
      case d4 => omega
      case d5 => simp; omega
      intro gg cap3 w3 hown3 hgrow3 hat3 hlt3
      have B3 : Hid (Below w1.heap.size w1 w3) := Hid.mk ((HB2.out.alloc (by omega) _).grown hgrow3 (by simp; omega) (fun k hk => (hown2.lt k hk).1))
      have R3 : Hid (StrsS (Plus S w1.heap.size w3.heap.size) w3 (.slice (some ⟨gg, 0, none⟩) (ss ++ [s]).length cap3) (ss ++ [s])) := Hid.mk (by
        refine strs_S (B := w1.heap.size) ?_ (by simp; omega) ?_ ?_
        · rw [strCs_snoc, List.length_append]
          exact hown3
        · intro t ht
          rcases List.mem_append.1 ht with ht | ht
          · exact HALL.out t ht
          · rw [List.mem_singleton] at ht; rw [ht]; exact hs
        · intro g hg
          have e1 : gg = g := by simpa [Value.ownBlock] using hg
          subst e1
          refine .inr ⟨?_, hlt3⟩
          rcases hat3 with e2 | e2
          · exact (hown2.lt gg e2).1
          · omega)
      clear hown3 hgrow3 hat3 hlt3 hown2
      go_wp2
      go_ret3
      exact ⟨some ⟨gg, 0, none⟩, cap3, ss ++ [s], ss.length, 0, by simp, .inr (.inr ⟨HM.out.symm, HNO.out, rfl, rfl, rfl⟩), R3.out, .inr (by simp), B3.out⟩
    · have HAT := Hid.mk hat
      clear hat
      go_wp2
      go_ret3
      exact ⟨ao, cap, ss, k, 0, rfl, .inr (.inl ⟨HM.out.symm, HAT.out, rfl, rfl⟩), H.out.sub (fun _ hk => .inl hk), HN.out, Below.refl _ _⟩
end Go.Proofs.Ytapdjolgdocilaa
