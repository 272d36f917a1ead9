/- Fail of the program. -/
import Derived.Test.YtnepednomejniaaJSearch
namespace Go.Proofs.Ytnepednomejniaa
open Go.RowKit

theorem own_cap {w : World} {B n cap : Nat} {ao : Option Addr} {e : TypeId} {size k : Nat} {xs : List Value} (h : w.ownsRow B e size (.slice ao k cap) n xs) : n ≤ cap := by
  rcases h.2 with ⟨h0, h1⟩ | ⟨g, cap', cur, e1, _, _, e4, _⟩
  · omega
  · simp only [Value.slice.injEq] at e1
    omega

theorem one_other3 {w : World} {b c i : Nat} {t : TypeId} {v u : Value} (h : One w b t v) (hne : b ≠ c) : One (w.setCell ⟨c, i, none⟩ u) b t v :=
  (Below.heap_setCell w ⟨c, i, none⟩ u b hne).trans h

/-- How many bytes survive. -/
def thereOf (L sure : Nat) (keep : Int) : Nat := sure + (max keep 0).toNat % (L - sure + 1)
theorem thereOf_le (L sure : Nat) (keep : Int) (h : sure ≤ L) : sure ≤ thereOf L sure keep ∧ thereOf L sure keep ≤ L := by
  have := Nat.mod_lt (max keep 0).toNat (show 0 < L - sure + 1 by omega)
  unfold thereOf; omega

/-- How many notes are whole then. -/
def Whole (ns : List NoteD) (T m : Nat) : Prop := m ≤ ns.length ∧ (∀ k, k < m → endAt ns k ≤ T) ∧ (m < ns.length → T < endAt ns m)

theorem owns_take {w : World} {B n m : Nat} {e : TypeId} {ao : Option Addr} {cap : Nat} {xs : List Value} (h : w.ownsRow B e 1 (.slice ao n cap) n xs) (hm : m ≤ n) : w.ownsRow B e 1 (.slice ao m cap) m (xs.take m) := by
  have hl := h.1
  refine ⟨by rw [List.length_take]; omega, ?_⟩
  rcases h.2 with ⟨e1, e2⟩ | ⟨g, cap', cur, e1, e2, e3, e4, e5, e6, e7⟩
  · simp only [Value.slice.injEq] at e1
    obtain ⟨rfl, rfl, rfl⟩ := e1
    left
    have : m = 0 := by omega
    subst this
    exact ⟨rfl, rfl⟩
  · simp only [Value.slice.injEq] at e1
    obtain ⟨rfl, _, rfl⟩ := e1
    refine .inr ⟨g, cap, cur, rfl, e2, e3, by omega, e5, e6, ?_⟩
    rw [← e7, List.take_take]
    congr 1
    omega
theorem endsOf_take (ns : List NoteD) (m : Nat) (h : m ≤ ns.length) : endsOf (ns.take m) = (endsOf ns).take m := by
  apply List.ext_getElem?
  intro j
  by_cases hj : j < m
  · rw [endsOf_at _ _ (by rw [List.length_take]; omega), List.getElem?_take, if_pos hj, endsOf_at _ _ (by omega), List.take_take, Nat.min_eq_left (by omega)]
  · rw [List.getElem?_eq_none (by rw [endsOf_len, List.length_take]; omega), List.getElem?_take, if_neg hj]
theorem intCs_take (l : List Int) (m : Nat) : intCs (l.take m) = (intCs l).take m := by simp [intCs]
theorem u8s_take (l : List UInt8) (m : Nat) : u8s (l.take m) = (u8s l).take m := by simp [u8s]
theorem seals_take (ns : List NoteD) (m : Nat) : (seals ns).take (seals (ns.take m)).length = seals (ns.take m) := by
  have e : seals ns = seals (ns.take m) ++ seals (ns.drop m) := by rw [← seals_append, List.take_append_drop]
  conv => lhs; rw [e]
  exact List.take_left' rfl

set_option maxHeartbeats 2000000 in
set_option maxRecDepth 100000 in
theorem fail_any {S : Nat → Prop} {w : World} {b room : Nat} {ns : List NoteD} {s : Nat} (hJ : J S w b room ns s) (hS : Low S w) (keep : Int) :
    Calls Try.prog 20 #[.pointer (some ⟨b, 0, none⟩), .int .i64 keep] w fun e w' => e = .returned (.int .i64 0) ∧ Fr S w w' ∧ ∃ m, s ≤ m ∧ Whole ns (thereOf (seals ns).length (seals (ns.take s)).length keep) m ∧ J S w' b room (ns.take m) m := by
  obtain ⟨hs0, vb, ve, h⟩ := hJ
  obtain ⟨sure, hsure⟩ : ∃ k, k = (seals (ns.take s)).length := ⟨_, rfl⟩
  rw [← hsure] at h ⊢
  have HSU := Hid.mk hsure
  clear hsure
  obtain ⟨W0, hW0⟩ : ∃ W0, W0 = w.alloc (.cells #[.pointer (some ⟨b, 0, none⟩)] 23) := ⟨_, rfl⟩
  have t2 : Below w.heap.size w W0 := by rw [hW0]; exact (Below.refl _ _).alloc (Nat.le_refl _) _
  have one0 : One W0 w.heap.size 23 (.pointer (some ⟨b, 0, none⟩)) := by rw [hW0]; exact box_at w _
  have H0 := Hid.mk (h.below t2)
  have F0 := Hid.mk (fr_below hS t2)
  have O0 := Hid.mk one0
  have hc0 := cell_of_one one0
  obtain ⟨a1, c1, a2, c2, hv1, hv2⟩ := h.slices
  subst hv1 hv2
  obtain ⟨⟨g0, g1, g2, g3, g4⟩, _⟩ := five_cells H0.out.blk
  have C := Hid.mk (given_any b W0 g0)
  have HW0 := Hid.mk hW0
  have HS := Hid.mk hS
  have hsl := h.fits
  have hrl := h.room_le
  have hsu := h.sure_le
  have hcnt := seals_count h.may
  have HT := Hid.mk (thereOf_le (seals ns).length sure keep hsu)
  obtain ⟨L, hL⟩ : ∃ L, L = (seals ns).length := ⟨_, rfl⟩
  rw [← hL] at hsl hsu hcnt H0 g2 HT ⊢
  have HL := Hid.mk hL
  clear h hW0 t2 hS hL one0
  go_enter Try.func20, Try.ntmps20
  go_wp2_with fail
  rw [← HW0.out]
  go_wp2_with fail
  refine C.out.mono ?_
  rintro e w1 ⟨rfl, hw⟩
  subst hw
  go_wp2_with fail
  go_quiet (fail)
  have hbq := below_drewN (Below.refl w1.heap.size w1) nq
  obtain ⟨W2, hW2⟩ : ∃ W, W = w1.drewN nq := ⟨_, rfl⟩
  rw [← hW2] at hbq ⊢
  have H2 := Hid.mk (H0.out.below hbq)
  have F2 := Hid.mk (F0.out.next HS.out hbq)
  have O2 := Hid.mk ((hbq.block _ (lt_of_block O0.out)).trans O0.out)
  clear hbq hW2 H0 F0 O0 g0 g1 g2 g3 g4 hc0 HW0 C
  have hc0 := cell_of_one O2.out
  obtain ⟨⟨g0, g1, g2, g3, g4⟩, _⟩ := five_cells H2.out.blk
  have hltJ : b < W2.heap.size := lt_of_block H2.out.blk
  have hltB : w.heap.size < W2.heap.size := lt_of_block O2.out
  go_wp2_with fail
  go_region
  obtain ⟨T, hT⟩ : ∃ T, T = thereOf L sure keep := ⟨_, rfl⟩
  have hTT : wrap64 ((sure : Int) + max keep 0 % ((L : Int) - (sure : Int) + 1)) = (T : Int) := by
    have e1 : max keep 0 = ((max keep 0).toNat : Int) := by omega
    have e2 : (L : Int) - (sure : Int) + 1 = ((L - sure + 1 : Nat) : Int) := by omega
    have h3 := HT.out
    rw [e1, e2, ← Int.natCast_emod, ← Int.natCast_add, hT]
    unfold thereOf at h3 ⊢
    exact wrap_in _ (by omega) (by omega)
  rw [hTT]
  rw [← hT] at HT
  have HTE := Hid.mk hT
  clear hTT hT
  obtain ⟨W3, hW3⟩ : ∃ W, W = (W2.alloc (.cells #[.int .i64 (T : Int)] 3)).drew := ⟨_, rfl⟩
  have b3 : Below W2.heap.size W2 W3 := by rw [hW3]; exact ((Below.refl _ _).alloc (Nat.le_refl _) _).drew
  have one3 : One W3 W2.heap.size 3 (.int .i64 (T : Int)) := by rw [hW3]; exact box_at W2 _
  rw [← hW3]
  have H3 := Hid.mk (H2.out.below b3)
  have F3 := Hid.mk (F2.out.next HS.out b3)
  have O3 := Hid.mk ((b3.block _ hltB).trans O2.out)
  clear hW3 H2 F2 O2 g0 g1 g2 g3 g4 hc0 b3
  have hc0 := cell_of_one O3.out
  obtain ⟨⟨g0, g1, g2, g3, g4⟩, _⟩ := five_cells H3.out.blk
  have hoe := H3.out.oe
  have hve : IntsAt W3 (.slice a2 ns.length c2) (endsOf ns) := by
    refine valsAt_own (B := 0) (e := 3) ?_ (by rw [intCs_len, endsOf_len]; omega)
    rw [intCs_len, endsOf_len]; exact hoe
  have C := Hid.mk (search_any W3 b w.heap.size W2.heap.size T (.slice a2 ns.length c2) ns ⟨O3.out, one3, g3, lt_of_block H3.out.blk, hve⟩ (by omega))
  clear one3 hve hltJ hltB hoe
  go_wp2_with fail
  refine C.out.mono ?_
  rintro e w4 ⟨m, rfl, hm1, hm2, hm3, hb4⟩
  have H4 := Hid.mk (H3.out.below hb4)
  have F4 := Hid.mk (F3.out.next HS.out hb4)
  have O4 := Hid.mk ((hb4.block _ (lt_of_block O3.out)).trans O3.out)
  have HWH : Hid (Whole ns T m) := Hid.mk ⟨hm1, hm2, hm3⟩
  have HSM : Hid (s ≤ m) := Hid.mk (by
    rcases Nat.lt_or_ge m s with hc | hc
    · have h1 := hm3 (by omega)
      have h2 : endAt ns m ≤ sure := by rw [HSU.out]; exact seals_mono ns (by omega)
      have h3 := HT.out.1
      omega
    · exact hc)
  clear hb4 hm2 hm3 H3 F3 O3 g0 g1 g2 g3 g4 hc0 C
  have hc0 := cell_of_one O4.out
  obtain ⟨⟨g0, g1, g2, g3, g4⟩, ⟨f0, f1, f2, f3, f4⟩⟩ := five_cells H4.out.blk
  have hcap := own_cap H4.out.oe
  have hcapb := own_cap H4.out.ob
  rw [← HL.out] at hcapb
  have hmI : (m : Int) ≤ (c2 : Int) := by omega
  go_wp2_with fail
  go_region
  obtain ⟨W5, hW5⟩ : ∃ W, W = (w4.setCell ⟨b, 3, none⟩ (.slice a2 m c2)).drew := ⟨_, rfl⟩
  have hnb : w.heap.size ≠ b := by
    intro e
    have h1 := O4.out
    rw [e, H4.out.blk] at h1
    simp at h1
  have one5 : One W5 w.heap.size 23 (.pointer (some ⟨b, 0, none⟩)) := by rw [hW5]; exact one_other3 O4.out hnb
  have blk5 : JBlk W5 b room (.slice a1 L c1) (.slice a2 m c2) sure := by rw [hW5]; exact five_set3 H4.out.blk
  have oe5 : W5.ownsRow 0 3 1 (.slice a2 m c2) (ns.take m).length (intCs (endsOf (ns.take m))) := by
    rw [hW5, endsOf_take ns m hm1, intCs_take, List.length_take, Nat.min_eq_left hm1]
    exact owns_setAt (owns_take H4.out.oe hm1) H4.out.blk (by decide)
  have ob5 : W5.ownsRow 0 5 1 (.slice a1 L c1) L (u8s (seals ns)) := by
    have := H4.out.ob
    rw [← HL.out] at this
    rw [hW5]
    exact owns_setAt this H4.out.blk (by decide)
  have F5 : Hid (Fr S w W5) := Hid.mk (by rw [hW5]; exact ((F4.out.setCell H4.out.out _).next HS.out (Below.refl _ _).drew))
  rw [← hW5]
  have HOUT := Hid.mk H4.out.out
  have HOUTB := Hid.mk H4.out.outb
  have HOUTE : Hid (∀ g, Value.ownBlock (.slice a2 m c2) = some g → ¬ S g) := Hid.mk (fun g hg => H4.out.oute g (by
    cases a2 with
    | none => simp [Value.ownBlock] at hg
    | some x => exact hg))
  have HMAY := Hid.mk H4.out.may
  have HNB := Hid.mk hnb
  clear hW5 H4 F4 O4 g0 g1 g2 g3 g4 f0 f1 f2 f3 f4 hc0 hnb
  have hE0 := seals_le ns m
  rw [← HL.out] at hE0
  have hve5 : IntsAt W5.drew (.slice a2 m c2) (endsOf (ns.take m)) := by
    have hlm : (ns.take m).length = m := by rw [List.length_take]; omega
    refine valsAt_own (B := 0) (e := 3) ?_ (by rw [intCs_len, endsOf_len]; omega)
    rw [intCs_len, endsOf_len]
    exact owns_below oe5 (Below.refl _ _).drew
  obtain ⟨⟨g0, g1, g2, g3, g4⟩, ⟨f0, f1, f2, f3, f4⟩⟩ := five_cells blk5
  have C := Hid.mk (lastEnd_any W5.drew b (.slice a2 m c2) (ns.take m) g3 hve5 (by rw [List.length_take]; omega))
  obtain ⟨E, hE⟩ : ∃ E, E = (seals (ns.take m)).length := ⟨_, rfl⟩
  rw [← hE] at C hE0
  have HE := Hid.mk hE
  have hEI : (E : Int) ≤ (c1 : Int) := by omega
  have hc0 := cell_of_one one5
  have hlt1 : w.heap.size < W5.heap.size := lt_of_block one5
  have hlt2 : b < W5.heap.size := lt_of_block blk5
  clear hE hve5
  go_wp2_with fail
  go_region_law (go_simp; refine C.out.mono ?_; rintro e w6 ⟨rfl, hb6⟩; have blk6 := (hb6.block b hlt2).trans blk5; have one6 := (hb6.block _ hlt1).trans one5; obtain ⟨⟨q0, q1, q2, q3, q4⟩, ⟨j0, j1, j2, j3, j4⟩⟩ := five_cells blk6; have hc6 := cell_of_one one6)
  all_goals (
    have b56 : Below W5.heap.size W5 w6 := (Below.refl W5.heap.size W5).drew.trans hb6
    have hfin : JAt S (w6.setCell ⟨b, 2, none⟩ (.slice a1 E c1)) b room (.slice a1 E c1) (.slice a2 m c2) (ns.take m) sure := by
      refine ⟨five_set2 blk6, HOUT.out, ?_, ?_, owns_setAt (owns_below oe5 b56) blk6 (by decide), HOUTE.out, fun n hn => HMAY.out n (List.mem_of_mem_take hn), by rw [← HE.out]; omega, hrl, ?_⟩
      · rw [← seals_take ns m, ← HE.out, u8s_take, List.length_take, Nat.min_eq_left (by rw [← HL.out]; omega)]
        exact owns_setAt (owns_take (owns_below ob5 b56) hE0) blk6 (by decide)
      · intro g hg
        refine HOUTB.out g ?_
        cases a1 with
        | none => simp [Value.ownBlock] at hg
        | some x => exact hg
      · rw [HSU.out]
        exact seals_mono ns HSM.out
    have C2 := Hid.mk (sure_any hfin)
    have F6 := Hid.mk ((F5.out.next HS.out b56).setCell (b := b) (i := 2) HOUT.out (.slice a1 E c1))
    have hc7 := cell_of_one (one_other3 (i := 2) (u := .slice a1 E c1) one6 HNB.out)
    clear hfin b56 hb6 blk6 one6 q0 q1 q2 q3 q4 j0 j1 j2 j3 j4 hc6 g0 g1 g2 g3 g4 f0 f1 f2 f3 f4 hc0 C oe5 ob5 blk5 one5
    go_wp2_with fail
    refine C2.out.mono ?_
    rintro e w7 ⟨rfl, h7, f7⟩
    have HJ7 : Hid (J S w7 b room (ns.take m) m) := Hid.mk ⟨by rw [List.length_take]; omega, _, _, by rw [List.take_take, Nat.min_self]; exact h7⟩
    have F7 := Hid.mk (F6.out.trans f7)
    clear h7 f7 C2 F6
    go_wp2
    go_ret
    exact ⟨rfl, F7.out, m, HSM.out, by rw [← HTE.out]; exact HWH.out, HJ7.out⟩)
end Go.Proofs.Ytnepednomejniaa
