/- Begin of the program. -/
import Derived.Test.YtnepednomejniaaJTwice
namespace Go.Proofs.Ytnepednomejniaa
open Go.RowKit

set_option maxRecDepth 100000 in
theorem sure_pre {S : Nat → Prop} {w : World} {b room : Nat} {vb ve : Value} {ns : List NoteD} {sure : Nat} (blk : JBlk w b room vb ve sure) (out : ¬ S b) (ob : w.ownsRow 0 5 1 vb (seals ns).length (u8s (seals ns))) (outb : ∀ g, vb.ownBlock = some g → ¬ S g)
    (oe : w.ownsRow 0 3 1 ve ns.length (intCs (endsOf ns))) (oute : ∀ g, ve.ownBlock = some g → ¬ S g) (may : ∀ n ∈ ns, n.may) (fits : (seals ns).length ≤ room) (room_le : room ≤ 67108864) :
    Calls Try.prog 19 #[.pointer (some ⟨b, 0, none⟩)] w fun e w' => e = .returned (.int .i64 0) ∧ J S w' b room ns ns.length ∧ Fr S w w' := by
  obtain ⟨a1, c1, e1⟩ := own_slice ob
  subst e1
  obtain ⟨⟨g0, g1, g2, g3, g4⟩, ⟨f0, f1, f2, f3, f4⟩⟩ := five_cells blk
  have C := Hid.mk (given_any b w g0)
  have HB := Hid.mk blk
  have HO := Hid.mk ob
  have HE := Hid.mk oe
  clear blk ob oe
  go_enter Try.func19, Try.ntmps19
  go_wp2_with fail
  refine C.out.mono ?_
  rintro e w1 ⟨rfl, hw⟩
  subst hw
  go_wp2
  go_ret
  refine ⟨rfl, ⟨Nat.le_refl _, .slice a1 (seals ns).length c1, ve, ?_⟩, (Fr.refl S w1).setCell out _⟩
  rw [List.take_of_length_le (Nat.le_refl _)]
  exact ⟨five_set4 HB.out, out, owns_setAt HO.out HB.out (by decide), outb, owns_setAt HE.out HB.out (by decide), oute, may, fits, room_le, Nat.le_refl _⟩

theorem note_slices {w : World} {n : NoteD} {k : Int} {c1 c2 c3 : Value} (h : NoteAt w (.agg #[.int .i64 k, c1, c2, c3]) n) : ∃ a1 l1 k1 a2 l2 k2 a3 l3 k3, c1 = .slice a1 l1 k1 ∧ c2 = .slice a2 l2 k2 ∧ c3 = .slice a3 l3 k3 := by
  obtain ⟨d1, d2, d3, e1, g1, g2, g3⟩ := h
  simp only [Value.agg.injEq, Array.mk.injEq, List.cons.injEq, and_true] at e1
  obtain ⟨_, rfl, rfl, rfl⟩ := e1
  obtain ⟨_, _, _, rfl, _⟩ := g1
  obtain ⟨_, _, _, rfl, _⟩ := g2
  obtain ⟨_, ⟨_, _, _, rfl, _⟩, _⟩ := g3
  exact ⟨_, _, _, _, _, _, _, _, _, rfl, rfl, rfl⟩

/-- What Begin answers, and what it makes of the journal. -/
def BEnd (S : Nat → Prop) (b room : Nat) (ns : List NoteD) (s : Nat) (l : List NoteD) (e : Ending) (w' : World) : Prop :=
  (¬ (∀ n ∈ l, n.may) ∧ e = .returned (.int .i64 1) ∧ J S w' b room ns s) ∨
  ((∀ n ∈ l, n.may) ∧ room < (seals l).length ∧ e = .returned (.int .i64 40) ∧ J S w' b room ns s) ∨
  ((∀ n ∈ l, n.may) ∧ (seals l).length ≤ room ∧ e = .returned (.int .i64 0) ∧ J S w' b room l l.length)

/-- How far the notes are written: all so far, or not all of them since they had no room. -/
def Filled (room : Nat) (l : List NoteD) (i : Nat) (acc : List NoteD) (full : Bool) : Prop :=
  (full = false ∧ acc = l.take i) ∨ (full = true ∧ room < (seals (l.take i)).length)

set_option maxHeartbeats 4000000 in
set_option maxRecDepth 100000 in
theorem begin_any {S : Nat → Prop} {w : World} {b room : Nat} {ns : List NoteD} {s : Nat} (hJ : J S w b room ns s) (hS : Low S w) (vl : Value) (l : List NoteD) (hl : NotesAt w vl l) (hsa : ∀ n ∈ l, n.sane) :
    Calls Try.prog 21 #[.pointer (some ⟨b, 0, none⟩), vl] w fun e w' => Fr S w w' ∧ BEnd S b room ns s l e w' := by
  obtain ⟨hlen, ao, cap, rfl, hc⟩ := hl
  have HC := Hid.mk hc
  have HSA := Hid.mk hsa
  have HJ := Hid.mk hJ
  have HS := Hid.mk hS
  obtain ⟨hs0, vb, ve, h⟩ := hJ
  obtain ⟨⟨g0, g1, g2, g3, g4⟩, _⟩ := five_cells h.blk
  have hrm := h.room_le
  have C := Hid.mk (given_any b w g0)
  have hT : Low (fun k => k < w.heap.size) w := fun k hk => hk
  obtain ⟨T, hTd⟩ : ∃ T : Nat → Prop, T = fun k => k < w.heap.size := ⟨_, rfl⟩
  rw [← hTd] at hT
  have HT := Hid.mk hT
  have BEL : Hid (∀ w1, Fr T w w1 → Below w.heap.size w w1) := Hid.mk (fun w1 h => h.below (fun k hk => by rw [hTd]; exact hk))
  have SUB : Hid (∀ k, S k → T k) := Hid.mk (fun k hk => by rw [hTd]; exact hS k hk)
  clear h hc hsa hS hT hTd
  go_enter Try.func21, Try.ntmps21
  go_wp2_with fail
  refine C.out.mono ?_
  rintro e w0 ⟨rfl, hw⟩
  subst hw
  have CE := Hid.mk (empty_any room w0)
  go_wp2_with fail
  refine CE.out.mono ?_
  rintro e w1 ⟨rfl, hz, hb1⟩
  have J1 := Hid.mk (J.zero HT.out hz hrm)
  have F1 := Hid.mk (fr_below HT.out hb1)
  obtain ⟨p, hp⟩ : ∃ b, b = w0.heap.size := ⟨_, rfl⟩
  have HP := Hid.mk hp
  rw [← hp] at J1
  rw [← hp]
  clear hz hb1 C CE g0 g1 g2 g3 g4 hp
  go_wp2
  go_loopw [6, 19] (fun f c wr => ∃ (i : Nat) (acc : List NoteD) (full : Bool), f = .bool full ∧ c = .int .i64 i ∧ i ≤ l.length ∧ (∀ n ∈ l.take i, n.may) ∧ Filled room l i acc full ∧ J T wr p room acc 0 ∧ Fr T w0 wr) (fun _ c _ => l.length - (intOf c).toNat)
  case atStart => exact ⟨0, [], false, rfl, rfl, Nat.zero_le _, by simp, .inl ⟨rfl, rfl⟩, J1.out, F1.out⟩
  case round =>
    obtain ⟨i, acc, full, rfl, rfl, hil, hmay, hfil, hj, hf⟩ := hrel
    have JN := Hid.mk hj
    have FN := Hid.mk hf
    have HM := Hid.mk hmay
    have HFI := Hid.mk hfil
    clear hj hf hmay hfil J1 F1
    by_cases hlt : i < l.length
    · obtain ⟨n, hn⟩ : ∃ n, l[i]? = some n := ⟨_, List.getElem?_eq_getElem hlt⟩
      have hltI : (i : Int) < (l.length : Int) := by omega
      have hsane := Hid.mk (HSA.out n (List.mem_of_getElem? hn))
      have HN := Hid.mk hn
      have HTK : Hid (l.take (i + 1) = l.take i ++ [n]) := Hid.mk (by rw [List.take_add_one, hn, Option.toList_some])
      rcases HC.out with hnil | ⟨g, o, rfl, hlg, hc⟩
      · rw [hnil] at hn; simp at hn
      · obtain ⟨c1, c2, c3, p0, p1, p2, p3, pn⟩ := hc i n hn
        have key : ∀ j u, w0.cell? ⟨g, j, none⟩ = some u → wr.cell? ⟨g, j, none⟩ = some u := fun j u h2 => ((BEL.out _ FN.out).cell (p := ⟨g, j, none⟩) hlg).trans h2
        have r0 := key _ _ p0
        have r1 := key _ _ p1
        have r2 := key _ _ p2
        have r3 := key _ _ p3
        have PN := Hid.mk pn
        obtain ⟨y1, y2, y3, y4, y5, y6, y7, y8, y9, ec1, ec2, ec3⟩ := note_slices PN.out
        subst ec1 ec2 ec3
        clear hc hn p0 p1 p2 p3 pn key
        obtain ⟨W2, hW2⟩ : ∃ W, W = wr.alloc (.cells #[.int .i64 n.kind, .slice y1 y2 y3, .slice y4 y5 y6, .slice y7 y8 y9] 37) := ⟨_, rfl⟩
        have b2 : Below wr.heap.size wr W2 := by rw [hW2]; exact (Below.refl _ _).alloc (Nat.le_refl _) _
        have F2 := Hid.mk (FN.out.next HT.out b2)
        have CW := Hid.mk (write_any (JN.out.below b2) (HT.out.fr F2.out) _ n (PN.out.below (BEL.out _ F2.out)) hsane.out)
        have HW2 := Hid.mk hW2
        clear hW2 b2
        go_wp2_with fail
        rw [← HW2.out]
        refine CW.out.mono ?_
        rintro e w3 ⟨hf3, hw3⟩
        have F3 := Hid.mk (F2.out.trans hf3)
        clear hf3 CW HW2 F2 r0 r1 r2 r3 JN FN
        rcases hw3 with ⟨hno, rfl, _⟩ | ⟨hm3, hroom, rfl, hj3⟩ | ⟨hm3, hroom, rfl, hj3⟩
        · have HNO : Hid (¬ ∀ n ∈ l, n.may) := Hid.mk (fun h => hno (h n (List.mem_of_getElem? HN.out)))
          clear hno
          go_wp2
          go_ret
          exact ⟨F3.out.sub SUB.out, .inl ⟨HNO.out, rfl, HJ.out.below (BEL.out _ F3.out)⟩⟩
        · have J3 := Hid.mk hj3
          have HM3 : Hid (∀ m ∈ l.take (i + 1), m.may) := Hid.mk (by
            rw [HTK.out]
            intro m hm
            rcases List.mem_append.1 hm with hm | hm
            · exact HM.out m hm
            · rw [List.mem_singleton] at hm; rw [hm]; exact hm3)
          have HF3 : Hid (Filled room l (i + 1) acc true) := Hid.mk (.inr ⟨rfl, by
            rw [HTK.out, seals_snoc, List.length_append]
            rcases HFI.out with ⟨_, h1⟩ | ⟨_, h1⟩
            · rw [← h1]; exact hroom
            · omega⟩)
          clear hj3 hm3 hroom
          go_wp2
          go_roundw
          case rel => exact ⟨i + 1, acc, true, rfl, by go_num, by omega, HM3.out, HF3.out, J3.out, F3.out⟩
          case measure => simp [intOf]; omega
        · have J3 := Hid.mk hj3
          have HM3 : Hid (∀ m ∈ l.take (i + 1), m.may) := Hid.mk (by
            rw [HTK.out]
            intro m hm
            rcases List.mem_append.1 hm with hm | hm
            · exact HM.out m hm
            · rw [List.mem_singleton] at hm; rw [hm]; exact hm3)
          have HF3 : Hid (Filled room l (i + 1) (acc ++ [n]) full) := Hid.mk (by
            rcases HFI.out with ⟨h0, h1⟩ | ⟨h0, h1⟩
            · exact .inl ⟨h0, by rw [HTK.out, h1]⟩
            · refine .inr ⟨h0, ?_⟩
              rw [HTK.out, seals_snoc, List.length_append]; omega)
          clear hj3 hm3 hroom
          go_wp2
          go_roundw
          case rel => exact ⟨i + 1, acc ++ [n], full, rfl, by go_num, by omega, HM3.out, HF3.out, J3.out, F3.out⟩
          case measure => simp [intOf]; omega
    · have hall : l.take i = l := List.take_of_length_le (by omega)
      have hm := HM.out
      have hfi := HFI.out
      unfold Filled at hfi
      rw [hall] at hm hfi
      have HM2 := Hid.mk hm
      clear hm hall HM HFI
      obtain ⟨W3, hW3⟩ : ∃ W, W = wr := ⟨_, rfl⟩
      subst hW3
      rcases hfi with ⟨rfl, rfl⟩ | ⟨rfl, hroom⟩
      · obtain ⟨_, xb, xe, hx⟩ := JN.out
        obtain ⟨_, vb, ve, hy⟩ := HJ.out.below (BEL.out _ FN.out)
        obtain ⟨x1, x2, x3, x4, ex1, ex2⟩ := hx.slices
        subst ex1 ex2
        obtain ⟨⟨q0, q1, q2, q3, q4⟩, _⟩ := five_cells hx.blk
        obtain ⟨⟨g0, g1, g2, g3, g4⟩, ⟨f0, f1, f2, f3, f4⟩⟩ := five_cells hy.blk
        have HX := Hid.mk hx
        have HY := Hid.mk hy
        clear hx hy
        go_wp2_with fail
        go_region
        obtain ⟨W4, hW4⟩ : ∃ W, W = ((W3.setCell ⟨b, 2, none⟩ (.slice x1 (seals acc).length x2)).setCell ⟨b, 3, none⟩ (.slice x3 acc.length x4)).drew := ⟨_, rfl⟩
        have blk4 := five_set3 (v := .slice x3 acc.length x4) (five_set2 (v := .slice x1 (seals acc).length x2) HY.out.blk)
        have ob4 := owns_setAt (i := 3) (u := .slice x3 acc.length x4) (owns_setAt (i := 2) (u := .slice x1 (seals acc).length x2) HX.out.ob HY.out.blk (by decide)) (five_set2 (v := .slice x1 (seals acc).length x2) HY.out.blk) (by decide)
        have oe4 := owns_setAt (i := 3) (u := .slice x3 acc.length x4) (owns_setAt (i := 2) (u := .slice x1 (seals acc).length x2) HX.out.oe HY.out.blk (by decide)) (five_set2 (v := .slice x1 (seals acc).length x2) HY.out.blk) (by decide)
        have bd := (Below.refl ((W3.setCell ⟨b, 2, none⟩ (.slice x1 (seals acc).length x2)).setCell ⟨b, 3, none⟩ (.slice x3 acc.length x4)).heap.size ((W3.setCell ⟨b, 2, none⟩ (.slice x1 (seals acc).length x2)).setCell ⟨b, 3, none⟩ (.slice x3 acc.length x4))).drew
        have blk5 := (bd.block b (lt_of_block blk4)).trans blk4
        have ob5 := owns_below ob4 bd
        have oe5 := owns_below oe4 bd
        have F4 := Hid.mk (((((FN.out.sub SUB.out).setCell (i := 2) HY.out.out (.slice x1 (seals acc).length x2)).setCell (i := 3) HY.out.out (.slice x3 acc.length x4))).next HS.out bd)
        rw [← hW4] at blk5 ob5 oe5 F4 ⊢
        have CS := Hid.mk (sure_pre (S := S) blk5 HY.out.out ob5 (fun g hg hk => HX.out.outb g hg (SUB.out g hk)) oe5 (fun g hg hk => HX.out.oute g hg (SUB.out g hk)) HM2.out HX.out.fits hrm)
        have HFT := Hid.mk HX.out.fits
        clear blk4 ob4 oe4 bd blk5 ob5 oe5 hW4 HX HY JN FN g0 g1 g2 g3 g4 f0 f1 f2 f3 f4 q0 q1 q2 q3 q4
        go_wp2_with fail
        refine CS.out.mono ?_
        rintro e w5 ⟨rfl, hj5, hf5⟩
        have J5 := Hid.mk hj5
        have F5 := Hid.mk (F4.out.trans hf5)
        clear hj5 hf5 CS F4
        go_wp2
        go_ret
        exact ⟨F5.out, .inr (.inr ⟨HM2.out, HFT.out, rfl, J5.out⟩)⟩
      · have HRM := Hid.mk hroom
        clear hroom
        go_wp2
        go_ret
        exact ⟨FN.out.sub SUB.out, .inr (.inl ⟨HM2.out, HRM.out, rfl, HJ.out.below (BEL.out _ FN.out)⟩)⟩
end Go.Proofs.Ytnepednomejniaa
