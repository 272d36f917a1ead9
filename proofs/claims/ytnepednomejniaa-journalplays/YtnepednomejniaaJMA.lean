/- Notes that are kept; Begin of the program; the document's journal. -/
import Derived.Test.YtnepednomejniaaJAwake
import Derived.Test.YtnepednomejniaaJMW
namespace Go.Proofs.Ytnepednomejniaa
open Go.RowKit

theorem owns_kept {w w' : World} {B n : Nat} {e : TypeId} {size : Nat} {v : Value} {xs : List Value} (h : w.ownsRow B e size v n xs) (hk : ∀ g, B ≤ g → g < w.heap.size → w'.heap[g]? = w.heap[g]?) : w'.ownsRow B e size v n xs := by
  refine ⟨h.1, ?_⟩
  rcases h.2 with h0 | ⟨g, cap, cur, e1, e2, e3, e4⟩
  · exact .inl h0
  · exact .inr ⟨g, cap, cur, e1, e2, (hk g e2 (lt_of_block e3)).trans e3, e4⟩
theorem NoteOwn.held {w w' : World} {B : Nat} {v : Value} {n : NoteD} (h : NoteOwn w B v n) (hk : ∀ g, B ≤ g → g < w.heap.size → w'.heap[g]? = w.heap[g]?) : NoteOwn w' B v n := by
  obtain ⟨vn, vt, vr, e, h1, h2, ⟨vs, h3, h4, h5⟩, b⟩ := h
  exact ⟨vn, vt, vr, e, h1.kept (fun g cur fz hB hg => (hk g hB (lt_of_block hg)).trans hg), owns_kept h2 hk, ⟨vs, owns_kept h3 hk, h4, fun j x r hx hr => owns_kept (h5 j x r hx hr) hk⟩, b⟩
theorem NotesOwn.held {w w' : World} {B : Nat} {v : Value} {ns : List NoteD} (h : NotesOwn w B v ns) (hk : ∀ g, B ≤ g → g < w.heap.size → w'.heap[g]? = w.heap[g]?) : NotesOwn w' B v ns := by
  obtain ⟨cs, h1, h2⟩ := h
  refine ⟨cs, owns_kept h1 hk, fun j n hn => ?_⟩
  obtain ⟨c1, c2, c3, a0, a1, a2, a3, a4⟩ := h2 j n hn
  exact ⟨c1, c2, c3, a0, a1, a2, a3, a4.held hk⟩

/-- The blocks of S, and those from lo on below hi. -/
def Plus (S : Nat → Prop) (lo hi : Nat) : Nat → Prop := fun k => S k ∨ (lo ≤ k ∧ k < hi)
theorem Low.plus {S : Nat → Prop} {w w' : World} (h : Low S w) (hs : w.heap.size ≤ w'.heap.size) : Low (Plus S w.heap.size w'.heap.size) w' := fun k hk => by
  rcases hk with hk | hk
  · exact Nat.lt_of_lt_of_le (h k hk) hs
  · exact hk.2
theorem J.plus {S : Nat → Prop} {w w' : World} {b room : Nat} {ns : List NoteD} {s : Nat} (h : J S w b room ns s) (hb : Below w.heap.size w w') : J (Plus S w.heap.size w'.heap.size) w' b room ns s :=
  (h.more (T := Plus S w.heap.size w'.heap.size) (fun _ hk => hk.elim .inl (fun h1 => .inr h1.1))).below hb
theorem Fr.minus {S : Nat → Prop} {lo hi : Nat} {w w' : World} (h : Fr (Plus S lo hi) w w') : Fr S w w' := h.sub (fun _ hk => .inl hk)
theorem NotesOwn.plus {S : Nat → Prop} {w w' : World} {B : Nat} {v : Value} {ns : List NoteD} (h : NotesOwn w B v ns) (hf : Fr (Plus S B w.heap.size) w w') : NotesOwn w' B v ns :=
  h.held (fun g h1 h2 => hf.block g (.inr ⟨h1, h2⟩))
theorem J.count {S : Nat → Prop} {w : World} {b room : Nat} {ns : List NoteD} {s : Nat} (h : J S w b room ns s) : ns.length ≤ 8388608 := by
  have h1 := seals_count h.may
  have h2 := h.fits
  omega

set_option maxHeartbeats 4000000 in
set_option maxRecDepth 100000 in
theorem journalTwice_walk (vs : Value) (notes : List NoteD) (a b : Int) (w : World) (hv : NotesAt w vs notes) (hsa : ∀ n ∈ notes, n.sane) (_ : (Lit.int .i64 a).wf = true) (_ : (Lit.int .i64 b).wf = true) :
    Calls Try.prog 8 #[vs, .int .i64 a, .int .i64 b] w fun e w' => e = .returned (.bool true) ∧ Below w.heap.size w w' := by
  obtain ⟨hlen, ao, cap, rfl, hc⟩ := hv
  have HC := Hid.mk hc
  have HSA := Hid.mk hsa
  clear hc hsa
  have hS : Low (fun k => k < w.heap.size) w := fun k hk => hk
  obtain ⟨S, hSd⟩ : ∃ S : Nat → Prop, S = fun k => k < w.heap.size := ⟨_, rfl⟩
  rw [← hSd] at hS
  have HS := Hid.mk hS
  have BEL : Hid (∀ w1, Fr S w w1 → Below w.heap.size w w1) := Hid.mk (fun w1 h => h.below (fun k hk => by rw [hSd]; exact hk))
  have AWAKE : Hid (∀ wr, Fr S w wr → Calls Try.prog 11 #[] wr fun e w' => e = .returned (.bool true) ∧ Below w.heap.size w w') := Hid.mk (fun wr h => (jawake_any wr).mono fun e w' ⟨h1, h2⟩ => ⟨h1, BEL.out _ (h.next HS.out h2)⟩)
  clear hS hSd
  go_enter Try.func8, Try.ntmps8
  go_wp2_with fail
  refine (new_any 1048576 w).mono ?_
  rintro e w1 ⟨hb1, ⟨hno, _⟩ | ⟨_, rfl, hz⟩⟩
  · exact absurd ⟨by decide, by decide⟩ hno
  · have J1 := Hid.mk (J.zero HS.out hz (by decide))
    have F1 := Hid.mk (fr_below HS.out hb1)
    clear hz hb1
    obtain ⟨p, hp⟩ : ∃ b, b = w.heap.size := ⟨_, rfl⟩
    obtain ⟨R, hR⟩ : ∃ R, R = Int.toNat 1048576 := ⟨_, rfl⟩
    rw [← hp, ← hR] at J1
    rw [← hp]
    clear hp hR
    go_wp2
    go_loopw [9] (fun c wr => ∃ (i : Nat) (ns : List NoteD), c = .int .i64 i ∧ i ≤ 20 ∧ i ≤ notes.length ∧ J S wr p R ns 0 ∧ Fr S w wr) (fun c _ => 20 - (intOf c).toNat)
    case atStart => exact ⟨0, [], rfl, Nat.zero_le _, Nat.zero_le _, J1.out, F1.out⟩
    case round =>
      obtain ⟨i, ns, rfl, hi20, hin, hj, hf⟩ := hrel
      have HJ := Hid.mk hj
      have HF := Hid.mk hf
      clear hj hf J1 F1
      by_cases hlt : i < notes.length ∧ i < 20
      · obtain ⟨hlt, hlt20⟩ := hlt
        obtain ⟨n, hn⟩ : ∃ n, notes[i]? = some n := ⟨_, List.getElem?_eq_getElem hlt⟩
        have hltI : (i : Int) < (notes.length : Int) := by omega
        have hlt20I : (i : Int) < 20 := by omega
        have hsane := Hid.mk (HSA.out n (List.mem_of_getElem? hn))
        rcases HC.out with hnil | ⟨g, o, rfl, hl, hc⟩
        · rw [hnil] at hn; simp at hn
        · obtain ⟨c1, c2, c3, p0, p1, p2, p3, pn⟩ := hc i n hn
          have CELLS : Hid (∀ w1, Below w.heap.size w w1 → w1.cell? ⟨g, o + i * 4, none⟩ = some (.int .i64 n.kind) ∧ w1.cell? ⟨g, o + i * 4 + 1, none⟩ = some c1 ∧ w1.cell? ⟨g, o + i * 4 + 2, none⟩ = some c2 ∧ w1.cell? ⟨g, o + i * 4 + 3, none⟩ = some c3) := Hid.mk (fun w1 h => by
            have key : ∀ j u, w.cell? ⟨g, j, none⟩ = some u → w1.cell? ⟨g, j, none⟩ = some u := fun j u h2 => (h.cell (p := ⟨g, j, none⟩) hl).trans h2
            exact ⟨key _ _ p0, key _ _ p1, key _ _ p2, key _ _ p3⟩)
          have PN := Hid.mk pn
          clear hc hn p0 p1 p2 p3 pn
          obtain ⟨r0, r1, r2, r3⟩ := CELLS.out _ (BEL.out _ HF.out)
          go_wp2_with fail
          refine (jlight_any _ n _ (PN.out.below (BEL.out _ HF.out))).mono ?_
          rintro e w2 ⟨⟨b1, rfl⟩, hb2⟩
          have J2 := Hid.mk (HJ.out.below hb2)
          have F2 := Hid.mk (HF.out.next HS.out hb2)
          clear r0 r1 r2 r3 hb2 HJ HF
          cases b1 with
          | false =>
            go_wp2_with fail
            refine (AWAKE.out _ F2.out).mono ?_
            rintro e w3 ⟨rfl, hb3⟩
            go_wp2
            go_ret
            exact ⟨rfl, hb3⟩
          | true =>
            obtain ⟨r0, r1, r2, r3⟩ := CELLS.out _ (BEL.out _ F2.out)
            go_wp2_with fail
            refine (write_any J2.out (HS.out.fr F2.out) _ n (PN.out.below (BEL.out _ F2.out)) hsane.out).mono ?_
            rintro e w3 ⟨hf3, hw3⟩
            have hw : ∃ (x : Int) (ns' : List NoteD), e = .returned (.int .i64 x) ∧ J S w3 p R ns' 0 := by
              rcases hw3 with h | h | h
              · exact ⟨_, _, h.2.1, h.2.2⟩
              · exact ⟨_, _, h.2.2.1, h.2.2.2⟩
              · exact ⟨_, _, h.2.2.1, h.2.2.2⟩
            obtain ⟨x, ns', rfl, hj3⟩ := hw
            have J3 := Hid.mk hj3
            have F3 := Hid.mk (F2.out.trans hf3)
            clear hf3 hw3 hj3 r0 r1 r2 r3 J2 F2
            go_wp2
            go_roundw
            case rel => exact ⟨i + 1, ns', by go_num, by omega, by omega, J3.out, F3.out⟩
            case measure => simp [intOf]; omega
      · obtain ⟨W2, hW2⟩ : ∃ W, W = wr := ⟨_, rfl⟩
        subst hW2
        have hgo : (¬ (i : Int) < (notes.length : Int)) ∨ ((i : Int) < (notes.length : Int) ∧ ¬ (i : Int) < 20) := by omega
        have CF := Hid.mk (fail_any HJ.out (HS.out.fr HF.out) a)
        clear hlt
        rcases hgo with hgo | ⟨hgo, hgo2⟩
        all_goals (
          go_wp2_with fail
          refine CF.out.mono ?_
          rintro e w3 ⟨rfl, hf3, m, _, hwh, hj3⟩
          have J3 := Hid.mk hj3
          have F3 := Hid.mk (HF.out.trans hf3)
          obtain ⟨l, hl⟩ : ∃ l, l = ns.take m := ⟨_, rfl⟩
          have hlm : l.length = m := by rw [hl, List.length_take]; have := hwh.1; omega
          rw [← hl] at J3
          clear hl hf3 hwh hj3 HJ HF CF
          go_wp2_with fail
          refine (jnotes_any J3.out).mono ?_
          rintro e w4 ⟨v4, rfl, hown4, hb4⟩
          have J4 := Hid.mk (J3.out.plus hb4)
          have L4 := Hid.mk ((HS.out.fr F3.out).plus hb4.size)
          have F4 := Hid.mk (F3.out.next HS.out hb4)
          have N4 := Hid.mk hown4
          have hsl : (seals (l.take m)).length = (seals l).length := by rw [List.take_of_length_le (by omega)]
          have CZ := Hid.mk (jsize_any J4.out)
          rw [hsl] at CZ
          obtain ⟨X, hX⟩ : ∃ X, X = (seals l).length := ⟨_, rfl⟩
          rw [← hX] at CZ
          have HX := Hid.mk hX
          have hxx : ((X : Int) != (X : Int)) = false := by simp
          clear hb4 hown4 J3 F3 hsl hX
          go_wp2_with fail
          refine CZ.out.mono ?_
          rintro e w5 ⟨rfl, hb5⟩
          have J5 := Hid.mk (J4.out.below hb5)
          have L5 := Hid.mk (L4.out.below hb5)
          have F5 := Hid.mk (F4.out.next HS.out hb5)
          have N5 := Hid.mk (N4.out.plus (fr_below L4.out hb5))
          have HN5 := Hid.mk (fr_below L4.out hb5)
          clear hb5 J4 F4 CZ
          go_wp2_with fail
          refine (fail_any J5.out L5.out b).mono ?_
          rintro e w6 ⟨rfl, hf6, m2, hm2, hwh2, hj6⟩
          have hme : m2 = m := by have := hwh2.1; omega
          subst hme
          rw [List.take_of_length_le (by omega)] at hj6
          have J6 := Hid.mk hj6
          have F6 := Hid.mk (F5.out.trans hf6.minus)
          have N6 := Hid.mk (N4.out.plus (HN5.out.trans hf6))
          clear hf6 hwh2 hj6 J5 L5 F5 N5 HN5 N4 L4 hm2
          have hcnt := J6.out.count
          go_wp2_with fail
          refine (jnotes_any J6.out).mono ?_
          rintro e w7 ⟨v7, rfl, hown7, hb7⟩
          have J7 := Hid.mk (J6.out.below hb7)
          have F7 := Hid.mk (F6.out.next HS.out hb7)
          have CS := Hid.mk (sameAll_any v7 v4 l l w7 (hown7.at_ (by omega)) ((N6.out.below hb7).at_ (by omega)))
          rw [decide_eq_true rfl] at CS
          clear hb7 hown7 J6 F6 N6
          go_wp2_with fail
          refine CS.out.mono ?_
          rintro e w8 ⟨rfl, hb8⟩
          have J8 := Hid.mk (J7.out.below hb8)
          have F8 := Hid.mk (F7.out.next HS.out hb8)
          have CZ := Hid.mk (jsize_any J8.out)
          rw [← HX.out] at CZ
          obtain ⟨Y, hY⟩ : ∃ Y, Y = (seals (l.take m2)).length := ⟨_, rfl⟩
          rw [← hY] at CZ
          clear hb8 J7 F7 CS hY
          go_wp2_with fail
          refine CZ.out.mono ?_
          rintro e w9 ⟨rfl, hb9⟩
          have F9 := Hid.mk (F8.out.next HS.out hb9)
          clear hb9 J8 F8 CZ
          go_wp2_with fail
          refine (AWAKE.out _ F9.out).mono ?_
          rintro e w10 ⟨rfl, hb10⟩
          go_wp2
          go_ret
          exact ⟨rfl, hb10⟩)
end Go.Proofs.Ytnepednomejniaa

namespace Go.Proofs.Ytnepednomejniaa
open Go.RowKit

set_option maxRecDepth 100000 in
theorem sure_pre {S : Nat → Prop} {w : World} {b room : Nat} {vb ve : Value} {ns : List NoteD} {sure : Nat} (blk : JBlk w b room vb ve sure) (out : ¬ S b) (ob : w.ownsRow 0 5 1 vb (seals ns).length (u8s (seals ns))) (outb : ∀ g, vb.ownBlock = some g → ¬ S g)
    (oe : w.ownsRow 0 3 1 ve ns.length (intCs (endsOf ns))) (oute : ∀ g, ve.ownBlock = some g → ¬ S g) (may : ∀ n ∈ ns, n.may) (fits : (seals ns).length ≤ room) (room_le : room ≤ 67108864) :
    Calls Try.prog 19 #[.pointer (some ⟨b, 0, none⟩)] w fun e w' => e = .returned (.int .i64 0) ∧ J S w' b room ns ns.length ∧ Fr S w w' := by
  obtain ⟨a1, c1, e1⟩ := own_slice ob
  subst e1
  obtain ⟨⟨g0, g1, g2, g3, g4⟩, ⟨f0, f1, f2, f3, f4⟩⟩ := five_cells blk
  have C := Hid.mk (given_any b w g0)
  have HB := Hid.mk blk
  have HO := Hid.mk ob
  have HE := Hid.mk oe
  clear blk ob oe
  go_enter Try.func19, Try.ntmps19
  go_wp2_with fail
  refine C.out.mono ?_
  rintro e w1 ⟨rfl, hw⟩
  subst hw
  go_wp2
  go_ret
  refine ⟨rfl, ⟨Nat.le_refl _, .slice a1 (seals ns).length c1, ve, ?_⟩, (Fr.refl S w1).setCell out _⟩
  rw [List.take_of_length_le (Nat.le_refl _)]
  exact ⟨five_set4 HB.out, out, owns_setAt HO.out HB.out (by decide), outb, owns_setAt HE.out HB.out (by decide), oute, may, fits, room_le, Nat.le_refl _⟩

theorem note_slices {w : World} {n : NoteD} {k : Int} {c1 c2 c3 : Value} (h : NoteAt w (.agg #[.int .i64 k, c1, c2, c3]) n) : ∃ a1 l1 k1 a2 l2 k2 a3 l3 k3, c1 = .slice a1 l1 k1 ∧ c2 = .slice a2 l2 k2 ∧ c3 = .slice a3 l3 k3 := by
  obtain ⟨d1, d2, d3, e1, g1, g2, g3⟩ := h
  simp only [Value.agg.injEq, Array.mk.injEq, List.cons.injEq, and_true] at e1
  obtain ⟨_, rfl, rfl, rfl⟩ := e1
  obtain ⟨_, _, _, rfl, _⟩ := g1
  obtain ⟨_, _, _, rfl, _⟩ := g2
  obtain ⟨_, ⟨_, _, _, rfl, _⟩, _⟩ := g3
  exact ⟨_, _, _, _, _, _, _, _, _, rfl, rfl, rfl⟩

/-- What Begin answers, and what it makes of the journal. -/
def BEnd (S : Nat → Prop) (b room : Nat) (ns : List NoteD) (s : Nat) (l : List NoteD) (e : Ending) (w' : World) : Prop :=
  (¬ (∀ n ∈ l, n.may) ∧ e = .returned (.int .i64 1) ∧ J S w' b room ns s) ∨
  ((∀ n ∈ l, n.may) ∧ room < (seals l).length ∧ e = .returned (.int .i64 40) ∧ J S w' b room ns s) ∨
  ((∀ n ∈ l, n.may) ∧ (seals l).length ≤ room ∧ e = .returned (.int .i64 0) ∧ J S w' b room l l.length)

/-- How far the notes are written: all so far, or not all of them since they had no room. -/
def Filled (room : Nat) (l : List NoteD) (i : Nat) (acc : List NoteD) (full : Bool) : Prop :=
  (full = false ∧ acc = l.take i) ∨ (full = true ∧ room < (seals (l.take i)).length)

set_option maxHeartbeats 4000000 in
set_option maxRecDepth 100000 in
theorem begin_any {S : Nat → Prop} {w : World} {b room : Nat} {ns : List NoteD} {s : Nat} (hJ : J S w b room ns s) (hS : Low S w) (vl : Value) (l : List NoteD) (hl : NotesAt w vl l) (hsa : ∀ n ∈ l, n.sane) :
    Calls Try.prog 21 #[.pointer (some ⟨b, 0, none⟩), vl] w fun e w' => Fr S w w' ∧ BEnd S b room ns s l e w' := by
  obtain ⟨hlen, ao, cap, rfl, hc⟩ := hl
  have HC := Hid.mk hc
  have HSA := Hid.mk hsa
  have HJ := Hid.mk hJ
  have HS := Hid.mk hS
  obtain ⟨hs0, vb, ve, h⟩ := hJ
  obtain ⟨⟨g0, g1, g2, g3, g4⟩, _⟩ := five_cells h.blk
  have hrm := h.room_le
  have C := Hid.mk (given_any b w g0)
  have hT : Low (fun k => k < w.heap.size) w := fun k hk => hk
  obtain ⟨T, hTd⟩ : ∃ T : Nat → Prop, T = fun k => k < w.heap.size := ⟨_, rfl⟩
  rw [← hTd] at hT
  have HT := Hid.mk hT
  have BEL : Hid (∀ w1, Fr T w w1 → Below w.heap.size w w1) := Hid.mk (fun w1 h => h.below (fun k hk => by rw [hTd]; exact hk))
  have SUB : Hid (∀ k, S k → T k) := Hid.mk (fun k hk => by rw [hTd]; exact hS k hk)
  clear h hc hsa hS hT hTd
  go_enter Try.func21, Try.ntmps21
  go_wp2_with fail
  refine C.out.mono ?_
  rintro e w0 ⟨rfl, hw⟩
  subst hw
  have CE := Hid.mk (empty_any room w0)
  go_wp2_with fail
  refine CE.out.mono ?_
  rintro e w1 ⟨rfl, hz, hb1⟩
  have J1 := Hid.mk (J.zero HT.out hz hrm)
  have F1 := Hid.mk (fr_below HT.out hb1)
  obtain ⟨p, hp⟩ : ∃ b, b = w0.heap.size := ⟨_, rfl⟩
  have HP := Hid.mk hp
  rw [← hp] at J1
  rw [← hp]
  clear hz hb1 C CE g0 g1 g2 g3 g4 hp
  go_wp2
  go_loopw [6, 19] (fun f c wr => ∃ (i : Nat) (acc : List NoteD) (full : Bool), f = .bool full ∧ c = .int .i64 i ∧ i ≤ l.length ∧ (∀ n ∈ l.take i, n.may) ∧ Filled room l i acc full ∧ J T wr p room acc 0 ∧ Fr T w0 wr) (fun _ c _ => l.length - (intOf c).toNat)
  case atStart => exact ⟨0, [], false, rfl, rfl, Nat.zero_le _, by simp, .inl ⟨rfl, rfl⟩, J1.out, F1.out⟩
  case round =>
    obtain ⟨i, acc, full, rfl, rfl, hil, hmay, hfil, hj, hf⟩ := hrel
    have JN := Hid.mk hj
    have FN := Hid.mk hf
    have HM := Hid.mk hmay
    have HFI := Hid.mk hfil
    clear hj hf hmay hfil J1 F1
    by_cases hlt : i < l.length
    · obtain ⟨n, hn⟩ : ∃ n, l[i]? = some n := ⟨_, List.getElem?_eq_getElem hlt⟩
      have hltI : (i : Int) < (l.length : Int) := by omega
      have hsane := Hid.mk (HSA.out n (List.mem_of_getElem? hn))
      have HN := Hid.mk hn
      have HTK : Hid (l.take (i + 1) = l.take i ++ [n]) := Hid.mk (by rw [List.take_add_one, hn, Option.toList_some])
      rcases HC.out with hnil | ⟨g, o, rfl, hlg, hc⟩
      · rw [hnil] at hn; simp at hn
      · obtain ⟨c1, c2, c3, p0, p1, p2, p3, pn⟩ := hc i n hn
        have key : ∀ j u, w0.cell? ⟨g, j, none⟩ = some u → wr.cell? ⟨g, j, none⟩ = some u := fun j u h2 => ((BEL.out _ FN.out).cell (p := ⟨g, j, none⟩) hlg).trans h2
        have r0 := key _ _ p0
        have r1 := key _ _ p1
        have r2 := key _ _ p2
        have r3 := key _ _ p3
        have PN := Hid.mk pn
        obtain ⟨y1, y2, y3, y4, y5, y6, y7, y8, y9, ec1, ec2, ec3⟩ := note_slices PN.out
        subst ec1 ec2 ec3
        clear hc hn p0 p1 p2 p3 pn key
        obtain ⟨W2, hW2⟩ : ∃ W, W = wr.alloc (.cells #[.int .i64 n.kind, .slice y1 y2 y3, .slice y4 y5 y6, .slice y7 y8 y9] 37) := ⟨_, rfl⟩
        have b2 : Below wr.heap.size wr W2 := by rw [hW2]; exact (Below.refl _ _).alloc (Nat.le_refl _) _
        have F2 := Hid.mk (FN.out.next HT.out b2)
        have CW := Hid.mk (write_any (JN.out.below b2) (HT.out.fr F2.out) _ n (PN.out.below (BEL.out _ F2.out)) hsane.out)
        have HW2 := Hid.mk hW2
        clear hW2 b2
        go_wp2_with fail
        rw [← HW2.out]
        refine CW.out.mono ?_
        rintro e w3 ⟨hf3, hw3⟩
        have F3 := Hid.mk (F2.out.trans hf3)
        clear hf3 CW HW2 F2 r0 r1 r2 r3 JN FN
        rcases hw3 with ⟨hno, rfl, _⟩ | ⟨hm3, hroom, rfl, hj3⟩ | ⟨hm3, hroom, rfl, hj3⟩
        · have HNO : Hid (¬ ∀ n ∈ l, n.may) := Hid.mk (fun h => hno (h n (List.mem_of_getElem? HN.out)))
          clear hno
          go_wp2
          go_ret
          exact ⟨F3.out.sub SUB.out, .inl ⟨HNO.out, rfl, HJ.out.below (BEL.out _ F3.out)⟩⟩
        · have J3 := Hid.mk hj3
          have HM3 : Hid (∀ m ∈ l.take (i + 1), m.may) := Hid.mk (by
            rw [HTK.out]
            intro m hm
            rcases List.mem_append.1 hm with hm | hm
            · exact HM.out m hm
            · rw [List.mem_singleton] at hm; rw [hm]; exact hm3)
          have HF3 : Hid (Filled room l (i + 1) acc true) := Hid.mk (.inr ⟨rfl, by
            rw [HTK.out, seals_snoc, List.length_append]
            rcases HFI.out with ⟨_, h1⟩ | ⟨_, h1⟩
            · rw [← h1]; exact hroom
            · omega⟩)
          clear hj3 hm3 hroom
          go_wp2
          go_roundw
          case rel => exact ⟨i + 1, acc, true, rfl, by go_num, by omega, HM3.out, HF3.out, J3.out, F3.out⟩
          case measure => simp [intOf]; omega
        · have J3 := Hid.mk hj3
          have HM3 : Hid (∀ m ∈ l.take (i + 1), m.may) := Hid.mk (by
            rw [HTK.out]
            intro m hm
            rcases List.mem_append.1 hm with hm | hm
            · exact HM.out m hm
            · rw [List.mem_singleton] at hm; rw [hm]; exact hm3)
          have HF3 : Hid (Filled room l (i + 1) (acc ++ [n]) full) := Hid.mk (by
            rcases HFI.out with ⟨h0, h1⟩ | ⟨h0, h1⟩
            · exact .inl ⟨h0, by rw [HTK.out, h1]⟩
            · refine .inr ⟨h0, ?_⟩
              rw [HTK.out, seals_snoc, List.length_append]; omega)
          clear hj3 hm3 hroom
          go_wp2
          go_roundw
          case rel => exact ⟨i + 1, acc ++ [n], full, rfl, by go_num, by omega, HM3.out, HF3.out, J3.out, F3.out⟩
          case measure => simp [intOf]; omega
    · have hall : l.take i = l := List.take_of_length_le (by omega)
      have hm := HM.out
      have hfi := HFI.out
      unfold Filled at hfi
      rw [hall] at hm hfi
      have HM2 := Hid.mk hm
      clear hm hall HM HFI
      obtain ⟨W3, hW3⟩ : ∃ W, W = wr := ⟨_, rfl⟩
      subst hW3
      rcases hfi with ⟨rfl, rfl⟩ | ⟨rfl, hroom⟩
      · obtain ⟨_, xb, xe, hx⟩ := JN.out
        obtain ⟨_, vb, ve, hy⟩ := HJ.out.below (BEL.out _ FN.out)
        obtain ⟨x1, x2, x3, x4, ex1, ex2⟩ := hx.slices
        subst ex1 ex2
        obtain ⟨⟨q0, q1, q2, q3, q4⟩, _⟩ := five_cells hx.blk
        obtain ⟨⟨g0, g1, g2, g3, g4⟩, ⟨f0, f1, f2, f3, f4⟩⟩ := five_cells hy.blk
        have HX := Hid.mk hx
        have HY := Hid.mk hy
        clear hx hy
        go_wp2_with fail
        go_region
        obtain ⟨W4, hW4⟩ : ∃ W, W = ((W3.setCell ⟨b, 2, none⟩ (.slice x1 (seals acc).length x2)).setCell ⟨b, 3, none⟩ (.slice x3 acc.length x4)).drew := ⟨_, rfl⟩
        have blk4 := five_set3 (v := .slice x3 acc.length x4) (five_set2 (v := .slice x1 (seals acc).length x2) HY.out.blk)
        have ob4 := owns_setAt (i := 3) (u := .slice x3 acc.length x4) (owns_setAt (i := 2) (u := .slice x1 (seals acc).length x2) HX.out.ob HY.out.blk (by decide)) (five_set2 (v := .slice x1 (seals acc).length x2) HY.out.blk) (by decide)
        have oe4 := owns_setAt (i := 3) (u := .slice x3 acc.length x4) (owns_setAt (i := 2) (u := .slice x1 (seals acc).length x2) HX.out.oe HY.out.blk (by decide)) (five_set2 (v := .slice x1 (seals acc).length x2) HY.out.blk) (by decide)
        have bd := (Below.refl ((W3.setCell ⟨b, 2, none⟩ (.slice x1 (seals acc).length x2)).setCell ⟨b, 3, none⟩ (.slice x3 acc.length x4)).heap.size ((W3.setCell ⟨b, 2, none⟩ (.slice x1 (seals acc).length x2)).setCell ⟨b, 3, none⟩ (.slice x3 acc.length x4))).drew
        have blk5 := (bd.block b (lt_of_block blk4)).trans blk4
        have ob5 := owns_below ob4 bd
        have oe5 := owns_below oe4 bd
        have F4 := Hid.mk (((((FN.out.sub SUB.out).setCell (i := 2) HY.out.out (.slice x1 (seals acc).length x2)).setCell (i := 3) HY.out.out (.slice x3 acc.length x4))).next HS.out bd)
        rw [← hW4] at blk5 ob5 oe5 F4 ⊢
        have CS := Hid.mk (sure_pre (S := S) blk5 HY.out.out ob5 (fun g hg hk => HX.out.outb g hg (SUB.out g hk)) oe5 (fun g hg hk => HX.out.oute g hg (SUB.out g hk)) HM2.out HX.out.fits hrm)
        have HFT := Hid.mk HX.out.fits
        clear blk4 ob4 oe4 bd blk5 ob5 oe5 hW4 HX HY JN FN g0 g1 g2 g3 g4 f0 f1 f2 f3 f4 q0 q1 q2 q3 q4
        go_wp2_with fail
        refine CS.out.mono ?_
        rintro e w5 ⟨rfl, hj5, hf5⟩
        have J5 := Hid.mk hj5
        have F5 := Hid.mk (F4.out.trans hf5)
        clear hj5 hf5 CS F4
        go_wp2
        go_ret
        exact ⟨F5.out, .inr (.inr ⟨HM2.out, HFT.out, rfl, J5.out⟩)⟩
      · have HRM := Hid.mk hroom
        clear hroom
        go_wp2
        go_ret
        exact ⟨FN.out.sub SUB.out, .inr (.inl ⟨HM2.out, HRM.out, rfl, HJ.out.below (BEL.out _ FN.out)⟩)⟩
end Go.Proofs.Ytnepednomejniaa

namespace Go.Proofs.Ytnepednomejniaa
open Go.RowKit

/-- A slice of notes of the world w0, in a block of S. -/
def NotesS (w0 : World) (S : Nat → Prop) (w : World) (v : Value) (ns : List NoteD) : Prop :=
  ∃ ao cap, v = .slice ao ns.length cap ∧ ns.length ≤ cap ∧ (ns = [] ∨ ∃ b cur fz, ao = some ⟨b, 0, none⟩ ∧ S b ∧ w.heap[b]? = some (.cells cur 37 fz) ∧ ∀ (j : Nat) n, ns[j]? = some n → ∃ c1 c2 c3,
    cur[j * 4]? = some (.int .i64 n.kind) ∧ cur[j * 4 + 1]? = some c1 ∧ cur[j * 4 + 2]? = some c2 ∧ cur[j * 4 + 3]? = some c3 ∧ NoteAt w0 (.agg #[.int .i64 n.kind, c1, c2, c3]) n)
/-- A slice of numbers, in a block of S. -/
def IntsS (S : Nat → Prop) (w : World) (v : Value) (xs : List Int) : Prop :=
  ∃ ao cap, v = .slice ao xs.length cap ∧ xs.length ≤ cap ∧ (xs = [] ∨ ∃ b cur fz, ao = some ⟨b, 0, none⟩ ∧ S b ∧ w.heap[b]? = some (.cells cur 3 fz) ∧ ∀ (j : Nat) x, xs[j]? = some x → cur[j]? = some (.int .i64 x))

theorem NotesS.keep {w0 : World} {S T : Nat → Prop} {w w' : World} {v : Value} {ns : List NoteD} (h : NotesS w0 S w v ns) (hk : ∀ k cur fz, S k → w.heap[k]? = some (.cells cur 37 fz) → T k ∧ w'.heap[k]? = some (.cells cur 37 fz)) : NotesS w0 T w' v ns := by
  obtain ⟨ao, cap, e1, e2, h3⟩ := h
  refine ⟨ao, cap, e1, e2, ?_⟩
  rcases h3 with h3 | ⟨b, cur, fz, a1, a2, a3, a4⟩
  · exact .inl h3
  · obtain ⟨k1, k2⟩ := hk b cur fz a2 a3
    exact .inr ⟨b, cur, fz, a1, k1, k2, a4⟩
theorem IntsS.keep {S T : Nat → Prop} {w w' : World} {v : Value} {xs : List Int} (h : IntsS S w v xs) (hk : ∀ k cur fz, S k → w.heap[k]? = some (.cells cur 3 fz) → T k ∧ w'.heap[k]? = some (.cells cur 3 fz)) : IntsS T w' v xs := by
  obtain ⟨ao, cap, e1, e2, h3⟩ := h
  refine ⟨ao, cap, e1, e2, ?_⟩
  rcases h3 with h3 | ⟨b, cur, fz, a1, a2, a3, a4⟩
  · exact .inl h3
  · obtain ⟨k1, k2⟩ := hk b cur fz a2 a3
    exact .inr ⟨b, cur, fz, a1, k1, k2, a4⟩
theorem NotesS.at_ {w0 : World} {S : Nat → Prop} {w : World} {v : Value} {ns : List NoteD} (h : NotesS w0 S w v ns) (hb : Below w0.heap.size w0 w) (hl : ns.length ≤ 9223372036854775807) : NotesAt w v ns := by
  obtain ⟨ao, cap, e1, _, h3⟩ := h
  refine ⟨hl, ao, cap, e1, ?_⟩
  rcases h3 with h3 | ⟨b, cur, fz, a1, _, a3, a4⟩
  · exact .inl h3
  · refine .inr ⟨b, 0, a1, lt_of_block a3, fun j n hn => ?_⟩
    obtain ⟨c1, c2, c3, b0, b1, b2, b3, b4⟩ := a4 j n hn
    simp only [Nat.zero_add]
    have key : ∀ i u, cur[i]? = some u → w.cell? ⟨b, i, none⟩ = some u := fun i u hi => by simp only [World.cell?, a3]; exact hi
    exact ⟨c1, c2, c3, key _ _ b0, key _ _ b1, key _ _ b2, key _ _ b3, b4.below hb⟩
theorem IntsS.at_ {S : Nat → Prop} {w : World} {v : Value} {xs : List Int} (h : IntsS S w v xs) (hl : xs.length ≤ 9223372036854775807) : IntsAt w v xs := by
  obtain ⟨ao, cap, e1, _, h3⟩ := h
  refine ⟨by rw [intCs_len]; exact hl, ao, cap, by rw [intCs_len]; exact e1, ?_⟩
  rcases h3 with h3 | ⟨b, cur, fz, a1, _, a3, a4⟩
  · left; rw [h3]; rfl
  · refine .inr ⟨b, 0, a1, lt_of_block a3, fun j x hx => ?_⟩
    rw [intCs, List.getElem?_map] at hx
    obtain ⟨y, hy, rfl⟩ := Option.map_eq_some_iff.1 hx
    rw [Nat.zero_add]
    simp only [World.cell?, a3]
    exact a4 j y hy

/-- The document's journal, as a value. -/
abbrev qV (room sure : Nat) (vn ve : Value) : Value := .agg #[.int .i64 room, .int .i64 sure, vn, ve]
/-- It holds the notes ns. -/
structure QAt (w0 : World) (S : Nat → Prop) (w : World) (vn ve : Value) (ns : List NoteD) : Prop where
  notes : NotesS w0 S w vn ns
  ends : IntsS S w ve (endsOf ns)
theorem QAt.keep {w0 : World} {S T : Nat → Prop} {w w' : World} {vn ve : Value} {ns : List NoteD} (h : QAt w0 S w vn ve ns) (hk : ∀ k o, S k → w.heap[k]? = some o → T k ∧ w'.heap[k]? = some o) : QAt w0 T w' vn ve ns :=
  ⟨h.notes.keep (fun k _ _ h1 h2 => hk k _ h1 h2), h.ends.keep (fun k _ _ h1 h2 => hk k _ h1 h2)⟩
theorem QAt.fr {w0 : World} {S : Nat → Prop} {w w' : World} {vn ve : Value} {ns : List NoteD} (h : QAt w0 S w vn ve ns) (hf : Fr S w w') : QAt w0 S w' vn ve ns :=
  h.keep (fun k _ h1 h2 => ⟨h1, (hf.block k h1).trans h2⟩)
theorem QAt.below {w0 : World} {S : Nat → Prop} {w w' : World} {vn ve : Value} {ns : List NoteD} (h : QAt w0 S w vn ve ns) (hb : Below w.heap.size w w') : QAt w0 S w' vn ve ns :=
  h.keep (fun k _ h1 h2 => ⟨h1, (hb.block k (lt_of_block h2)).trans h2⟩)
theorem QAt.slices {w0 : World} {S : Nat → Prop} {w : World} {vn ve : Value} {ns : List NoteD} (h : QAt w0 S w vn ve ns) : ∃ a1 c1 a2 c2, vn = .slice a1 ns.length c1 ∧ ve = .slice a2 ns.length c2 ∧ ns.length ≤ c1 ∧ ns.length ≤ c2 := by
  obtain ⟨a1, c1, e1, l1, _⟩ := h.notes
  obtain ⟨a2, c2, e2, l2, _⟩ := h.ends
  rw [endsOf_len] at e2 l2
  exact ⟨a1, c1, a2, c2, e1, e2, l1, l2⟩
theorem QAt.nil (w0 : World) (S : Nat → Prop) (w : World) : QAt w0 S w (.slice none 0 0) (.slice none 0 0) [] :=
  ⟨⟨none, 0, rfl, Nat.le_refl _, .inl rfl⟩, ⟨none, 0, rfl, Nat.le_refl _, .inl rfl⟩⟩

set_option maxRecDepth 100000 in
theorem rBytes_any {w0 : World} {S : Nat → Prop} {w : World} {vn ve : Value} {ns : List NoteD} (h : QAt w0 S w vn ve ns) (room sure : Nat) (hn : ns.length ≤ 8388608) :
    Calls Try.prog 17 #[qV room sure vn ve] w fun e w' => e = .returned (.int .i64 ((seals ns).length : Int)) ∧ Below w.heap.size w w' := by
  have bel : Below w.heap.size w (w.alloc (.cells #[.int .i64 room, .int .i64 sure, vn, ve] 30)) := (Below.refl _ _).alloc (Nat.le_refl _) _
  have hv := (h.ends.at_ (by rw [endsOf_len]; omega)).below bel
  have HB := Hid.mk bel
  obtain ⟨_, ao, cap, rfl, hcs⟩ := hv.parts
  have hlen := endsOf_len ns
  clear bel hv h
  by_cases h0 : ns.length = 0
  · have he : ns = [] := List.length_eq_zero_iff.1 h0
    subst he
    have hl0 : (endsOf []).length = 0 := rfl
    rw [hl0] at HB ⊢
    clear hcs
    go_enter Try.func17, Try.ntmps17
    go_wp2
    go_ret
    exact ⟨rfl, HB.out⟩
  · obtain ⟨k, hk⟩ : ∃ k, ns.length = k + 1 := ⟨ns.length - 1, by omega⟩
    have hx := endsOf_at ns k (by omega)
    rw [← hk, List.take_of_length_le (Nat.le_refl _)] at hx
    rw [hlen, hk] at HB ⊢
    rcases hcs with hnil | ⟨g, o, rfl, hl, hcs⟩
    · rw [hnil] at hx; simp at hx
    · have hcx := hcs k _ hx
      rw [hlen, hk] at hcx
      obtain ⟨X, hX⟩ : ∃ X, X = (seals ns).length := ⟨_, rfl⟩
      rw [← hX] at hcx ⊢
      have hk2 : k ≤ 8388608 := by omega
      clear hcs hx hlen hk hX h0 hn
      go_enter Try.func17, Try.ntmps17
      go_wp2
      go_ret
      exact ⟨rfl, HB.out⟩

set_option maxRecDepth 100000 in
theorem rNew_any (room : Int) (w : World) :
    Calls Try.prog 10 #[.int .i64 room] w fun e w' => Below w.heap.size w w' ∧
      ((¬ RoomOk room ∧ e = .returned (.tuple #[.agg #[.int .i64 0, .int .i64 0, .slice none 0 0, .slice none 0 0], .int .i64 1])) ∨
       (RoomOk room ∧ e = .returned (.tuple #[.agg #[.int .i64 room, .int .i64 0, .slice none 0 0, .slice none 0 0], .int .i64 0]))) := by
  have bel : ∀ o, Below w.heap.size w (w.alloc o) := fun o => (Below.refl _ _).alloc (Nat.le_refl _) _
  have HB := Hid.mk bel
  clear bel
  by_cases h1 : room < 1
  · have hno : Hid (¬ RoomOk room) := Hid.mk (fun h => by have := h.1; omega)
    go_enter Try.func10, Try.ntmps10
    go_wp2
    refine bodyPost_ret (v := .tuple #[.agg #[.int .i64 0, .int .i64 0, .slice none 0 0, .slice none 0 0], .int .i64 1]) ?_ rfl ⟨HB.out _, .inl ⟨hno.out, rfl⟩⟩
    simp [results, Try.results10, go_sem]
  · by_cases h2 : 67108864 < room
    · have hno : Hid (¬ RoomOk room) := Hid.mk (fun h => by have := h.2; omega)
      go_enter Try.func10, Try.ntmps10
      go_wp2
      refine bodyPost_ret (v := .tuple #[.agg #[.int .i64 0, .int .i64 0, .slice none 0 0, .slice none 0 0], .int .i64 1]) ?_ rfl ⟨HB.out _, .inl ⟨hno.out, rfl⟩⟩
      simp [results, Try.results10, go_sem]
    · have hok : Hid (RoomOk room) := Hid.mk ⟨by omega, by omega⟩
      go_enter Try.func10, Try.ntmps10
      go_wp2
      refine bodyPost_ret (v := .tuple #[.agg #[.int .i64 room, .int .i64 0, .slice none 0 0, .slice none 0 0], .int .i64 0]) ?_ rfl ⟨HB.out _, .inr ⟨hok.out, rfl⟩⟩
      simp [results, Try.results10, go_sem]

set_option maxHeartbeats 1000000 in
set_option maxRecDepth 100000 in
theorem rSure_any {w0 : World} {S : Nat → Prop} {w : World} {vn ve : Value} {ns : List NoteD} (h : QAt w0 S w vn ve ns) (room sure : Nat) (hn : ns.length ≤ 8388608) :
    Calls Try.prog 24 #[qV room sure vn ve] w fun e w' => e = .returned (qV room (seals ns).length vn ve) ∧ Below w.heap.size w w' := by
  obtain ⟨t0, t1, t2⟩ := two_blocks w (.cells #[.int .i64 room, .int .i64 sure, vn, ve] 30) (.cells #[.int .i64 0, .int .i64 0, .slice none 0 0, .slice none 0 0] 30)
  obtain ⟨W0, hW0⟩ : ∃ W0, W0 = (w.alloc (.cells #[.int .i64 room, .int .i64 sure, vn, ve] 30)).alloc (.cells #[.int .i64 0, .int .i64 0, .slice none 0 0, .slice none 0 0] 30) := ⟨_, rfl⟩
  rw [← hW0] at t0 t1 t2
  have C := Hid.mk (rBytes_any (h.below t2) room sure hn)
  obtain ⟨a1, c1, a2, c2, rfl, rfl, _, _⟩ := h.slices
  have T0 := Hid.mk t0
  have T1 := Hid.mk t1
  have T2 := Hid.mk t2
  have HW0 := Hid.mk hW0
  obtain ⟨X, hX⟩ : ∃ X, X = (seals ns).length := ⟨_, rfl⟩
  rw [← hX] at C ⊢
  obtain ⟨⟨r0, r1, r2, r3⟩, _⟩ := four_cells t0
  clear hX h t0 t1 t2 hW0
  go_enter Try.func24, Try.ntmps24
  go_wp2_with fail
  rw [← HW0.out]
  go_wp2_with fail
  refine C.out.mono ?_
  rintro e w1 ⟨rfl, hb1⟩
  have e0 := (hb1.block _ (lt_of_block T0.out)).trans T0.out
  have e1 := (hb1.block _ (lt_of_block T1.out)).trans T1.out
  have B1 := Hid.mk (T2.out.trans (hb1.mono T2.out.size))
  clear r0 r1 r2 r3
  obtain ⟨⟨r0, r1, r2, r3⟩, ⟨f0, f1, f2, f3⟩⟩ := four_cells e0
  obtain ⟨⟨k0, k1, k2, k3⟩, ⟨j0, j1, j2, j3⟩⟩ := four_cells e1
  have e2 := four_set1 (v := .int .i64 (X : Int)) e0
  have e3 : (w1.setCell ⟨w.heap.size, 1, none⟩ (.int .i64 (X : Int))).heap[w.heap.size + 1]? = _ := (Below.heap_setCell w1 ⟨w.heap.size, 1, none⟩ (.int .i64 (X : Int)) (w.heap.size + 1) (by simp)).trans e1
  obtain ⟨⟨p0, p1, p2, p3⟩, ⟨q0, q1, q2, q3⟩⟩ := four_cells e2
  obtain ⟨⟨m0, m1, m2, m3⟩, ⟨n0, n1, n2, n3⟩⟩ := four_cells e3
  obtain ⟨⟨z0, z1, z2, z3⟩, _⟩ := four_cells (set4_block e3 (.int .i64 room) (.int .i64 (X : Int)) (.slice a1 ns.length c1) (.slice a2 ns.length c2))
  have Z0 := Hid.mk z0
  have Z1 := Hid.mk z1
  have Z2 := Hid.mk z2
  have Z3 := Hid.mk z3
  have BF := Hid.mk (set4_below (b := w.heap.size + 1) (B1.out.setCell (p := ⟨w.heap.size, 1, none⟩) (Nat.le_refl _) (.int .i64 (X : Int))) (by omega) (.int .i64 room) (.int .i64 (X : Int)) (.slice a1 ns.length c1) (.slice a2 ns.length c2))
  clear z0 z1 z2 z3 hb1 e0 e1 e2 e3
  go_wp2
  refine bodyPost_ret (v := qV room X (.slice a1 ns.length c1) (.slice a2 ns.length c2)) ?_ rfl ⟨rfl, BF.out⟩
  simp [results, Try.results24, go_sem, Z0.out, Z1.out, Z2.out, Z3.out]
end Go.Proofs.Ytnepednomejniaa

namespace Go.Proofs.Ytnepednomejniaa
open Go.RowKit

/-- The cells are those of notes of the world w0. -/
def CellsOf (w0 : World) (cs : List Value) (ns : List NoteD) : Prop :=
  ∀ (j : Nat) n, ns[j]? = some n → ∃ c1 c2 c3, cs[j * 4]? = some (.int .i64 n.kind) ∧ cs[j * 4 + 1]? = some c1 ∧ cs[j * 4 + 2]? = some c2 ∧ cs[j * 4 + 3]? = some c3 ∧ NoteAt w0 (.agg #[.int .i64 n.kind, c1, c2, c3]) n

/-- 'append(nil, notes...)'. -/
theorem run_copy_notes {w0 : World} {S : Nat → Prop} {w : World} {v : Value} {ns : List NoteD} (h : NotesS w0 S w v ns) (hl : ns.length ≤ 8388608) (ty : TypeId) :
    ∃ v' w' cs, (Builtin.append_ #[27, 27] ty #[.slice none 0 0, v]).run Try.prog w = .ok v' w' ∧ w'.ownsRow w.heap.size 37 4 v' ns.length cs ∧
      CellsOf w0 cs ns ∧ Below w.heap.size w w' := by
  obtain ⟨i0, hi, hz0, hz1, hz2⟩ := info_parts infoNote
  obtain ⟨ao, cap, rfl, hcap, h3⟩ := h
  by_cases h0 : ns = []
  · subst h0
    refine ⟨.slice none 0 0, w, [], ?_, ⟨rfl, .inl ⟨rfl, rfl⟩⟩, by intro j n hn; simp at hn, Below.refl _ _⟩
    cases ao <;> simp [Builtin.append_, run_underlying Try.underlying27, sizeOf, typeInfo, hi, Builtin.lenOf, Builtin.firstCells, loadCells, loadCellsFrom]
  · rcases h3 with h3 | ⟨b, cur, fz, rfl, _, a3, a4⟩
    · exact absurd h3 h0
    · have hpos : 0 < ns.length := List.length_pos_iff.2 h0
      have hsz : ns.length * 4 ≤ cur.size := by
        obtain ⟨_, _, _, _, _, _, c3, _⟩ := a4 (ns.length - 1) _ (List.getElem?_eq_getElem (by omega))
        have := (Array.getElem?_eq_some_iff.1 c3).1
        omega
      have hnl : (cur.toList.take (ns.length * 4)).length = ns.length * 4 := by
        have e : cur.toList.length = cur.size := Array.length_toList
        rw [List.length_take, e]; omega
      have hget : ∀ i, i < ns.length * 4 → (cur.toList.take (ns.length * 4))[i]? = cur[i]? := fun i hi2 => by
        rw [List.getElem?_take, if_pos hi2, Array.getElem?_toList]
      obtain ⟨v', w', hr, h5, h6, _, h7⟩ := run_append_own_at (P := Try.prog) w w.heap.size 27 ty 37 i0 _ 4 80 Try.underlying27 hi hz0 hz1 hz2 rfl (by decide) (.slice none 0 0) 0 [] (World.ownsRow_nil _ _ _ _) ⟨b, 0, none⟩ ns.length cap (cur.toList.take (ns.length * 4)) hnl
        (fun j u hu => by
          have hj : j < ns.length * 4 := by have := (List.getElem?_eq_some_iff.1 hu).1; omega
          rw [hget j hj] at hu
          rw [show (⟨b, 0, none⟩ : Addr).add j = ⟨b, j, none⟩ from by cases j <;> simp [Addr.add]]
          simp only [World.cell?, a3]
          exact hu)
        (fun u hu => by
          obtain ⟨i, hi2⟩ := List.mem_iff_getElem?.1 hu
          have hj : i < ns.length * 4 := by have := (List.getElem?_eq_some_iff.1 hi2).1; omega
          rw [hget i hj] at hi2
          obtain ⟨c1, c2, c3, b0, b1, b2, b3, b4⟩ := a4 (i / 4) _ (List.getElem?_eq_getElem (by omega))
          obtain ⟨_, _, _, _, _, _, _, _, _, rfl, rfl, rfl⟩ := note_slices b4
          have hm : i = i / 4 * 4 ∨ i = i / 4 * 4 + 1 ∨ i = i / 4 * 4 + 2 ∨ i = i / 4 * 4 + 3 := by omega
          rcases hm with hm | hm | hm | hm
          · rw [hm, b0] at hi2; rw [← Option.some.inj hi2]; rfl
          · rw [hm, b1] at hi2; rw [← Option.some.inj hi2]; rfl
          · rw [hm, b2] at hi2; rw [← Option.some.inj hi2]; rfl
          · rw [hm, b3] at hi2; rw [← Option.some.inj hi2]; rfl)
        (by unfold maxLen; omega) (by omega) (Nat.le_refl _)
      rw [Nat.zero_add, List.nil_append] at h5
      refine ⟨v', w', _, hr, h5, fun j n hn => ?_, (Below.refl _ _).grown h6 (Nat.le_refl _) (by simp [Value.ownBlock])⟩
      have hj : j < ns.length := (List.getElem?_eq_some_iff.1 hn).1
      obtain ⟨c1, c2, c3, b0, b1, b2, b3, b4⟩ := a4 j n hn
      exact ⟨c1, c2, c3, by rw [hget _ (by omega)]; exact b0, by rw [hget _ (by omega)]; exact b1, by rw [hget _ (by omega)]; exact b2, by rw [hget _ (by omega)]; exact b3, b4⟩

/-- 'append(nil, numbers...)'. -/
theorem run_copy_ints {S : Nat → Prop} {w : World} {v : Value} {xs : List Int} (h : IntsS S w v xs) (hl : xs.length ≤ 8388608) (ty : TypeId) :
    ∃ v' w', (Builtin.append_ #[28, 28] ty #[.slice none 0 0, v]).run Try.prog w = .ok v' w' ∧ w'.ownsRow w.heap.size 3 1 v' xs.length (intCs xs) ∧ Below w.heap.size w w' := by
  obtain ⟨i0, hi, hz0, hz1, hz2⟩ := info_parts infoInt
  obtain ⟨ao, cap, rfl, hcap, h3⟩ := h
  by_cases h0 : xs = []
  · subst h0
    refine ⟨.slice none 0 0, w, ?_, ⟨rfl, .inl ⟨rfl, rfl⟩⟩, Below.refl _ _⟩
    cases ao <;> simp [Builtin.append_, run_underlying Try.underlying28, sizeOf, typeInfo, hi, Builtin.lenOf, Builtin.firstCells, loadCells, loadCellsFrom]
  · rcases h3 with h3 | ⟨b, cur, fz, rfl, _, a3, a4⟩
    · exact absurd h3 h0
    · obtain ⟨v', w', hr, h5, h6, _, h7⟩ := run_append_own_at (P := Try.prog) w w.heap.size 28 ty 3 i0 _ 1 8 Try.underlying28 hi hz0 hz1 hz2 rfl (by decide) (.slice none 0 0) 0 [] (World.ownsRow_nil _ _ _ _) ⟨b, 0, none⟩ xs.length cap (intCs xs) (by rw [intCs_len, Nat.mul_one])
        (fun j u hu => by
          rw [intCs, List.getElem?_map] at hu
          obtain ⟨y, hy, rfl⟩ := Option.map_eq_some_iff.1 hu
          rw [show (⟨b, 0, none⟩ : Addr).add j = ⟨b, j, none⟩ from by cases j <;> simp [Addr.add]]
          simp only [World.cell?, a3]
          exact a4 j y hy)
        (fun u hu => by
          obtain ⟨y, _, rfl⟩ := List.mem_map.1 hu
          rfl)
        (by unfold maxLen; omega) (by omega) (Nat.le_refl _)
      rw [Nat.zero_add, List.nil_append] at h5
      exact ⟨v', w', hr, h5, (Below.refl _ _).grown h6 (Nat.le_refl _) (by simp [Value.ownBlock])⟩

/-- The operations, for a walk. -/
theorem wpList_copy_notes {w0 : World} {S : Nat → Prop} {w : World} {ops : Array Oper} {rest : List Oper} {o : Oper} {a : Act} {Q : Exit → Act → World → Prop} (hgd : o.guard = none) (sl x : Operand)
    (ho : o.op = .call { callee := .builtin .append, args := #[sl, x], argTypes := #[27, 27] })
    (v : Value) (ns : List NoteD) (hs : a.eval sl = .slice none 0 0) (hx : a.eval x = v) (hn : NotesS w0 S w v ns) (hl : ns.length ≤ 8388608)
    (h : ∀ v' w' cs, w'.ownsRow w.heap.size 37 4 v' ns.length cs →
      CellsOf w0 cs ns → Below w.heap.size w w' → wpList Try.prog ops Q rest (a.put o.dst v') w') : wpList Try.prog ops Q (o :: rest) a w := by
  refine wpList_plain hgd fun K hK => ?_
  obtain ⟨v', w', cs, hr, h2, h3, h4⟩ := run_copy_notes hn hl o.type
  unfold Oper.wp execOp
  simp only [ho, resolve, invoke, builtin, Sem.run_bind, Sem.run_pure, Result.andThen_ok, List.map_toArray, List.map_cons, List.map_nil, hs, hx, hr]
  exact hK _ _ (h v' w' cs h2 h3 h4)
theorem wpList_copy_ints {S : Nat → Prop} {w : World} {ops : Array Oper} {rest : List Oper} {o : Oper} {a : Act} {Q : Exit → Act → World → Prop} (hgd : o.guard = none) (sl x : Operand)
    (ho : o.op = .call { callee := .builtin .append, args := #[sl, x], argTypes := #[28, 28] })
    (v : Value) (xs : List Int) (hs : a.eval sl = .slice none 0 0) (hx : a.eval x = v) (hn : IntsS S w v xs) (hl : xs.length ≤ 8388608)
    (h : ∀ v' w', w'.ownsRow w.heap.size 3 1 v' xs.length (intCs xs) → Below w.heap.size w w' → wpList Try.prog ops Q rest (a.put o.dst v') w') : wpList Try.prog ops Q (o :: rest) a w := by
  refine wpList_plain hgd fun K hK => ?_
  obtain ⟨v', w', hr, h2, h4⟩ := run_copy_ints hn hl o.type
  unfold Oper.wp execOp
  simp only [ho, resolve, invoke, builtin, Sem.run_bind, Sem.run_pure, Result.andThen_ok, List.map_toArray, List.map_cons, List.map_nil, hs, hx, hr]
  exact hK _ _ (h v' w' h2 h4)

theorem goodRow_S {w0 : World} {S : Nat → Prop} {w : World} {v : Value} {ns : List NoteD} (h : GoodRow w0 w v ns) (hS : ∀ g, v.ownBlock = some g → S g) : NotesS w0 S w v ns := by
  obtain ⟨cs, h1, h2⟩ := h
  rcases h1.2 with ⟨rfl, h0⟩ | ⟨g, cap, cur, rfl, e2, e3, e4, e5, e6, e7⟩
  · exact ⟨none, 0, by rw [h0], by omega, .inl (List.length_eq_zero_iff.1 h0)⟩
  · refine ⟨some ⟨g, 0, none⟩, cap, rfl, e4, .inr ⟨g, cur, (0, 0), rfl, hS g rfl, e3, fun j n hn => ?_⟩⟩
    obtain ⟨c1, c2, c3, a0, a1, a2, a3, a4⟩ := h2 j n hn
    have key : ∀ i u, cs[i]? = some u → cur[i]? = some u := fun i u hi => by
      rw [← e7, List.getElem?_take] at hi
      split at hi
      · rwa [Array.getElem?_toList] at hi
      · simp at hi
    exact ⟨c1, c2, c3, key _ _ a0, key _ _ a1, key _ _ a2, key _ _ a3, a4⟩
theorem ints_S {S : Nat → Prop} {w : World} {B : Nat} {v : Value} {xs : List Int} (h : w.ownsRow B 3 1 v xs.length (intCs xs)) (hS : ∀ g, v.ownBlock = some g → S g) : IntsS S w v xs := by
  rcases h.2 with ⟨rfl, h0⟩ | ⟨g, cap, cur, rfl, e2, e3, e4, e5, e6, e7⟩
  · exact ⟨none, 0, by rw [h0], by omega, .inl (List.length_eq_zero_iff.1 h0)⟩
  · refine ⟨some ⟨g, 0, none⟩, cap, rfl, e4, .inr ⟨g, cur, (0, 0), rfl, hS g rfl, e3, fun j x hx => ?_⟩⟩
    have hi : (intCs xs)[j]? = some (.int .i64 x) := by rw [intCs, List.getElem?_map, hx]; rfl
    rw [← e7, List.getElem?_take] at hi
    split at hi
    · rwa [Array.getElem?_toList] at hi
    · simp at hi
end Go.Proofs.Ytnepednomejniaa
