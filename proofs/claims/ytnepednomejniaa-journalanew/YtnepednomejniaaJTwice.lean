/- Notes that a call has made are kept where their blocks are; the statement that a second failure changes nothing. -/
import Derived.Test.YtnepednomejniaaJAwake
namespace Go.Proofs.Ytnepednomejniaa
open Go.RowKit

theorem owns_kept {w w' : World} {B n : Nat} {e : TypeId} {size : Nat} {v : Value} {xs : List Value} (h : w.ownsRow B e size v n xs) (hk : ∀ g, B ≤ g → g < w.heap.size → w'.heap[g]? = w.heap[g]?) : w'.ownsRow B e size v n xs := by
  refine ⟨h.1, ?_⟩
  rcases h.2 with h0 | ⟨g, cap, cur, e1, e2, e3, e4⟩
  · exact .inl h0
  · exact .inr ⟨g, cap, cur, e1, e2, (hk g e2 (lt_of_block e3)).trans e3, e4⟩
theorem NoteOwn.held {w w' : World} {B : Nat} {v : Value} {n : NoteD} (h : NoteOwn w B v n) (hk : ∀ g, B ≤ g → g < w.heap.size → w'.heap[g]? = w.heap[g]?) : NoteOwn w' B v n := by
  obtain ⟨vn, vt, vr, e, h1, h2, ⟨vs, h3, h4, h5⟩, b⟩ := h
  exact ⟨vn, vt, vr, e, h1.kept (fun g cur fz hB hg => (hk g hB (lt_of_block hg)).trans hg), owns_kept h2 hk, ⟨vs, owns_kept h3 hk, h4, fun j x r hx hr => owns_kept (h5 j x r hx hr) hk⟩, b⟩
theorem NotesOwn.held {w w' : World} {B : Nat} {v : Value} {ns : List NoteD} (h : NotesOwn w B v ns) (hk : ∀ g, B ≤ g → g < w.heap.size → w'.heap[g]? = w.heap[g]?) : NotesOwn w' B v ns := by
  obtain ⟨cs, h1, h2⟩ := h
  refine ⟨cs, owns_kept h1 hk, fun j n hn => ?_⟩
  obtain ⟨c1, c2, c3, a0, a1, a2, a3, a4⟩ := h2 j n hn
  exact ⟨c1, c2, c3, a0, a1, a2, a3, a4.held hk⟩

/-- The blocks of S, and those from lo on below hi. -/
def Plus (S : Nat → Prop) (lo hi : Nat) : Nat → Prop := fun k => S k ∨ (lo ≤ k ∧ k < hi)
theorem Low.plus {S : Nat → Prop} {w w' : World} (h : Low S w) (hs : w.heap.size ≤ w'.heap.size) : Low (Plus S w.heap.size w'.heap.size) w' := fun k hk => by
  rcases hk with hk | hk
  · exact Nat.lt_of_lt_of_le (h k hk) hs
  · exact hk.2
theorem J.plus {S : Nat → Prop} {w w' : World} {b room : Nat} {ns : List NoteD} {s : Nat} (h : J S w b room ns s) (hb : Below w.heap.size w w') : J (Plus S w.heap.size w'.heap.size) w' b room ns s :=
  (h.more (T := Plus S w.heap.size w'.heap.size) (fun _ hk => hk.elim .inl (fun h1 => .inr h1.1))).below hb
theorem Fr.minus {S : Nat → Prop} {lo hi : Nat} {w w' : World} (h : Fr (Plus S lo hi) w w') : Fr S w w' := h.sub (fun _ hk => .inl hk)
theorem NotesOwn.plus {S : Nat → Prop} {w w' : World} {B : Nat} {v : Value} {ns : List NoteD} (h : NotesOwn w B v ns) (hf : Fr (Plus S B w.heap.size) w w') : NotesOwn w' B v ns :=
  h.held (fun g h1 h2 => hf.block g (.inr ⟨h1, h2⟩))
theorem J.count {S : Nat → Prop} {w : World} {b room : Nat} {ns : List NoteD} {s : Nat} (h : J S w b room ns s) : ns.length ≤ 8388608 := by
  have h1 := seals_count h.may
  have h2 := h.fits
  omega

set_option maxHeartbeats 4000000 in
set_option maxRecDepth 100000 in
theorem journalTwice_walk (vs : Value) (notes : List NoteD) (a b : Int) (w : World) (hv : NotesAt w vs notes) (hsa : ∀ n ∈ notes, n.sane) (_ : (Lit.int .i64 a).wf = true) (_ : (Lit.int .i64 b).wf = true) :
    Calls Try.prog 8 #[vs, .int .i64 a, .int .i64 b] w fun e w' => e = .returned (.bool true) ∧ Below w.heap.size w w' := by
  obtain ⟨hlen, ao, cap, rfl, hc⟩ := hv
  have HC := Hid.mk hc
  have HSA := Hid.mk hsa
  clear hc hsa
  have hS : Low (fun k => k < w.heap.size) w := fun k hk => hk
  obtain ⟨S, hSd⟩ : ∃ S : Nat → Prop, S = fun k => k < w.heap.size := ⟨_, rfl⟩
  rw [← hSd] at hS
  have HS := Hid.mk hS
  have BEL : Hid (∀ w1, Fr S w w1 → Below w.heap.size w w1) := Hid.mk (fun w1 h => h.below (fun k hk => by rw [hSd]; exact hk))
  have AWAKE : Hid (∀ wr, Fr S w wr → Calls Try.prog 11 #[] wr fun e w' => e = .returned (.bool true) ∧ Below w.heap.size w w') := Hid.mk (fun wr h => (jawake_any wr).mono fun e w' ⟨h1, h2⟩ => ⟨h1, BEL.out _ (h.next HS.out h2)⟩)
  clear hS hSd
  go_enter Try.func8, Try.ntmps8
  go_wp2_with fail
  refine (new_any 1048576 w).mono ?_
  rintro e w1 ⟨hb1, ⟨hno, _⟩ | ⟨_, rfl, hz⟩⟩
  · exact absurd ⟨by decide, by decide⟩ hno
  · have J1 := Hid.mk (J.zero HS.out hz (by decide))
    have F1 := Hid.mk (fr_below HS.out hb1)
    clear hz hb1
    obtain ⟨p, hp⟩ : ∃ b, b = w.heap.size := ⟨_, rfl⟩
    obtain ⟨R, hR⟩ : ∃ R, R = Int.toNat 1048576 := ⟨_, rfl⟩
    rw [← hp, ← hR] at J1
    rw [← hp]
    clear hp hR
    go_wp2
    go_loopw [9] (fun c wr => ∃ (i : Nat) (ns : List NoteD), c = .int .i64 i ∧ i ≤ 20 ∧ i ≤ notes.length ∧ J S wr p R ns 0 ∧ Fr S w wr) (fun c _ => 20 - (intOf c).toNat)
    case atStart => exact ⟨0, [], rfl, Nat.zero_le _, Nat.zero_le _, J1.out, F1.out⟩
    case round =>
      obtain ⟨i, ns, rfl, hi20, hin, hj, hf⟩ := hrel
      have HJ := Hid.mk hj
      have HF := Hid.mk hf
      clear hj hf J1 F1
      by_cases hlt : i < notes.length ∧ i < 20
      · obtain ⟨hlt, hlt20⟩ := hlt
        obtain ⟨n, hn⟩ : ∃ n, notes[i]? = some n := ⟨_, List.getElem?_eq_getElem hlt⟩
        have hltI : (i : Int) < (notes.length : Int) := by omega
        have hlt20I : (i : Int) < 20 := by omega
        have hsane := Hid.mk (HSA.out n (List.mem_of_getElem? hn))
        rcases HC.out with hnil | ⟨g, o, rfl, hl, hc⟩
        · rw [hnil] at hn; simp at hn
        · obtain ⟨c1, c2, c3, p0, p1, p2, p3, pn⟩ := hc i n hn
          have CELLS : Hid (∀ w1, Below w.heap.size w w1 → w1.cell? ⟨g, o + i * 4, none⟩ = some (.int .i64 n.kind) ∧ w1.cell? ⟨g, o + i * 4 + 1, none⟩ = some c1 ∧ w1.cell? ⟨g, o + i * 4 + 2, none⟩ = some c2 ∧ w1.cell? ⟨g, o + i * 4 + 3, none⟩ = some c3) := Hid.mk (fun w1 h => by
            have key : ∀ j u, w.cell? ⟨g, j, none⟩ = some u → w1.cell? ⟨g, j, none⟩ = some u := fun j u h2 => (h.cell (p := ⟨g, j, none⟩) hl).trans h2
            exact ⟨key _ _ p0, key _ _ p1, key _ _ p2, key _ _ p3⟩)
          have PN := Hid.mk pn
          clear hc hn p0 p1 p2 p3 pn
          obtain ⟨r0, r1, r2, r3⟩ := CELLS.out _ (BEL.out _ HF.out)
          go_wp2_with fail
          refine (jlight_any _ n _ (PN.out.below (BEL.out _ HF.out))).mono ?_
          rintro e w2 ⟨⟨b1, rfl⟩, hb2⟩
          have J2 := Hid.mk (HJ.out.below hb2)
          have F2 := Hid.mk (HF.out.next HS.out hb2)
          clear r0 r1 r2 r3 hb2 HJ HF
          cases b1 with
          | false =>
            go_wp2_with fail
            refine (AWAKE.out _ F2.out).mono ?_
            rintro e w3 ⟨rfl, hb3⟩
            go_wp2
            go_ret
            exact ⟨rfl, hb3⟩
          | true =>
            obtain ⟨r0, r1, r2, r3⟩ := CELLS.out _ (BEL.out _ F2.out)
            go_wp2_with fail
            refine (write_any J2.out (HS.out.fr F2.out) _ n (PN.out.below (BEL.out _ F2.out)) hsane.out).mono ?_
            rintro e w3 ⟨hf3, hw3⟩
            have hw : ∃ (x : Int) (ns' : List NoteD), e = .returned (.int .i64 x) ∧ J S w3 p R ns' 0 := by
              rcases hw3 with h | h | h
              · exact ⟨_, _, h.2.1, h.2.2⟩
              · exact ⟨_, _, h.2.2.1, h.2.2.2⟩
              · exact ⟨_, _, h.2.2.1, h.2.2.2⟩
            obtain ⟨x, ns', rfl, hj3⟩ := hw
            have J3 := Hid.mk hj3
            have F3 := Hid.mk (F2.out.trans hf3)
            clear hf3 hw3 hj3 r0 r1 r2 r3 J2 F2
            go_wp2
            go_roundw
            case rel => exact ⟨i + 1, ns', by go_num, by omega, by omega, J3.out, F3.out⟩
            case measure => simp [intOf]; omega
      · obtain ⟨W2, hW2⟩ : ∃ W, W = wr := ⟨_, rfl⟩
        subst hW2
        have hgo : (¬ (i : Int) < (notes.length : Int)) ∨ ((i : Int) < (notes.length : Int) ∧ ¬ (i : Int) < 20) := by omega
        have CF := Hid.mk (fail_any HJ.out (HS.out.fr HF.out) a)
        clear hlt
        rcases hgo with hgo | ⟨hgo, hgo2⟩
        all_goals (
          go_wp2_with fail
          refine CF.out.mono ?_
          rintro e w3 ⟨rfl, hf3, m, _, hwh, hj3⟩
          have J3 := Hid.mk hj3
          have F3 := Hid.mk (HF.out.trans hf3)
          obtain ⟨l, hl⟩ : ∃ l, l = ns.take m := ⟨_, rfl⟩
          have hlm : l.length = m := by rw [hl, List.length_take]; have := hwh.1; omega
          rw [← hl] at J3
          clear hl hf3 hwh hj3 HJ HF CF
          go_wp2_with fail
          refine (jnotes_any J3.out).mono ?_
          rintro e w4 ⟨v4, rfl, hown4, hb4⟩
          have J4 := Hid.mk (J3.out.plus hb4)
          have L4 := Hid.mk ((HS.out.fr F3.out).plus hb4.size)
          have F4 := Hid.mk (F3.out.next HS.out hb4)
          have N4 := Hid.mk hown4
          have hsl : (seals (l.take m)).length = (seals l).length := by rw [List.take_of_length_le (by omega)]
          have CZ := Hid.mk (jsize_any J4.out)
          rw [hsl] at CZ
          obtain ⟨X, hX⟩ : ∃ X, X = (seals l).length := ⟨_, rfl⟩
          rw [← hX] at CZ
          have HX := Hid.mk hX
          have hxx : ((X : Int) != (X : Int)) = false := by simp
          clear hb4 hown4 J3 F3 hsl hX
          go_wp2_with fail
          refine CZ.out.mono ?_
          rintro e w5 ⟨rfl, hb5⟩
          have J5 := Hid.mk (J4.out.below hb5)
          have L5 := Hid.mk (L4.out.below hb5)
          have F5 := Hid.mk (F4.out.next HS.out hb5)
          have N5 := Hid.mk (N4.out.plus (fr_below L4.out hb5))
          have HN5 := Hid.mk (fr_below L4.out hb5)
          clear hb5 J4 F4 CZ
          go_wp2_with fail
          refine (fail_any J5.out L5.out b).mono ?_
          rintro e w6 ⟨rfl, hf6, m2, hm2, hwh2, hj6⟩
          have hme : m2 = m := by have := hwh2.1; omega
          subst hme
          rw [List.take_of_length_le (by omega)] at hj6
          have J6 := Hid.mk hj6
          have F6 := Hid.mk (F5.out.trans hf6.minus)
          have N6 := Hid.mk (N4.out.plus (HN5.out.trans hf6))
          clear hf6 hwh2 hj6 J5 L5 F5 N5 HN5 N4 L4 hm2
          have hcnt := J6.out.count
          go_wp2_with fail
          refine (jnotes_any J6.out).mono ?_
          rintro e w7 ⟨v7, rfl, hown7, hb7⟩
          have J7 := Hid.mk (J6.out.below hb7)
          have F7 := Hid.mk (F6.out.next HS.out hb7)
          have CS := Hid.mk (sameAll_any v7 v4 l l w7 (hown7.at_ (by omega)) ((N6.out.below hb7).at_ (by omega)))
          rw [decide_eq_true rfl] at CS
          clear hb7 hown7 J6 F6 N6
          go_wp2_with fail
          refine CS.out.mono ?_
          rintro e w8 ⟨rfl, hb8⟩
          have J8 := Hid.mk (J7.out.below hb8)
          have F8 := Hid.mk (F7.out.next HS.out hb8)
          have CZ := Hid.mk (jsize_any J8.out)
          rw [← HX.out] at CZ
          obtain ⟨Y, hY⟩ : ∃ Y, Y = (seals (l.take m2)).length := ⟨_, rfl⟩
          rw [← hY] at CZ
          clear hb8 J7 F7 CS hY
          go_wp2_with fail
          refine CZ.out.mono ?_
          rintro e w9 ⟨rfl, hb9⟩
          have F9 := Hid.mk (F8.out.next HS.out hb9)
          clear hb9 J8 F8 CZ
          go_wp2_with fail
          refine (AWAKE.out _ F9.out).mono ?_
          rintro e w10 ⟨rfl, hb10⟩
          go_wp2
          go_ret
          exact ⟨rfl, hb10⟩)
end Go.Proofs.Ytnepednomejniaa
