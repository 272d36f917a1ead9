/- The statement that other notes take the place of all at once. -/
import Derived.Test.YtnepednomejniaaJBegin
namespace Go.Proofs.Ytnepednomejniaa
open Go.RowKit

set_option maxHeartbeats 4000000 in
set_option maxRecDepth 100000 in
theorem journalAnew_walk (vs : Value) (notes : List NoteD) (vl : Value) (l : List NoteD) (keep : Int) (w : World) (hv : NotesAt w vs notes) (hsa : ∀ n ∈ notes, n.sane) (hvl : NotesAt w vl l) (hsl : ∀ n ∈ l, n.sane) (_ : (Lit.int .i64 keep).wf = true) :
    Calls Try.prog 6 #[vs, vl, .int .i64 keep] w fun e w' => e = .returned (.bool true) ∧ Below w.heap.size w w' := by
  have HVL := Hid.mk hvl
  have HSL := Hid.mk hsl
  obtain ⟨hlenl, al, capl, rfl, hcl⟩ := hvl
  have HCL := Hid.mk hcl
  obtain ⟨hlen, ao, cap, rfl, hc⟩ := hv
  have HC := Hid.mk hc
  clear hcl hsl
  have HSA := Hid.mk hsa
  clear hc hsa
  have hS : Low (fun k => k < w.heap.size) w := fun k hk => hk
  obtain ⟨S, hSd⟩ : ∃ S : Nat → Prop, S = fun k => k < w.heap.size := ⟨_, rfl⟩
  rw [← hSd] at hS
  have HS := Hid.mk hS
  have BEL : Hid (∀ w1, Fr S w w1 → Below w.heap.size w w1) := Hid.mk (fun w1 h => h.below (fun k hk => by rw [hSd]; exact hk))
  have AWAKE : Hid (∀ wr, Fr S w wr → Calls Try.prog 11 #[] wr fun e w' => e = .returned (.bool true) ∧ Below w.heap.size w w') := Hid.mk (fun wr h => (jawake_any wr).mono fun e w' ⟨h1, h2⟩ => ⟨h1, BEL.out _ (h.next HS.out h2)⟩)
  clear hS hSd
  go_enter Try.func6, Try.ntmps6
  go_wp2_with fail
  refine (new_any 65536 w).mono ?_
  rintro e w1 ⟨hb1, ⟨hno, _⟩ | ⟨_, rfl, hz⟩⟩
  · exact absurd ⟨by decide, by decide⟩ hno
  · have J1 := Hid.mk (J.zero HS.out hz (by decide))
    have F1 := Hid.mk (fr_below HS.out hb1)
    clear hz hb1
    obtain ⟨p, hp⟩ : ∃ b, b = w.heap.size := ⟨_, rfl⟩
    obtain ⟨R, hR⟩ : ∃ R, R = Int.toNat 65536 := ⟨_, rfl⟩
    rw [← hp, ← hR] at J1
    rw [← hp]
    clear hp hR
    go_wp2
    go_loopw [9] (fun c wr => ∃ (i : Nat) (ns : List NoteD), c = .int .i64 i ∧ i ≤ 20 ∧ i ≤ notes.length ∧ J S wr p R ns 0 ∧ Fr S w wr) (fun c _ => 20 - (intOf c).toNat)
    case atStart => exact ⟨0, [], rfl, Nat.zero_le _, Nat.zero_le _, J1.out, F1.out⟩
    case round =>
      obtain ⟨i, ns, rfl, hi20, hin, hj, hf⟩ := hrel
      have HJ := Hid.mk hj
      have HF := Hid.mk hf
      clear hj hf J1 F1
      by_cases hlt : i < notes.length ∧ i < 20
      · obtain ⟨hlt, hlt20⟩ := hlt
        obtain ⟨n, hn⟩ : ∃ n, notes[i]? = some n := ⟨_, List.getElem?_eq_getElem hlt⟩
        have hltI : (i : Int) < (notes.length : Int) := by omega
        have hlt20I : (i : Int) < 20 := by omega
        have hsane := Hid.mk (HSA.out n (List.mem_of_getElem? hn))
        rcases HC.out with hnil | ⟨g, o, rfl, hl, hc⟩
        · rw [hnil] at hn; simp at hn
        · obtain ⟨c1, c2, c3, p0, p1, p2, p3, pn⟩ := hc i n hn
          have CELLS : Hid (∀ w1, Below w.heap.size w w1 → w1.cell? ⟨g, o + i * 4, none⟩ = some (.int .i64 n.kind) ∧ w1.cell? ⟨g, o + i * 4 + 1, none⟩ = some c1 ∧ w1.cell? ⟨g, o + i * 4 + 2, none⟩ = some c2 ∧ w1.cell? ⟨g, o + i * 4 + 3, none⟩ = some c3) := Hid.mk (fun w1 h => by
            have key : ∀ j u, w.cell? ⟨g, j, none⟩ = some u → w1.cell? ⟨g, j, none⟩ = some u := fun j u h2 => (h.cell (p := ⟨g, j, none⟩) hl).trans h2
            exact ⟨key _ _ p0, key _ _ p1, key _ _ p2, key _ _ p3⟩)
          have PN := Hid.mk pn
          clear hc hn p0 p1 p2 p3 pn
          obtain ⟨r0, r1, r2, r3⟩ := CELLS.out _ (BEL.out _ HF.out)
          go_wp2_with fail
          refine (jlight_any _ n _ (PN.out.below (BEL.out _ HF.out))).mono ?_
          rintro e w2 ⟨⟨b1, rfl⟩, hb2⟩
          have J2 := Hid.mk (HJ.out.below hb2)
          have F2 := Hid.mk (HF.out.next HS.out hb2)
          clear r0 r1 r2 r3 hb2 HJ HF
          cases b1 with
          | false =>
            go_wp2_with fail
            refine (AWAKE.out _ F2.out).mono ?_
            rintro e w3 ⟨rfl, hb3⟩
            go_wp2
            go_ret
            exact ⟨rfl, hb3⟩
          | true =>
            obtain ⟨r0, r1, r2, r3⟩ := CELLS.out _ (BEL.out _ F2.out)
            go_wp2_with fail
            refine (write_any J2.out (HS.out.fr F2.out) _ n (PN.out.below (BEL.out _ F2.out)) hsane.out).mono ?_
            rintro e w3 ⟨hf3, hw3⟩
            have hw : ∃ (x : Int) (ns' : List NoteD), e = .returned (.int .i64 x) ∧ J S w3 p R ns' 0 := by
              rcases hw3 with h | h | h
              · exact ⟨_, _, h.2.1, h.2.2⟩
              · exact ⟨_, _, h.2.2.1, h.2.2.2⟩
              · exact ⟨_, _, h.2.2.1, h.2.2.2⟩
            obtain ⟨x, ns', rfl, hj3⟩ := hw
            have J3 := Hid.mk hj3
            have F3 := Hid.mk (F2.out.trans hf3)
            clear hf3 hw3 hj3 r0 r1 r2 r3 J2 F2
            go_wp2
            go_roundw
            case rel => exact ⟨i + 1, ns', by go_num, by omega, by omega, J3.out, F3.out⟩
            case measure => simp [intOf]; omega
      · have hgo : (¬ (i : Int) < (notes.length : Int)) ∨ ((i : Int) < (notes.length : Int) ∧ ¬ (i : Int) < 20) := by omega
        clear hlt
        obtain ⟨W2, hW2⟩ : ∃ W, W = wr := ⟨_, rfl⟩
        subst hW2
        rcases hgo with hgo | ⟨hgo, hgo2⟩
        all_goals (
          go_wp2
          go_loopw [10] (fun c wr => ∃ (k : Nat), c = .int .i64 k ∧ k ≤ l.length ∧ J S wr p R ns 0 ∧ Fr S w wr) (fun c _ => l.length - (intOf c).toNat)
          case atStart => exact ⟨0, rfl, Nat.zero_le _, HJ.out, HF.out⟩
          case round =>
            obtain ⟨k, rfl, hkl, hj, hf⟩ := hrel
            have JK := Hid.mk hj
            have FK := Hid.mk hf
            clear hj hf HJ HF
            obtain ⟨W3, hW3⟩ : ∃ W, W = wr := ⟨_, rfl⟩
            subst hW3
            by_cases hlt : k < l.length
            · have hltI : (k : Int) < (l.length : Int) := by omega
              by_cases h20 : 20 ≤ (k : Int)
              · go_wp2_with fail
                refine (AWAKE.out _ FK.out).mono ?_
                rintro e w3 ⟨rfl, hb3⟩
                go_wp2
                go_ret
                exact ⟨rfl, hb3⟩
              · obtain ⟨n, hn⟩ : ∃ n, l[k]? = some n := ⟨_, List.getElem?_eq_getElem hlt⟩
                rcases HCL.out with hnil | ⟨g, o, rfl, hl, hc⟩
                · rw [hnil] at hn; simp at hn
                · obtain ⟨c1, c2, c3, p0, p1, p2, p3, pn⟩ := hc k n hn
                  have key : ∀ j u, w.cell? ⟨g, j, none⟩ = some u → W3.cell? ⟨g, j, none⟩ = some u := fun j u h2 => ((BEL.out _ FK.out).cell (p := ⟨g, j, none⟩) hl).trans h2
                  have r0 := key _ _ p0
                  have r1 := key _ _ p1
                  have r2 := key _ _ p2
                  have r3 := key _ _ p3
                  have CL := Hid.mk (jlight_any _ n _ (pn.below (BEL.out _ FK.out)))
                  clear hc hn p0 p1 p2 p3 pn key
                  go_wp2_with fail
                  refine CL.out.mono ?_
                  rintro e w4 ⟨⟨b1, rfl⟩, hb4⟩
                  have J4 := Hid.mk (JK.out.below hb4)
                  have F4 := Hid.mk (FK.out.next HS.out hb4)
                  clear r0 r1 r2 r3 hb4 JK FK CL
                  cases b1 with
                  | false =>
                    go_wp2_with fail
                    refine (AWAKE.out _ F4.out).mono ?_
                    rintro e w5 ⟨rfl, hb5⟩
                    go_wp2
                    go_ret
                    exact ⟨rfl, hb5⟩
                  | true =>
                    go_wp2
                    go_roundw
                    case rel => exact ⟨k + 1, by go_num, by omega, J4.out, F4.out⟩
                    case measure => simp [intOf]; omega
            · have hltI : ¬ (k : Int) < (l.length : Int) := by omega
              go_wp2_with fail
              refine (jnotes_any JK.out).mono ?_
              rintro e w4 ⟨v4, rfl, hown4, hb4⟩
              have J4 := Hid.mk (JK.out.plus hb4)
              have L4 := Hid.mk ((HS.out.fr FK.out).plus hb4.size)
              have F4 := Hid.mk (FK.out.next HS.out hb4)
              have N4 := Hid.mk hown4
              have CB := Hid.mk (begin_any J4.out L4.out _ l (HVL.out.below (BEL.out _ F4.out)) HSL.out)
              have hcn := J4.out.count
              clear hb4 hown4 JK FK
              go_wp2_with fail
              refine CB.out.mono ?_
              rintro e w5 ⟨hf5, hend⟩
              have F5 := Hid.mk (F4.out.trans hf5.minus)
              have N5 := Hid.mk (N4.out.plus hf5)
              clear hf5 CB F4 N4 J4 L4
              have hend2 : (∃ x : Int, (x = 1 ∨ x = 40) ∧ e = .returned (.int .i64 x) ∧ J (Plus S W3.heap.size w4.heap.size) w5 p R ns 0) ∨ (e = .returned (.int .i64 0) ∧ J (Plus S W3.heap.size w4.heap.size) w5 p R l l.length) := by
                rcases hend with h | h | h
                · exact .inl ⟨1, .inl rfl, h.2.1, h.2.2⟩
                · exact .inl ⟨40, .inr rfl, h.2.2.1, h.2.2.2⟩
                · exact .inr ⟨h.2.2.1, h.2.2.2⟩
              clear hend
              rcases hend2 with ⟨x, hx, rfl, hj5⟩ | ⟨rfl, hj5⟩
              · have J5 := Hid.mk hj5
                clear hj5
                rcases hx with rfl | rfl
                all_goals (
                  go_wp2_with fail
                  refine (jnotes_any J5.out).mono ?_
                  rintro e w6 ⟨v6, rfl, hown6, hb6⟩
                  have F6 := Hid.mk (F5.out.next HS.out hb6)
                  have CS := Hid.mk (sameAll_any v6 v4 ns ns w6 (hown6.at_ (by omega)) ((N5.out.below hb6).at_ (by omega)))
                  rw [decide_eq_true rfl] at CS
                  clear hb6 hown6 J5 F5 N5
                  go_wp2_with fail
                  refine CS.out.mono ?_
                  rintro e w7 ⟨rfl, hb7⟩
                  have F7 := Hid.mk (F6.out.next HS.out hb7)
                  clear hb7 F6 CS
                  go_wp2_with fail
                  refine (AWAKE.out _ F7.out).mono ?_
                  rintro e w8 ⟨rfl, hb8⟩
                  go_wp2
                  go_ret
                  exact ⟨rfl, hb8⟩)
              · have J5 := Hid.mk (hj5.more (T := S) (fun _ hk => .inl (.inl hk)))
                have CF := Hid.mk (fail_any J5.out (HS.out.fr F5.out) keep)
                clear hj5 N5
                go_wp2_with fail
                refine CF.out.mono ?_
                rintro e w6 ⟨rfl, hf6, m, hm, hwh, hj6⟩
                rw [List.take_of_length_le hm] at hj6
                have J6 := Hid.mk hj6
                have F6 := Hid.mk (F5.out.trans hf6)
                have hcl := J6.out.count
                clear hf6 hj6 hwh hm J5 F5 CF
                go_wp2_with fail
                refine (jnotes_any J6.out).mono ?_
                rintro e w7 ⟨v7, rfl, hown7, hb7⟩
                have F7 := Hid.mk (F6.out.next HS.out hb7)
                have CS := Hid.mk (sameAll_any v7 _ l l w7 (hown7.at_ (by omega)) (HVL.out.below (BEL.out _ F7.out)))
                rw [decide_eq_true rfl] at CS
                clear hb7 hown7 J6 F6
                go_wp2_with fail
                refine CS.out.mono ?_
                rintro e w8 ⟨rfl, hb8⟩
                have F8 := Hid.mk (F7.out.next HS.out hb8)
                clear hb8 F7 CS
                go_wp2_with fail
                refine (AWAKE.out _ F8.out).mono ?_
                rintro e w9 ⟨rfl, hb9⟩
                go_wp2
                go_ret
                exact ⟨rfl, hb9⟩)
end Go.Proofs.Ytnepednomejniaa
