/- The statement that what is sure stays. -/
import Derived.Test.YtnepednomejniaaJLight
namespace Go.Proofs.Ytnepednomejniaa
open Go.RowKit

theorem JAt.grown {T : Nat → Prop} {w w' : World} {b room : Nat} {vb ve : Value} {ns : List NoteD} {sure : Nat} {row : Option Nat} (h : JAt T w b room vb ve ns sure) (hg : w.grownBy w' row) (hr : ∀ g, row = some g → T g) : JAt T w' b room vb ve ns sure := by
  have key : ∀ k (o : Obj), ¬ T k → w.heap[k]? = some o → w'.heap[k]? = some o := fun k o hk ho => (hg.block k (lt_of_block ho) (fun e => hk (hr k e.symm))).trans ho
  refine { h with blk := key b _ h.out h.blk, ob := ?_, oe := ?_ }
  · refine ⟨h.ob.1, ?_⟩
    rcases h.ob.2 with h0 | ⟨g, cap, cur, e1, e2, e3, e4⟩
    · exact .inl h0
    · exact .inr ⟨g, cap, cur, e1, e2, key g _ (h.outb g (by rw [e1]; rfl)) e3, e4⟩
  · refine ⟨h.oe.1, ?_⟩
    rcases h.oe.2 with h0 | ⟨g, cap, cur, e1, e2, e3, e4⟩
    · exact .inl h0
    · exact .inr ⟨g, cap, cur, e1, e2, key g _ (h.oute g (by rw [e1]; rfl)) e3, e4⟩
theorem J.grown {T : Nat → Prop} {w w' : World} {b room : Nat} {ns : List NoteD} {s : Nat} {row : Option Nat} (h : J T w b room ns s) (hg : w.grownBy w' row) (hr : ∀ g, row = some g → T g) : J T w' b room ns s := by
  obtain ⟨hs, vb, ve, h⟩ := h
  exact ⟨hs, vb, ve, h.grown hg hr⟩

/-- The blocks of S, and that of a row. -/
def WithRow (S : Nat → Prop) (v : Value) : Nat → Prop := fun k => S k ∨ v.ownBlock = some k
theorem Low.withRow {S : Nat → Prop} {w : World} {B n : Nat} {e : TypeId} {size : Nat} {v : Value} {xs : List Value} (h : Low S w) (hr : w.ownsRow B e size v n xs) : Low (WithRow S v) w := fun k hk => hk.elim (h k) (fun h1 => (hr.lt k h1).2)
theorem Fr.noRow {S : Nat → Prop} {v : Value} {w w' : World} (h : Fr (WithRow S v) w w') : Fr S w w' := h.sub (fun _ hk => .inl hk)
theorem owns_fr {S : Nat → Prop} {w w' : World} {B n : Nat} {e : TypeId} {size : Nat} {v : Value} {xs : List Value} (h : w.ownsRow B e size v n xs) (hf : Fr (WithRow S v) w w') : w'.ownsRow B e size v n xs := by
  refine ⟨h.1, ?_⟩
  rcases h.2 with h0 | ⟨g, cap, cur, e1, e2, e3, e4⟩
  · exact .inl h0
  · exact .inr ⟨g, cap, cur, e1, e2, (hf.block g (.inr (by rw [e1]; rfl))).trans e3, e4⟩
theorem GoodRow.fr {S : Nat → Prop} {w0 w w' : World} {v : Value} {ns : List NoteD} (h : GoodRow w0 w v ns) (hf : Fr (WithRow S v) w w') : GoodRow w0 w' v ns := by
  obtain ⟨cs, h1, h2⟩ := h
  exact ⟨cs, owns_fr h1 hf, h2⟩
/-- A row of the call's own grows: the journal stays. -/
theorem J.row {S : Nat → Prop} {w w' : World} {b room : Nat} {ns : List NoteD} {s : Nat} {v v' : Value} (h : J (WithRow S v) w b room ns s) (hg : w.grownBy w' v.ownBlock) (hv : v'.ownBlock = v.ownBlock ∨ ∃ k, v'.ownBlock = some k ∧ w.heap.size ≤ k) : J (WithRow S v') w' b room ns s := by
  have h1 := (h.more (T := fun k => WithRow S v k ∨ w.heap.size ≤ k) (fun _ hk => hk)).grown hg (fun g hg => .inl (.inr hg))
  refine h1.more (fun k hk => .inl ?_)
  rcases hk with hk | hk
  · exact .inl (.inl hk)
  · rcases hv with hv | ⟨k', e1, e2⟩
    · exact .inl (.inr (by rw [← hv]; exact hk))
    · rw [e1] at hk
      have : k' = k := Option.some.inj hk
      subst this
      exact .inr e2

def n9 : NoteD := ⟨9, [], [], []⟩
theorem n9_body : n9.body = [1, 9, 0, 0, 0] := by decide +kernel
theorem n9_may : n9.may := by decide +kernel
theorem n9_at (w : World) : NoteAt w (.agg #[.int .i64 9, .slice none 0 0, .slice none 0 0, .slice none 0 0]) n9 :=
  ⟨_, _, _, rfl, ⟨by simp [n9, intCs], none, 0, rfl, .inl rfl⟩, ⟨by simp [n9], none, 0, rfl, .inl rfl⟩, ⟨[], ⟨by simp, none, 0, rfl, .inl rfl⟩, rfl, by simp⟩⟩

set_option maxHeartbeats 4000000 in
set_option maxRecDepth 100000 in
theorem journalSure_walk (vs : Value) (notes : List NoteD) (su keep : Int) (w : World) (hv : NotesAt w vs notes) (hsa : ∀ n ∈ notes, n.sane) (_ : (Lit.int .i64 su).wf = true) (_ : (Lit.int .i64 keep).wf = true) :
    Calls Try.prog 4 #[vs, .int .i64 su, .int .i64 keep] w fun e w' => e = .returned (.bool true) ∧ Below w.heap.size w w' := by
  obtain ⟨hlen, ao, cap, rfl, hc⟩ := hv
  have HC := Hid.mk hc
  have HSA := Hid.mk hsa
  clear hc hsa
  obtain ⟨j0, hj0, hy0, hy1, hy2⟩ := info_parts infoNote
  have hS : Low (fun k => k < w.heap.size) w := fun k hk => hk
  obtain ⟨S, hSd⟩ : ∃ S : Nat → Prop, S = fun k => k < w.heap.size := ⟨_, rfl⟩
  rw [← hSd] at hS
  have HS := Hid.mk hS
  have BEL : Hid (∀ w1, Fr S w w1 → Below w.heap.size w w1) := Hid.mk (fun w1 h => h.below (fun k hk => by rw [hSd]; exact hk))
  have AWAKE : Hid (∀ wr, Fr S w wr → Calls Try.prog 11 #[] wr fun e w' => e = .returned (.bool true) ∧ Below w.heap.size w w') := Hid.mk (fun wr h => (jawake_any wr).mono fun e w' ⟨h1, h2⟩ => ⟨h1, BEL.out _ (h.next HS.out h2)⟩)
  have HGS : Hid (∀ g, w.heap.size ≤ g → ¬ S g) := Hid.mk (fun g hg hk => by rw [hSd] at hk; omega)
  clear hS hSd
  go_enter Try.func4, Try.ntmps4
  go_wp2_with fail
  refine (new_any 4194304 w).mono ?_
  rintro e w1 ⟨hb1, ⟨hno, _⟩ | ⟨_, rfl, hz⟩⟩
  · exact absurd ⟨by decide, by decide⟩ hno
  · have J1 : Hid (J (WithRow S (.slice none 0 0)) w1 w.heap.size (Int.toNat 4194304) [] 0) := Hid.mk ((J.zero HS.out hz (by decide)).more (fun k hk => by
      rcases hk with hk | hk
      · exact .inl hk
      · simp [Value.ownBlock] at hk))
    have F1 := Hid.mk (fr_below HS.out hb1)
    clear hz hb1
    obtain ⟨p, hp⟩ : ∃ b, b = w.heap.size := ⟨_, rfl⟩
    obtain ⟨R, hR⟩ : ∃ R, R = Int.toNat 4194304 := ⟨_, rfl⟩
    rw [← hp, ← hR] at J1
    rw [← hp]
    have HR : Hid (R = 4194304) := Hid.mk hR
    clear hp hR
    go_wp2
    go_loopw [9, 10, 11, 12] (fun a9 a10 a11 c wr => ∃ (i : Nat) (ns : List NoteD) (s : Nat) (vg : Value), vg = a11 ∧ a9 = .int .i64 (ns.length : Nat) ∧ a10 = .int .i64 s ∧ c = .int .i64 i ∧ i ≤ 40 ∧ i ≤ notes.length ∧ ns.length ≤ i ∧ (seals ns).length ≤ 77000 * ns.length ∧ J (WithRow S vg) wr p R ns s ∧ GoodRow w wr vg ns ∧ Fr S w wr) (fun _ _ _ c _ => 40 - (intOf c).toNat)
    case atStart => exact ⟨0, [], 0, _, rfl, rfl, rfl, rfl, Nat.zero_le _, Nat.zero_le _, Nat.zero_le _, Nat.zero_le _, J1.out, ⟨[], ⟨rfl, .inl ⟨rfl, rfl⟩⟩, by simp⟩, F1.out⟩
    case round =>
      obtain ⟨i, ns, s, vg, rfl, rfl, rfl, rfl, hi40, hin, hnl, hse, hj, hg, hf⟩ := hrel
      have HJ := Hid.mk hj
      have HG := Hid.mk hg
      have HF := Hid.mk hf
      clear hj hg hf J1 F1
      by_cases hlt : i < notes.length ∧ i < 40
      · obtain ⟨hlt, hlt40⟩ := hlt
        obtain ⟨n, hn⟩ : ∃ n, notes[i]? = some n := ⟨_, List.getElem?_eq_getElem hlt⟩
        have hltI : (i : Int) < (notes.length : Int) := by omega
        have hlt40I : (i : Int) < 40 := by omega
        have hsane := Hid.mk (HSA.out n (List.mem_of_getElem? hn))
        rcases HC.out with hnil | ⟨g, o, rfl, hl, hc⟩
        · rw [hnil] at hn; simp at hn
        · obtain ⟨c1, c2, c3, p0, p1, p2, p3, pn⟩ := hc i n hn
          have CELLS : Hid (∀ w1, Below w.heap.size w w1 → w1.cell? ⟨g, o + i * 4, none⟩ = some (.int .i64 n.kind) ∧ w1.cell? ⟨g, o + i * 4 + 1, none⟩ = some c1 ∧ w1.cell? ⟨g, o + i * 4 + 2, none⟩ = some c2 ∧ w1.cell? ⟨g, o + i * 4 + 3, none⟩ = some c3) := Hid.mk (fun w1 h => by
            have key : ∀ j u, w.cell? ⟨g, j, none⟩ = some u → w1.cell? ⟨g, j, none⟩ = some u := fun j u h2 => (h.cell (p := ⟨g, j, none⟩) hl).trans h2
            exact ⟨key _ _ p0, key _ _ p1, key _ _ p2, key _ _ p3⟩)
          have PN := Hid.mk pn
          clear hc hn p0 p1 p2 p3 pn
          obtain ⟨r0, r1, r2, r3⟩ := CELLS.out _ (BEL.out _ HF.out)
          go_wp2_with fail
          refine (jlight_tells _ n _ (PN.out.below (BEL.out _ HF.out))).mono ?_
          rintro e w2 ⟨⟨b1, rfl, hlw⟩, hb2⟩
          have HLW := Hid.mk hlw
          have J2 := Hid.mk (HJ.out.below hb2)
          have F2 := Hid.mk (HF.out.next HS.out hb2)
          have G2 := Hid.mk (HG.out.below hb2)
          clear r0 r1 r2 r3 hb2 HJ HF HG hlw
          cases b1 with
          | false =>
            go_wp2_with fail
            refine (AWAKE.out _ F2.out).mono ?_
            rintro e w3 ⟨rfl, hb3⟩
            go_wp2
            go_ret
            exact ⟨rfl, hb3⟩
          | true =>
            obtain ⟨r0, r1, r2, r3⟩ := CELLS.out _ (BEL.out _ F2.out)
            have L2 : Hid (Low (WithRow S vg) w2) := Hid.mk (by obtain ⟨cs, h1, _⟩ := G2.out; exact (HS.out.fr F2.out).withRow h1)
            obtain ⟨q, hq, hq2⟩ : ∃ q : Nat, bits .and .i64 (i : Int) 31 = (q : Int) ∧ q ≤ 31 := ⟨((i : Int) % 32).toNat, by rw [i64_mask (i : Int) 5 31 32 (by omega) (by decide) (by decide)]; omega, by omega⟩
            go_wp2_with fail
            refine (write_any J2.out L2.out _ n (PN.out.below (BEL.out _ F2.out)) hsane.out).mono ?_
            rintro e w3 ⟨hf3, hw3⟩
            have F3 := Hid.mk (F2.out.trans hf3.noRow)
            have G3 := Hid.mk (G2.out.fr hf3)
            clear r0 r1 r2 r3 J2 F2 G2 L2 hf3
            obtain ⟨r0, r1, r2, r3⟩ := CELLS.out _ (BEL.out _ F3.out)
            obtain ⟨bit, hbit⟩ : ∃ x, (bits BinOp.and IntKind.i64 (su / 2 ^ q) 1 == 1) = x := ⟨_, rfl⟩
            rcases hw3 with ⟨_, rfl, hj3⟩ | ⟨hm3, hroom, rfl, _⟩ | ⟨hm3, hroom, rfl, hj3⟩
            · have J3 := Hid.mk hj3
              clear hj3
              cases bit with
              | false =>
                go_wp2
                go_roundw
                case rel => exact ⟨i + 1, ns, s, vg, rfl, rfl, rfl, by go_num, by omega, by omega, by omega, hse, J3.out, G3.out, F3.out⟩
                case measure => simp [intOf]; omega
              | true =>
                go_wp2_with fail
                refine (jsure_any J3.out).mono ?_
                rintro e w4 ⟨rfl, hj4, hf4⟩
                have J4 := Hid.mk hj4
                have F4 := Hid.mk (F3.out.trans hf4.noRow)
                have G4 := Hid.mk (G3.out.fr hf4)
                clear hj4 hf4 J3 F3 G3 r0 r1 r2 r3
                go_wp2
                go_roundw
                case rel => exact ⟨i + 1, ns, ns.length, vg, rfl, rfl, rfl, by go_num, by omega, by omega, by omega, hse, J4.out, G4.out, F4.out⟩
                case measure => simp [intOf]; omega
            · exfalso
              have h1 := HLW.out trivial hm3
              have h2 := HR.out
              omega
            · have J3 := Hid.mk hj3
              have hse2 : Hid ((seals (ns ++ [n])).length ≤ 77000 * (ns ++ [n]).length) := Hid.mk (by
                have h1 := HLW.out trivial hm3
                rw [seals_snoc, List.length_append, List.length_append, List.length_singleton]; omega)
              obtain ⟨cs, hg1, hg2⟩ := G3.out
              have HG3 := Hid.mk hg1
              have HGE := Hid.mk hg2
              clear hj3 hm3 hroom hg1 hg2 G3
              go_wp2_with (at_builtin; refine wpList_append_lies _ rfl (.tmp 57) (.tmp 62) _ rfl w.heap.size 37 j0 _ 4 80 Try.underlying27 hj0 hy0 hy1 hy2 rfl (by decide) vg ns.length cs (by rfl) (HG3.out.alloc _) ⟨w3.heap.size, 0, none⟩ 1 1 [.int .i64 n.kind, c1, c2, c3] (by rfl) (by rfl) ?d1 ?d2 (by decide) ?d3 ?d4 ?d5 (w3.heap.size + 1) (by simp) ?_)
              case d1 => exact World.news_of_block (cs := #[.int .i64 n.kind, c1, c2, c3]) (t := 37) (fr := (0, 0)) (heap_alloc_new w3 _)
              case d2 =>
                obtain ⟨d1, d2, d3, e1, g1, g2, g3⟩ := PN.out
                simp only [Value.agg.injEq, Array.mk.injEq, List.cons.injEq, and_true, true_and] at e1
                obtain ⟨rfl, rfl, rfl⟩ := e1
                obtain ⟨_, _, _, rfl, _⟩ := g1
                obtain ⟨_, _, _, rfl, _⟩ := g2
                obtain ⟨_, ⟨_, _, _, rfl, _⟩, _⟩ := g3
                intro u hu; simp at hu; rcases hu with rfl | rfl | rfl | rfl <;> rfl
              case d3 => unfold maxLen; omega
              case d4 => omega
              case d5 => have := F3.out.size; simp; omega
              intro g2 cap2 w4 hown4 hgrow4 hat4 hlt4
              have al4 : Below w3.heap.size w3 (w3.alloc (.cells #[.int .i64 n.kind, c1, c2, c3] 37)) := (Below.refl _ _).alloc (Nat.le_refl _) _
              have F4 := Hid.mk ((F3.out.next HS.out al4).grown HS.out hgrow4 (fun k hk => HGS.out k (own_ge HG3.out hk)))
              have J4 : Hid (J (WithRow S (.slice (some ⟨g2, 0, none⟩) (ns.length + 1) cap2)) w4 p R (ns ++ [n]) s) := Hid.mk ((J3.out.below al4).row hgrow4 (by
                rcases hat4 with h1 | h1
                · exact .inl h1.symm
                · exact .inr ⟨g2, rfl, by rw [h1]; simp⟩))
              have G4 := Hid.mk (GoodRow.snoc (w := w3) HG3.out HGE.out PN.out hown4)
              clear hown4 hgrow4 hat4 hlt4 al4 HG3 J3 F3 r0 r1 r2 r3
              cases bit with
              | false =>
                go_wp2
                go_roundw
                case rel => exact ⟨i + 1, ns ++ [n], s, _, rfl, by rw [List.length_append]; go_num, rfl, by go_num, by omega, by omega, by rw [List.length_append, List.length_singleton]; omega, hse2.out, J4.out, G4.out, F4.out⟩
                case measure => simp [intOf]; omega
              | true =>
                go_wp2_with fail
                refine (jsure_any J4.out).mono ?_
                rintro e w5 ⟨rfl, hj5, hf5⟩
                have J5 := Hid.mk hj5
                have F5 := Hid.mk (F4.out.trans hf5.noRow)
                have G5 := Hid.mk (G4.out.fr hf5)
                clear hj5 hf5 J4 F4 G4
                go_wp2
                go_roundw
                case rel => exact ⟨i + 1, ns ++ [n], (ns ++ [n]).length, _, rfl, by rw [List.length_append]; go_num, by rw [List.length_append]; go_num, by go_num, by omega, by omega, by rw [List.length_append, List.length_singleton]; omega, hse2.out, J5.out, G5.out, F5.out⟩
                case measure => simp [intOf]; omega
      · obtain ⟨W2, hW2⟩ : ∃ W, W = wr := ⟨_, rfl⟩
        subst hW2
        have hgo : (¬ (i : Int) < (notes.length : Int)) ∨ ((i : Int) < (notes.length : Int) ∧ ¬ (i : Int) < 40) := by omega
        have L2 : Hid (Low (WithRow S vg) W2) := Hid.mk (by obtain ⟨cs, h1, _⟩ := HG.out; exact (HS.out.fr HF.out).withRow h1)
        have CF := Hid.mk (fail_any HJ.out L2.out keep)
        obtain ⟨ag, cg, hvg, hcg⟩ : ∃ ao cap, vg = .slice ao ns.length cap ∧ ns.length ≤ cap := by
          obtain ⟨cs, h1, _⟩ := HG.out
          obtain ⟨ao, cap, e⟩ := own_slice h1
          subst e
          exact ⟨ao, cap, rfl, own_cap h1⟩
        subst hvg
        clear hlt
        rcases hgo with hgo | ⟨hgo, hgo2⟩
        all_goals (
          go_wp2_with fail
          refine CF.out.mono ?_
          rintro e w3 ⟨rfl, hf3, m, hsm, hwh, hj3⟩
          have hmn := hwh.1
          have J3 := Hid.mk hj3
          have F3 := Hid.mk (HF.out.trans hf3.noRow)
          have G3 := Hid.mk (HG.out.fr hf3)
          have L3 := Hid.mk (L2.out.fr hf3)
          have hlm : (ns.take m).length = m := by rw [List.length_take]; omega
          have HLM := Hid.mk hlm
          clear hf3 hwh hj3 HJ HF HG CF L2
          go_wp2_with fail
          refine (jnotes_any J3.out).mono ?_
          rintro e w4 ⟨v4, rfl, hown4, hb4⟩
          obtain ⟨a4, c4, hv4⟩ : ∃ ao cap, v4 = .slice ao m cap := by
            obtain ⟨cs, h1, _⟩ := hown4
            have := own_slice h1
            rw [hlm] at this
            exact this
          subst hv4
          have J4 := Hid.mk (J3.out.below hb4)
          have F4 := Hid.mk (F3.out.next HS.out hb4)
          have L4 := Hid.mk (L3.out.below hb4)
          have G4 := Hid.mk ((G3.out.below hb4).at_ (BEL.out _ F4.out) (by omega))
          have CS := Hid.mk (sameAll_any (.slice a4 m c4) (.slice ag m cg) (ns.take m) (ns.take m) w4 (hown4.at_ (by omega)) (notesAt_take G4.out m hmn))
          rw [decide_eq_true rfl] at CS
          have h1I : ¬ (m : Int) < (s : Int) := by omega
          have h2I : ¬ (ns.length : Int) < (m : Int) := by omega
          have h3I : (m : Int) ≤ (cg : Int) := by omega
          clear hb4 hown4 J3 F3 G3 L3 G4
          go_wp2_with fail
          refine CS.out.mono ?_
          rintro e w5 ⟨rfl, hb5⟩
          have J5 := Hid.mk (J4.out.below hb5)
          have F5 := Hid.mk (F4.out.next HS.out hb5)
          have L5 := Hid.mk (L4.out.below hb5)
          have hfit : (seals (ns.take m ++ [n9])).length ≤ R := by
            have h1 := seals_le ns m
            have h2 := HR.out
            rw [seals_snoc, List.length_append, sealB_len, n9_body]
            simp only [List.length_cons, List.length_nil]
            omega
          have CW := Hid.mk (write_ok J5.out L5.out _ n9 (n9_at _) n9_may hfit)
          clear hb5 J4 F4 L4 CS hfit
          go_wp2_with fail
          refine CW.out.mono ?_
          rintro e w6 ⟨rfl, hj6, hf6⟩
          have J6 := Hid.mk hj6
          have F6 := Hid.mk (F5.out.trans hf6.noRow)
          clear hj6 hf6 J5 F5 L5 CW
          go_wp2_with fail
          refine (jnotes_any J6.out).mono ?_
          rintro e w7 ⟨v7, rfl, hown7, hb7⟩
          have F7 := Hid.mk (F6.out.next HS.out hb7)
          have hl7 : (ns.take m ++ [n9]).length = m + 1 := by rw [List.length_append, hlm]; rfl
          obtain ⟨_, a7, c7, hv7, hc7⟩ := hown7.at_ (by omega)
          rw [hl7] at hv7
          subst hv7
          rcases hc7 with hnil | ⟨g7, o7, rfl, hl7b, hc7⟩
          · rw [hnil] at hl7; simp at hl7
          · obtain ⟨d1, d2, d3, q0, _⟩ := hc7 m n9 (by rw [List.getElem?_append_right (by omega), hlm, Nat.sub_self]; rfl)
            have q0' : w7.cell? ⟨g7, o7 + m * 4, none⟩ = some (.int .i64 9) := q0
            have hmI : (m : Int) < (m : Int) + 1 := by omega
            clear hc7 q0 hown7 hb7 J6 F6 hl7 hlm
            go_wp2_with fail
            refine (AWAKE.out _ F7.out).mono ?_
            rintro e w8 ⟨rfl, hb8⟩
            go_wp2
            go_ret
            exact ⟨rfl, hb8⟩)
end Go.Proofs.Ytnepednomejniaa
