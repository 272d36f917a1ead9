/- The walk of the statement that notes one behind the other, cut anywhere, are read as those that are whole. -/
import Derived.Test.YtgmeehkikamkoaaWCuts
namespace Go.Proofs.Ytgmeehkikamkoaa
open Go.RowKit

theorem own_cap {w : World} {B n cap : Nat} {ao : Option Addr} {e : TypeId} {size : Nat} {xs : List Value} (h : w.ownsRow B e size (.slice ao n cap) n xs) : n ≤ cap := by
  rcases h.2 with ⟨h0, h1⟩ | ⟨g, cap', cur, e1, _, _, e4, _⟩
  · omega
  · simp only [Value.slice.injEq] at e1
    omega

set_option maxHeartbeats 4000000 in
set_option maxRecDepth 100000 in
theorem wireCuts_walk (vs : Value) (notes : List NoteD) (cut : Int) (w : World) (hv : NotesAt w vs notes) (hsa : ∀ n ∈ notes, n.sane) (_ : (Lit.int .i64 cut).wf = true) :
    Calls Try.prog 5 #[vs, .int .i64 cut] w fun e w' => e = .returned (.bool true) ∧ Below w.heap.size w w' := by
  obtain ⟨hlen, ao, cap, rfl, hc⟩ := hv
  have HC := Hid.mk hc
  have HSA := Hid.mk hsa
  clear hc hsa
  obtain ⟨i0, hi0, hz0, hz1, hz2⟩ := info_parts infoInt
  obtain ⟨j0, hj0, hy0, hy1, hy2⟩ := info_parts infoNote
  have AWAKE : Hid (∀ wr, Below w.heap.size w wr → Calls Try.prog 10 #[] wr fun e w' => e = .returned (.bool true) ∧ Below w.heap.size w w') := Hid.mk (fun wr h => (awake_any wr).mono fun e w' ⟨h1, h2⟩ => ⟨h1, keepB h h2 (Nat.le_refl _)⟩)
  go_enter Try.func5, Try.ntmps5
  go_wp2
  go_loopw [5, 6, 7, 8] (fun a e g c wr => ∃ (i : Nat) (ns : List NoteD) (ve vg : Value), ve = e ∧ vg = g ∧ c = .int .i64 i ∧ i ≤ 12 ∧ i ≤ notes.length ∧ ns.length ≤ i ∧ (∀ n ∈ ns, n.may) ∧ a = .string ⟨(seals ns).toArray⟩ ∧
      wr.ownsRow w.heap.size 3 1 ve ns.length (intCs (endsOf ns)) ∧ GoodRow w wr vg ns ∧ Below w.heap.size w wr) (fun _ _ _ c _ => 12 - (intOf c).toNat)
  case atStart => exact ⟨0, [], _, _, rfl, rfl, rfl, Nat.zero_le _, Nat.zero_le _, Nat.zero_le _, by simp, rfl, ⟨rfl, .inl ⟨rfl, rfl⟩⟩, ⟨[], ⟨rfl, .inl ⟨rfl, rfl⟩⟩, by simp⟩, Below.refl _ _⟩
  case round =>
    obtain ⟨i, ns, ve, vg, rfl, rfl, rfl, hi12, hin, hnl, hmay, rfl, hoe, hog, hbw⟩ := hrel
    have HM := Hid.mk hmay
    have HE := Hid.mk hoe
    have HG := Hid.mk hog
    have HB := Hid.mk hbw
    clear hmay hoe hog hbw
    have hsb := seals_bound HM.out
    have hss := size_list (seals ns)
    by_cases hlt : i < notes.length ∧ i < 12
    · obtain ⟨hlt, hlt12⟩ := hlt
      obtain ⟨n, hn⟩ : ∃ n, notes[i]? = some n := ⟨_, List.getElem?_eq_getElem hlt⟩
      have hltI : (i : Int) < (notes.length : Int) := by omega
      have hlt12I : (i : Int) < 12 := by omega
      have hsane := Hid.mk (HSA.out n (List.mem_of_getElem? hn))
      rcases HC.out with hnil | ⟨b, o, rfl, hl, hc⟩
      · rw [hnil] at hn; simp at hn
      · obtain ⟨c1, c2, c3, p0, p1, p2, p3, pn⟩ := hc i n hn
        have CELLS : Hid (∀ w1, Below w.heap.size w w1 → w1.cell? ⟨b, o + i * 4, none⟩ = some (.int .i64 n.kind) ∧ w1.cell? ⟨b, o + i * 4 + 1, none⟩ = some c1 ∧ w1.cell? ⟨b, o + i * 4 + 2, none⟩ = some c2 ∧ w1.cell? ⟨b, o + i * 4 + 3, none⟩ = some c3) := Hid.mk (fun w1 h => by
          have key : ∀ j u, w.cell? ⟨b, j, none⟩ = some u → w1.cell? ⟨b, j, none⟩ = some u := fun j u h2 => (h.cell (p := ⟨b, j, none⟩) hl).trans h2
          exact ⟨key _ _ p0, key _ _ p1, key _ _ p2, key _ _ p3⟩)
        have PN := Hid.mk pn
        clear hc hn p0 p1 p2 p3 pn
        obtain ⟨r0, r1, r2, r3⟩ := CELLS.out _ HB.out
        go_wp2_with fail
        refine (light_any _ n _ (PN.out.below HB.out)).mono ?_
        rintro e w1 ⟨⟨b1, rfl⟩, hb1⟩
        have B1 := Hid.mk (keepB HB.out hb1 (Nat.le_refl _))
        have HE1 := Hid.mk (owns_below HE.out hb1)
        have HG1 := Hid.mk (HG.out.below hb1)
        clear r0 r1 r2 r3 hb1 HE HG HB
        obtain ⟨r0, r1, r2, r3⟩ := CELLS.out _ B1.out
        cases b1 with
        | false =>
          go_wp2_with fail
          refine (AWAKE.out _ B1.out).mono ?_
          rintro e w2 ⟨rfl, hb2⟩
          go_wp2
          go_ret
          exact ⟨rfl, hb2⟩
        | true =>
          have P1 := Hid.mk (pack_any _ n w1 (PN.out.below B1.out) hsane.out)
          by_cases hm : n.may
          · have HP := Hid.mk (packV_may hm)
            have hbl := hm.2.2
            have hsl : (sealB n.body).length ≤ 1048584 := by rw [sealB_len]; omega
            have hz9 := size_list (sealB n.body)
            have hJ : (⟨(seals ns).toArray⟩ : ByteArray) ++ ⟨(sealB n.body).toArray⟩ = ⟨(seals (ns ++ [n])).toArray⟩ := by rw [append_list, seals_snoc]
            have hJl : (seals (ns ++ [n])).length = (seals ns).length + (sealB n.body).length := by rw [seals_snoc, List.length_append]
            have hss2 := size_list (seals (ns ++ [n]))
            have HM2 : Hid (∀ m ∈ ns ++ [n], m.may) := Hid.mk (by
              intro m hm2
              rcases List.mem_append.1 hm2 with h | h
              · exact HM.out m h
              · rw [List.mem_singleton] at h; subst h; exact hm)
            clear hm
            go_wp2_with fail
            refine P1.out.mono ?_
            rintro e w2 ⟨rfl, hb2⟩
            rw [HP.out]
            have B2 := Hid.mk (keepB B1.out hb2 (Nat.le_refl _))
            have HE2 := Hid.mk (owns_below HE1.out hb2)
            have HG2 := Hid.mk (HG1.out.below hb2)
            clear r0 r1 r2 r3 hb2 HE1 HG1 B1 P1 HP
            obtain ⟨r0, r1, r2, r3⟩ := CELLS.out _ B2.out
            obtain ⟨L, hL⟩ : ∃ L, L = (seals (ns ++ [n])).length := ⟨_, rfl⟩
            rw [← hL] at hss2
            have HL := Hid.mk hL
            clear hL hJl hbl
            go_wp2_with (at_builtin; refine wpList_append_lies _ rfl (.tmp 46) (.tmp 49) _ rfl w.heap.size 3 i0 _ 1 8 Try.underlying22 hi0 hz0 hz1 hz2 rfl (by decide) ve ns.length (intCs (endsOf ns)) (by rfl) (HE2.out.alloc _) ⟨w2.heap.size, 0, none⟩ 1 1 [.int .i64 L] (by rfl) (by rfl) ?c1 ?c2 (by decide) ?c3 ?c4 ?c5 (w2.heap.size + 1) (by simp) ?_)
            case c1 => exact World.news_of_block (cs := #[.int .i64 L]) (t := 3) (fr := (0, 0)) (heap_alloc_new w2 _)
            case c2 => intro u hu; rw [List.mem_singleton] at hu; subst hu; rfl
            case c3 => unfold maxLen; omega
            case c4 => omega
            case c5 => have := B2.out.size; simp; omega
            intro g1 cap1 w3 hown3 hgrow3 hat3 hlt3
            have al3 : Below w2.heap.size w2 (w2.alloc (.cells #[.int .i64 L] 3)) := (Below.refl _ _).alloc (Nat.le_refl _) _
            have B3 := Hid.mk ((keepB B2.out al3 (Nat.le_refl _)).grown hgrow3 (by have := B2.out.size; simp; omega) (fun k hk => own_ge HE2.out hk))
            obtain ⟨cs, hg1, hg2⟩ := HG2.out
            have HG3 := Hid.mk (owns_other (owns_below hg1 al3) (owns_below HE2.out al3) hgrow3 (by decide))
            have HGE := Hid.mk hg2
            have HE3 : Hid (w3.ownsRow w.heap.size 3 1 (.slice (some ⟨g1, 0, none⟩) (ns.length + 1) cap1) (ns ++ [n]).length (intCs (endsOf (ns ++ [n])))) := Hid.mk (by
              rw [endsOf_snoc, intCs_snoc, ← HL.out, List.length_append]; exact hown3)
            clear hown3 hgrow3 hat3 hlt3 al3 hg1 hg2 HG2 HE2 B2 r0 r1 r2 r3
            obtain ⟨r0, r1, r2, r3⟩ := CELLS.out _ B3.out
            go_wp2_with (at_builtin; refine wpList_append_lies _ rfl (.tmp 51) (.tmp 56) _ rfl w.heap.size 26 j0 _ 4 80 Try.underlying37 hj0 hy0 hy1 hy2 rfl (by decide) vg ns.length cs (by rfl) (HG3.out.alloc _) ⟨w3.heap.size, 0, none⟩ 1 1 [.int .i64 n.kind, c1, c2, c3] (by rfl) (by rfl) ?d1 ?d2 (by decide) ?d3 ?d4 ?d5 (w3.heap.size + 1) (by simp) ?_)
            case d1 => exact World.news_of_block (cs := #[.int .i64 n.kind, c1, c2, c3]) (t := 26) (fr := (0, 0)) (heap_alloc_new w3 _)
            case d2 =>
              obtain ⟨d1, d2, d3, e1, g1, g2, g3⟩ := PN.out
              simp only [Value.agg.injEq, Array.mk.injEq, List.cons.injEq, and_true, true_and] at e1
              obtain ⟨rfl, rfl, rfl⟩ := e1
              obtain ⟨_, _, _, rfl, _⟩ := g1
              obtain ⟨_, _, _, rfl, _⟩ := g2
              obtain ⟨_, ⟨_, _, _, rfl, _⟩, _⟩ := g3
              intro u hu; simp at hu; rcases hu with rfl | rfl | rfl | rfl <;> rfl
            case d3 => unfold maxLen; omega
            case d4 => omega
            case d5 => have := B3.out.size; simp; omega
            intro g2 cap2 w4 hown4 hgrow4 hat4 hlt4
            have al4 : Below w3.heap.size w3 (w3.alloc (.cells #[.int .i64 n.kind, c1, c2, c3] 26)) := (Below.refl _ _).alloc (Nat.le_refl _) _
            have B4 := Hid.mk ((keepB B3.out al4 (Nat.le_refl _)).grown hgrow4 (by have := B3.out.size; simp; omega) (fun k hk => own_ge HG3.out hk))
            have HE4 := Hid.mk (owns_other (owns_below HE3.out al4) (owns_below HG3.out al4) hgrow4 (by decide))
            have HG4 := Hid.mk (GoodRow.snoc (w := w3) HG3.out HGE.out PN.out hown4)
            clear hown4 hgrow4 hat4 hlt4 al4 HG3 HE3 B3 r0 r1 r2 r3
            go_wp2
            go_roundw
            case rel => exact ⟨i + 1, ns ++ [n], _, _, rfl, rfl, by go_num, by omega, by omega, by rw [List.length_append, List.length_singleton]; omega, HM2.out, rfl, HE4.out, HG4.out, B4.out⟩
            case measure => simp [intOf]; omega
          · rw [packV_not hm] at P1
            clear hm
            go_wp2_with fail
            refine P1.out.mono ?_
            rintro e w2 ⟨rfl, hb2⟩
            have B2 := Hid.mk (keepB B1.out hb2 (Nat.le_refl _))
            have HE2 := Hid.mk (owns_below HE1.out hb2)
            have HG2 := Hid.mk (HG1.out.below hb2)
            clear r0 r1 r2 r3 hb2 HE1 HG1 B1 P1
            go_wp2
            go_roundw
            case rel => exact ⟨i + 1, ns, _, _, rfl, rfl, by go_num, by omega, by omega, by omega, HM.out, rfl, HE2.out, HG2.out, B2.out⟩
            case measure => simp [intOf]; omega
    · obtain ⟨W5, hW5⟩ : ∃ W, W = wr := ⟨_, rfl⟩
      subst hW5
      obtain ⟨q, hq, hq2⟩ : ∃ q : Nat, bits .and .i64 cut 1048575 = (q : Int) ∧ q ≤ 1048575 := ⟨(cut % 1048576).toNat, by rw [i64_mask cut 20 1048575 1048576 (by omega) (by decide) (by decide)]; omega, by omega⟩
      obtain ⟨k, hk⟩ : ∃ k : Nat, (q : Int) % (((seals ns).length : Int) + 1) = (k : Int) := ⟨((q : Int) % (((seals ns).length : Int) + 1)).toNat, by rw [Int.toNat_of_nonneg (Int.emod_nonneg _ (by omega))]⟩
      have hkl : k ≤ (seals ns).length := by have := Int.emod_lt_of_pos (q : Int) (b := ((seals ns).length : Int) + 1) (by omega); omega
      have hkI : (k : Int) ≤ ((seals ns).length : Int) := by omega
      have hx := extract_to (seals ns) k
      obtain ⟨S, hS⟩ : ∃ S, S = seals ns := ⟨_, rfl⟩
      rw [← hS] at hx hsb hss hk hkl hkI ⊢
      have HSS := Hid.mk hS
      clear hS
      obtain ⟨T, hT⟩ : ∃ T, T = S.take k := ⟨_, rfl⟩
      rw [← hT] at hx
      have HT := Hid.mk hT
      have hTl : T.length ≤ 1073741824 := by rw [hT, List.length_take]; omega
      have CA : Hid (∀ w, Calls Try.prog 18 #[.string ⟨T.toArray⟩] w (AEnd T w)) := Hid.mk (fun w => all_any T w hTl)
      unfold AEnd at CA
      have hstop : ¬ (i : Int) < (notes.length : Int) ∨ ¬ (i : Int) < 12 := by omega
      have hgo : (¬ (i : Int) < (notes.length : Int)) ∨ ((i : Int) < (notes.length : Int) ∧ ¬ (i : Int) < 12) := by omega
      obtain ⟨ag, cg, hvg⟩ : ∃ ao cap, vg = .slice ao ns.length cap := by obtain ⟨cs, h1, _⟩ := HG.out; exact own_slice h1
      obtain ⟨ae, ce, hve⟩ := own_slice HE.out
      subst hvg hve
      clear hT hTl hstop hlt
      rcases hgo with hgo | ⟨hgo, hgo2⟩
      all_goals (
        go_wp2_with fail
        refine (CA.out _).mono ?_
        rintro e w6 ⟨v6, rfl, hown6, hb6⟩
        have B6 := Hid.mk (keepB HB.out hb6 (Nat.le_refl _))
        have HE6 := Hid.mk (owns_below HE.out hb6)
        have HG6 := Hid.mk (HG.out.below hb6)
        have HN6 := Hid.mk hown6
        clear hb6 hown6
        obtain ⟨A, E, hAE⟩ : ∃ A E, allP T = (A, E) := ⟨_, _, rfl⟩
        rw [hAE] at HN6 ⊢
        simp only at HN6 ⊢
        have HAE := Hid.mk hAE
        clear hAE
        obtain ⟨a6, c6, hv6⟩ : ∃ ao cap, v6 = .slice ao A.length cap := by obtain ⟨cs, h1, _⟩ := HN6.out; exact own_slice h1
        subst hv6
        have hcg : ns.length ≤ cg := by obtain ⟨cs, h1, _⟩ := HG6.out; exact own_cap h1
        have HI : Hid (IntsAt w6 (.slice ae ns.length ce) (endsOf ns)) := Hid.mk (by
          have h1 := HE6.out
          have h2 : ns.length = (intCs (endsOf ns)).length := by rw [intCs_len, endsOf_len]
          have h3 : w6.ownsRow w.heap.size 3 1 (.slice ae ns.length ce) (intCs (endsOf ns)).length (intCs (endsOf ns)) := by rw [← h2]; exact h1
          exact valsAt_own h3 (by rw [← h2]; omega))
        obtain ⟨_, ao7, cp7, e7, hends⟩ := HI.out.parts
        simp only [Value.slice.injEq] at e7
        obtain ⟨rfl, _, rfl⟩ := e7
        have HEN := Hid.mk hends
        have hns12 : ns.length ≤ 12 := by omega
        clear hends HI HE6 hq hq2 hk
        go_wp2
        go_loop [14, 15] (fun x y => ∃ m : Nat, m ≤ ns.length ∧ x = .int .i64 m ∧ y = .int .i64 ((seals (ns.take m)).length : Int) ∧ (seals (ns.take m)).length ≤ k) (fun x _ => ns.length - (intOf x).toNat)
        case atStart => exact ⟨0, Nat.zero_le _, rfl, by simp [seals], by simp [seals]⟩
        case round =>
          obtain ⟨m, hm, rfl, rfl, hmk⟩ := hrel
          have FIN : Hid ((m < ns.length → k < (seals (ns.take (m + 1))).length) → A = ns.take m ∧ E = (seals (ns.take m)).length) := Hid.mk (fun h2 => by
            have e1 := allP_cut ns HM.out k m hm hmk h2
            rw [← HSS.out, ← HT.out, HAE.out] at e1
            exact ⟨congrArg Prod.fst e1, congrArg Prod.snd e1⟩)
          by_cases hlt2 : m < ns.length
          · have hltJ : (m : Int) < (ns.length : Int) := by omega
            rcases HEN.out with hnil | ⟨b, o, rfl, hl, hc⟩
            · exfalso
              have := endsOf_len ns
              rw [hnil] at this
              simp at this
              omega
            · have hcx := hc m _ (endsOf_at ns m hlt2)
              obtain ⟨X, hX⟩ : ∃ X, X = (seals (ns.take (m + 1))).length := ⟨_, rfl⟩
              obtain ⟨Y, hY⟩ : ∃ Y, Y = (seals (ns.take m)).length := ⟨_, rfl⟩
              rw [← hX] at hcx FIN
              rw [← hY] at hmk FIN ⊢
              have HXX := Hid.mk hX
              clear hc hX
              by_cases hXk : X ≤ k
              · have hXI : (X : Int) ≤ (k : Int) := by omega
                clear FIN hY
                go_wp2
                go_round
                case rel => exact ⟨m + 1, by omega, by go_num, by rw [← HXX.out], by rw [← HXX.out]; exact hXk⟩
                case measure => simp [intOf]; omega
              · have hXI : ¬ (X : Int) ≤ (k : Int) := by omega
                obtain ⟨f1, f2⟩ := FIN.out (fun _ => by omega)
                have NT := Hid.mk (notesAt_take (HG6.out.at_ B6.out (by omega)) m hm)
                have NA := Hid.mk (HN6.out.at_ (by rw [f1, List.length_take]; omega))
                rw [f1] at NA
                have C := Hid.mk (sameAll_any _ _ _ _ w6 NA.out NT.out)
                rw [decide_eq_true rfl] at C
                have hAl : A.length = m := by rw [f1, List.length_take]; omega
                have hTm : (ns.take m).length = m := by rw [List.length_take]; omega
                rw [hTm] at C
                rw [hAl]
                subst f2
                have hm1 : (m : Int) ≤ (cg : Int) := by omega
                clear FIN f1 NA NT hY HXX hXk hAl hTm
                go_wp2_with fail
                refine C.out.mono ?_
                rintro e w7 ⟨rfl, hb7⟩
                have B7 := Hid.mk (keepB B6.out hb7 (Nat.le_refl _))
                clear hb7
                go_wp2_with fail
                refine (AWAKE.out _ B7.out).mono ?_
                rintro e w8 ⟨rfl, hb8⟩
                go_wp2
                go_ret
                exact ⟨rfl, hb8⟩
          · have hltJ : ¬ (m : Int) < (ns.length : Int) := by omega
            obtain ⟨Y, hY⟩ : ∃ Y, Y = (seals (ns.take m)).length := ⟨_, rfl⟩
            rw [← hY] at hmk FIN ⊢
            obtain ⟨f1, f2⟩ := FIN.out (fun h => absurd h hlt2)
            have NT := Hid.mk (notesAt_take (HG6.out.at_ B6.out (by omega)) m hm)
            have NA := Hid.mk (HN6.out.at_ (by rw [f1, List.length_take]; omega))
            rw [f1] at NA
            have C := Hid.mk (sameAll_any _ _ _ _ w6 NA.out NT.out)
            rw [decide_eq_true rfl] at C
            have hAl : A.length = m := by rw [f1, List.length_take]; omega
            have hTm : (ns.take m).length = m := by rw [List.length_take]; omega
            rw [hTm] at C
            rw [hAl]
            subst f2
            have hm1 : (m : Int) ≤ (cg : Int) := by omega
            clear FIN f1 NA NT hY hAl hTm
            go_wp2_with fail
            refine C.out.mono ?_
            rintro e w7 ⟨rfl, hb7⟩
            have B7 := Hid.mk (keepB B6.out hb7 (Nat.le_refl _))
            clear hb7
            go_wp2_with fail
            refine (AWAKE.out _ B7.out).mono ?_
            rintro e w8 ⟨rfl, hb8⟩
            go_wp2
            go_ret
            exact ⟨rfl, hb8⟩)
end Go.Proofs.Ytgmeehkikamkoaa
