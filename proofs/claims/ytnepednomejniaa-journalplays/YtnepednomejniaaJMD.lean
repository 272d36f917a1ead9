/- For every room and all calls, JournalPlays returns true: whatever is written, made sure, lost and begun anew, the program's journal holds what the document's does. No condition. -/
import Derived.Test.YtnepednomejniaaJMC
import Derived.Test.YtnepednomejniaaRows
import Derived.WalkKit
import Derived.ProofKit
import Derived.OpenShut
import Derived.ShutString
import Derived.SizedLaws
namespace Go.Proofs.Ytnepednomejniaa
open Go.RowKit

theorem Both.more {w0 : World} {S T : Nat → Prop} {w : World} {p room : Nat} {vn ve : Value} {ns : List NoteD} {s : Nat} (h : Both w0 S w p room vn ve ns s) (hs : ∀ k, T k → S k) (hq : QAt w0 T w vn ve ns) (ha : ∀ k, k < w0.heap.size → T k) : Both w0 T w p room vn ve ns s :=
  ⟨h.j.more (fun k hk => .inl (hs k hk)), hq, fun k hk => h.low k (hs k hk), ha, h.bel⟩

set_option maxHeartbeats 8000000 in
set_option maxRecDepth 100000 in
theorem journalPlays_walk (room : Int) (vs : Value) (os : List OpD) (w : World) (_ : (Lit.int .i64 room).wf = true) (hv : OpsAt w vs os) :
    Calls Try.prog 3 #[.int .i64 room, vs] w fun e w' => e = .returned (.bool true) ∧ Below w.heap.size w w' := by
  obtain ⟨hlen, ao, cap, rfl, hc⟩ := hv
  have HC := Hid.mk hc
  clear hc
  have hS : Low (fun k => k < w.heap.size) w := fun k hk => hk
  have HS := Hid.mk hS
  clear hS
  have AWAKE : Hid (∀ wr, Below w.heap.size w wr → Calls Try.prog 11 #[] wr fun e w' => e = .returned (.bool true) ∧ Below w.heap.size w w') := Hid.mk (fun wr h => (jawake_any wr).mono fun e w' ⟨h1, h2⟩ => ⟨h1, keepB h h2 (Nat.le_refl _)⟩)
  go_enter Try.func3, Try.ntmps3
  go_wp2_with fail
  refine (new_any room w).mono ?_
  rintro e w1 ⟨hb1, ⟨hno, rfl⟩ | ⟨hok, rfl, hz⟩⟩
  · have B1 := Hid.mk hb1
    have HNO := Hid.mk hno
    clear hb1 hno
    go_wp2_with fail
    refine (rNew_any room w1).mono ?_
    rintro e w2 ⟨hb2, ⟨_, rfl⟩ | ⟨hok, rfl⟩⟩
    · have B2 := Hid.mk (keepB (keepB B1.out hb2 (Nat.le_refl _)) ((Below.refl w2.heap.size w2).alloc (Nat.le_refl _) (.cells #[.int .i64 0, .int .i64 0, .slice none 0 0, .slice none 0 0] 30)) (Nat.le_refl _))
      clear hb2
      go_wp2_with fail
      refine (AWAKE.out _ B2.out).mono ?_
      rintro e w3 ⟨rfl, hb3⟩
      go_wp2
      go_ret
      exact ⟨rfl, hb3⟩
    · exact absurd hok HNO.out
  · obtain ⟨R, rfl⟩ : ∃ R : Nat, room = (R : Int) := ⟨room.toNat, by have := hok.1; omega⟩
    have hR : R ≤ 67108864 := by have := hok.2; omega
    have J1 := Hid.mk (J.zero HS.out hz (by simpa using hR))
    have B1 := Hid.mk hb1
    have HOK := Hid.mk hok
    clear hb1 hok hz
    go_wp2_with fail
    refine (rNew_any (R : Int) w1).mono ?_
    rintro e w2 ⟨hb2, ⟨hno, _⟩ | ⟨_, rfl⟩⟩
    · exact absurd HOK.out hno
    · obtain ⟨W2, hW2⟩ : ∃ W, W = w2.alloc (.cells #[.int .i64 (R : Int), .int .i64 0, .slice none 0 0, .slice none 0 0] 30) := ⟨_, rfl⟩
      have al2 : Below w2.heap.size w2 W2 := by rw [hW2]; exact (Below.refl _ _).alloc (Nat.le_refl _) _
      have hbox : W2.heap[w2.heap.size]? = some (.cells #[.int .i64 (R : Int), .int .i64 0, .slice none 0 0, .slice none 0 0] 30 (0, 0)) := by rw [hW2]; exact box_at w2 _
      have b12 := keepB hb2 al2 (Nat.le_refl _)
      have B2 : Hid (Both w (Plus (fun k => k < w.heap.size) w1.heap.size W2.heap.size) W2 w.heap.size R (.slice none 0 0) (.slice none 0 0) [] 0) := Hid.mk ⟨by simpa using J1.out.plus b12, QAt.nil _ _ _, (HS.out.below B1.out).plus b12.size, fun k hk => .inl hk, keepB B1.out b12 (Nat.le_refl _)⟩
      have HIN : Hid (Plus (fun k => k < w.heap.size) w1.heap.size W2.heap.size w2.heap.size) := Hid.mk (.inr ⟨hb2.size, lt_of_block hbox⟩)
      have HBX := Hid.mk hbox
      have HBQ : Hid (w.heap.size ≤ w2.heap.size) := Hid.mk (Nat.le_trans B1.out.size hb2.size)
      have HW2 := Hid.mk hW2
      obtain ⟨S0, hS0⟩ : ∃ S0, S0 = Plus (fun k => k < w.heap.size) w1.heap.size W2.heap.size := ⟨_, rfl⟩
      rw [← hS0] at B2 HIN
      clear hW2 al2 hbox b12 hb2 J1 B1 hS0 HS
      go_wp2
      go_loopw [9] (fun c wr => ∃ (i : Nat) (S : Nat → Prop) (vn ve : Value) (ns : List NoteD) (s : Nat), c = .int .i64 i ∧ i ≤ 100 ∧ i ≤ os.length ∧ Both w S wr w.heap.size R vn ve ns s ∧ S w2.heap.size ∧ wr.heap[w2.heap.size]? = some (.cells #[.int .i64 (R : Int), .int .i64 ((seals (ns.take s)).length : Nat), vn, ve] 30 (0, 0))) (fun c _ => 100 - (intOf c).toNat)
      case atStart => exact ⟨0, S0, _, _, [], 0, rfl, Nat.zero_le _, Nat.zero_le _, by rw [← HW2.out]; exact B2.out, HIN.out, by rw [← HW2.out]; exact HBX.out⟩
      case round =>
        obtain ⟨i, S, vn, ve, ns, s, rfl, hi100, hin, hB, hSq, hbx⟩ := hrel
        have HB := Hid.mk hB
        have HSQ := Hid.mk hSq
        have HBK := Hid.mk hbx
        clear hB hSq hbx B2 HIN HBX
        obtain ⟨a1, k1, a2, k2, ev1, ev2, _, _⟩ := HB.out.q.slices
        subst ev1 ev2
        obtain ⟨W3, hW3⟩ : ∃ W, W = wr := ⟨_, rfl⟩
        subst hW3
        obtain ⟨su, hsu⟩ : ∃ x, x = (seals (ns.take s)).length := ⟨_, rfl⟩
        rw [← hsu] at HBK
        have HSU := Hid.mk hsu
        clear hsu
        by_cases hlt : i < os.length ∧ i < 100
        · obtain ⟨hlt, hlt100⟩ := hlt
          obtain ⟨o, ho⟩ : ∃ o, os[i]? = some o := ⟨_, List.getElem?_eq_getElem hlt⟩
          have hltI : (i : Int) < (os.length : Int) := by omega
          have hlt100I : (i : Int) < 100 := by omega
          rcases HC.out with hnil | ⟨g, off, rfl, hg, hc⟩
          · rw [hnil] at ho; simp at ho
          · obtain ⟨c3, c4, c5, c6, p0, p1, p2, p3, p4, p5, p6, po⟩ := hc i o ho
            have HPO := Hid.mk po
            obtain ⟨x1, x2, x3, vl, epo, hon, hos, hol, hoa⟩ := po
            simp only [Value.agg.injEq, Array.mk.injEq, List.cons.injEq, and_true, true_and] at epo
            obtain ⟨rfl, rfl, rfl, rfl⟩ := epo
            obtain ⟨y1, y2, y3, y4, y5, y6, y7, y8, y9, ec1, ec2, ec3⟩ := note_slices hon
            subst ec1 ec2 ec3
            have HOL := Hid.mk hol
            have HON := Hid.mk hon
            obtain ⟨_, lo, lc, hvl, _⟩ := hol
            subst hvl
            have key : ∀ j u, w.cell? ⟨g, j, none⟩ = some u → W3.cell? ⟨g, j, none⟩ = some u := fun j u h2 => (HB.out.bel.cell (p := ⟨g, j, none⟩) hg).trans h2
            have r0 := key _ _ p0
            have r1 := key _ _ p1
            have r2 := key _ _ p2
            have r3 := key _ _ p3
            have r4 := key _ _ p4
            have r5 := key _ _ p5
            have r6 := key _ _ p6
            obtain ⟨W4, hW4⟩ : ∃ W, W = W3.alloc (.cells #[.int .i64 o.kind, .int .i64 o.keep, .int .i64 o.n.kind, .slice y1 y2 y3, .slice y4 y5 y6, .slice y7 y8 y9, .slice lo o.all.length lc] 39) := ⟨_, rfl⟩
            have al4 : Below W3.heap.size W3 W4 := by rw [hW4]; exact (Below.refl _ _).alloc (Nat.le_refl _) _
            have bo4 : W4.heap[W3.heap.size]? = some (.cells #[.int .i64 o.kind, .int .i64 o.keep, .int .i64 o.n.kind, .slice y1 y2 y3, .slice y4 y5 y6, .slice y7 y8 y9, .slice lo o.all.length lc] 39 (0, 0)) := by rw [hW4]; exact box_at W3 _
            have HAL := Hid.mk al4
            have HBO := Hid.mk bo4
            have HW4 := Hid.mk hW4
            have CELLS : Hid (∀ wr, Below W4.heap.size W4 wr → wr.heap[W3.heap.size]? = some (.cells #[.int .i64 o.kind, .int .i64 o.keep, .int .i64 o.n.kind, .slice y1 y2 y3, .slice y4 y5 y6, .slice y7 y8 y9, .slice lo o.all.length lc] 39 (0, 0)) ∧ Below W3.heap.size W3 wr) := Hid.mk (fun wr hb => ⟨(hb.block _ (lt_of_block HBO.out)).trans HBO.out, HAL.out.trans (hb.mono HAL.out.size)⟩)
            clear hc ho hon hos hoa p0 p1 p2 p3 p4 p5 p6 key hW4 al4 bo4
            go_wp2
            go_loopw [11] (fun c wr => ∃ k : Nat, c = .int .i64 k ∧ k ≤ o.all.length ∧ Below W4.heap.size W4 wr) (fun c _ => o.all.length - (intOf c).toNat)
            case atStart => exact ⟨0, rfl, Nat.zero_le _, by rw [HW4.out]; exact Below.refl _ _⟩
            case round =>
              obtain ⟨k, rfl, hkl, hbk⟩ := hrel
              have HBW := Hid.mk hbk
              clear hbk r0 r1 r2 r3 r4 r5 r6
              obtain ⟨W5, hW5⟩ : ∃ W, W = wr := ⟨_, rfl⟩
              subst hW5
              obtain ⟨e0, b35⟩ := CELLS.out _ HBW.out
              obtain ⟨o0, o1, o2, o3, o4, o5, o6⟩ := seven_cells e0
              have HB5 := Hid.mk (HB.out.below b35)
              clear e0
              by_cases hlt2 : k < o.all.length
              · have hlt2I : (k : Int) < (o.all.length : Int) := by omega
                obtain ⟨n, hn⟩ : ∃ n, o.all[k]? = some n := ⟨_, List.getElem?_eq_getElem hlt2⟩
                obtain ⟨_, lo', lc', hvl2, hcl⟩ := HOL.out
                simp only [Value.slice.injEq, true_and] at hvl2
                obtain ⟨rfl, rfl⟩ := hvl2
                rcases hcl with hnil | ⟨g2, off2, rfl, hg2, hcl⟩
                · rw [hnil] at hn; simp at hn
                · obtain ⟨d1, d2, d3, q0, q1, q2, q3, qn⟩ := hcl k n hn
                  have key : ∀ j u, w.cell? ⟨g2, j, none⟩ = some u → W5.cell? ⟨g2, j, none⟩ = some u := fun j u h2 => (HB5.out.bel.cell (p := ⟨g2, j, none⟩) hg2).trans h2
                  have s0 := key _ _ q0
                  have s1 := key _ _ q1
                  have s2 := key _ _ q2
                  have s3 := key _ _ q3
                  have CL := Hid.mk (jlight_any _ n _ (qn.below HB5.out.bel))
                  clear hcl hn q0 q1 q2 q3 qn key
                  by_cases h10 : (10 : Int) < (k : Int)
                  all_goals (
                    go_wp2_with fail
                    refine CL.out.mono ?_
                    rintro e w6 ⟨⟨b1, rfl⟩, hb6⟩
                    have B6 := Hid.mk (keepB HBW.out hb6 (Nat.le_refl _))
                    have B06 := Hid.mk (HB5.out.below hb6).bel
                    clear hb6 CL s0 s1 s2 s3 o0 o1 o2 o3 o4 o5 o6 b35)
                  · cases b1 with
                    | false =>
                      go_wp2_with fail
                      refine (AWAKE.out _ B06.out).mono ?_
                      rintro e w7 ⟨rfl, hb7⟩
                      go_wp2
                      go_ret
                      exact ⟨rfl, hb7⟩
                    | true =>
                      go_wp2_with fail
                      refine (AWAKE.out _ B06.out).mono ?_
                      rintro e w7 ⟨rfl, hb7⟩
                      go_wp2
                      go_ret
                      exact ⟨rfl, hb7⟩
                  · cases b1 with
                    | false =>
                      go_wp2_with fail
                      refine (AWAKE.out _ B06.out).mono ?_
                      rintro e w7 ⟨rfl, hb7⟩
                      go_wp2
                      go_ret
                      exact ⟨rfl, hb7⟩
                    | true =>
                      go_wp2
                      go_roundw
                      case rel => exact ⟨k + 1, by go_num, by omega, B6.out⟩
                      case measure => simp [intOf]; omega
              · have hlt2I : ¬ (k : Int) < (o.all.length : Int) := by omega
                have CL := Hid.mk (jlight_any _ o.n _ (HON.out.below HB5.out.bel))
                go_wp2_with fail
                refine CL.out.mono ?_
                rintro e w6 ⟨⟨b1, rfl⟩, hb6⟩
                have B6 := Hid.mk (keepB HBW.out hb6 (Nat.le_refl _))
                have HB6 := Hid.mk (HB5.out.below hb6)
                have b36 := keepB b35 hb6 (Nat.le_refl _)
                have eq6 := (b36.block _ (lt_of_block HBK.out)).trans HBK.out
                have HQ6 := Hid.mk eq6
                clear hb6 CL o0 o1 o2 o3 o4 o5 o6 b35 HB5 HBW
                obtain ⟨e0, _⟩ := CELLS.out _ B6.out
                obtain ⟨o0, o1, o2, o3, o4, o5, o6⟩ := seven_cells e0
                obtain ⟨⟨q0, q1, q2, q3⟩, _⟩ := four_cells eq6
                clear e0 eq6
                cases b1 with
                | false =>
                  go_wp2_with fail
                  refine (AWAKE.out _ HB6.out.bel).mono ?_
                  rintro e w7 ⟨rfl, hb7⟩
                  go_wp2
                  go_ret
                  exact ⟨rfl, hb7⟩
                | true =>
                  have CD := Hid.mk (does_any HB6.out _ o HPO.out)
                  rw [← HSU.out] at CD
                  go_wp2_with fail
                  refine CD.out.mono ?_
                  rintro e w7 ⟨S', vn', ve', ns', s', rfl, hsub, hB7, hF7⟩
                  obtain ⟨b1, d1, b2, d2, ee1, ee2, _, _⟩ := hB7.q.slices
                  subst ee1 ee2
                  obtain ⟨su', hsu'⟩ : ∃ x, x = (seals (ns'.take s')).length := ⟨_, rfl⟩
                  rw [← hsu']
                  have HSU2 := Hid.mk hsu'
                  have eq7 := (hF7.block _ HSQ.out).trans HQ6.out
                  have hlt7 : w2.heap.size < w7.heap.size := lt_of_block eq7
                  have al7 : Below (set4 w7 w2.heap.size (.int .i64 (R : Int)) (.int .i64 su') (.slice b1 ns'.length d1) (.slice b2 ns'.length d2)).heap.size (set4 w7 w2.heap.size (.int .i64 (R : Int)) (.int .i64 su') (.slice b1 ns'.length d1) (.slice b2 ns'.length d2)) ((set4 w7 w2.heap.size (.int .i64 (R : Int)) (.int .i64 su') (.slice b1 ns'.length d1) (.slice b2 ns'.length d2)).alloc (.cells #[.int .i64 (R : Int), .int .i64 su', .slice b1 ns'.length d1, .slice b2 ns'.length d2] 30)) := (Below.refl _ _).alloc (Nat.le_refl _) _
                  have eq8 := set4_block eq7 (.int .i64 (R : Int)) (.int .i64 su') (.slice b1 ns'.length d1) (.slice b2 ns'.length d2)
                  have HQ8 := Hid.mk ((al7.block _ (lt_of_block eq8)).trans eq8)
                  have HB8 := Hid.mk ((hB7.set4 eq7 (hsub _ HSQ.out) HBQ.out (.int .i64 (R : Int)) (.int .i64 su') (.slice b1 ns'.length d1) (.slice b2 ns'.length d2)).below al7)
                  have HSQ8 := Hid.mk (hsub _ HSQ.out)
                  clear q0 q1 q2 q3 o0 o1 o2 o3 o4 o5 o6 hsub hB7 hF7 hsu' al7 CD HQ6 HB6 b36 eq8
                  obtain ⟨⟨q0, q1, q2, q3⟩, ⟨f0, f1, f2, f3⟩⟩ := four_cells eq7
                  clear eq7
                  go_wp2
                  go_roundw
                  case rel => exact ⟨i + 1, S', _, _, ns', s', by go_num, by omega, by omega, HB8.out, HSQ8.out, by rw [← HSU2.out]; exact HQ8.out⟩
                  case measure => simp [intOf]; omega
        · have hgo : (¬ (i : Int) < (os.length : Int)) ∨ ((i : Int) < (os.length : Int) ∧ ¬ (i : Int) < 100) := by omega
          obtain ⟨X, hX⟩ : ∃ X, X = (seals ns).length := ⟨_, rfl⟩
          have CZ := Hid.mk (jsize_any HB.out.j)
          rw [← hX, ← HSU.out] at CZ
          have hcn := HB.out.j.count
          have CB : Hid (∀ w4, Below W3.heap.size W3 w4 → Calls Try.prog 17 #[qV R su (.slice a1 ns.length k1) (.slice a2 ns.length k2)] w4 fun e w' => e = .returned (.int .i64 (X : Int)) ∧ Below w4.heap.size w4 w') := Hid.mk (fun w4 h4 => by
            rw [hX]; exact rBytes_any (HB.out.q.below h4) R su (by omega))
          have CN : Hid (∀ w4, Below W3.heap.size W3 w4 → Calls Try.prog 16 #[.pointer (some ⟨w.heap.size, 0, none⟩)] w4 fun e w' => ∃ v, e = .returned v ∧ NotesAt w' v ns ∧ Below w4.heap.size w4 w') := Hid.mk (fun w4 h4 => by
            refine (jnotes_any (HB.out.j.below h4)).mono ?_
            rintro e w' ⟨v, rfl, hown, hb⟩
            exact ⟨v, rfl, hown.at_ (by omega), hb⟩)
          have CS : Hid (∀ w4 v, Below W3.heap.size W3 w4 → NotesAt w4 v ns → Calls Try.prog 15 #[v, .slice a1 ns.length k1] w4 fun e w' => e = .returned (.bool true) ∧ Below w4.heap.size w4 w') := Hid.mk (fun w4 v h4 hv4 => by
            have hb := HB.out.below h4
            have := sameAll_any v (.slice a1 ns.length k1) ns ns w4 hv4 (hb.q.notes.at_ hb.bel (by omega))
            rw [decide_eq_true rfl] at this
            exact this)
          have CA : Hid (∀ w4, Below W3.heap.size W3 w4 → Calls Try.prog 11 #[] w4 fun e w' => e = .returned (.bool true) ∧ Below w4.heap.size w4 w') := Hid.mk (fun w4 _ => jawake_any w4)
          clear hX hlt
          rcases hgo with hgo | ⟨hgo, hgo2⟩
          all_goals (
            go_wp2_with fail
            refine CZ.out.mono ?_
            rintro e w4 ⟨rfl, hb4⟩
            have eq4 := (hb4.block _ (lt_of_block HBK.out)).trans HBK.out
            have hltq : w2.heap.size < w4.heap.size := lt_of_block eq4
            obtain ⟨⟨q0, q1, q2, q3⟩, _⟩ := four_cells eq4
            have S2 : Hid (w4.drew.cell? ⟨w2.heap.size, 0, none⟩ = some (.int .i64 (R : Int)) ∧ w4.drew.cell? ⟨w2.heap.size, 1, none⟩ = some (.int .i64 su) ∧ w4.drew.cell? ⟨w2.heap.size, 2, none⟩ = some (.slice a1 ns.length k1) ∧ w4.drew.cell? ⟨w2.heap.size, 3, none⟩ = some (.slice a2 ns.length k2) ∧ Below W3.heap.size W3 w4.drew) := Hid.mk ⟨q0, q1, q2, q3, hb4.drew⟩
            have HL4 : Hid (W3.heap.size ≤ w4.heap.size) := Hid.mk hb4.size
            have HLQ : Hid (w2.heap.size < W3.heap.size) := Hid.mk (lt_of_block HBK.out)
            have KP : Hid (∀ w5 w6, (w5.cell? ⟨w2.heap.size, 0, none⟩ = some (.int .i64 (R : Int)) ∧ w5.cell? ⟨w2.heap.size, 1, none⟩ = some (.int .i64 su) ∧ w5.cell? ⟨w2.heap.size, 2, none⟩ = some (.slice a1 ns.length k1) ∧ w5.cell? ⟨w2.heap.size, 3, none⟩ = some (.slice a2 ns.length k2) ∧ Below W3.heap.size W3 w5) → Below w5.heap.size w5 w6 →
                (w6.cell? ⟨w2.heap.size, 0, none⟩ = some (.int .i64 (R : Int)) ∧ w6.cell? ⟨w2.heap.size, 1, none⟩ = some (.int .i64 su) ∧ w6.cell? ⟨w2.heap.size, 2, none⟩ = some (.slice a1 ns.length k1) ∧ w6.cell? ⟨w2.heap.size, 3, none⟩ = some (.slice a2 ns.length k2) ∧ Below W3.heap.size W3 w6)) := Hid.mk (fun w5 w6 h h6 => by
              obtain ⟨g0, g1, g2, g3, g4⟩ := h
              have l0 : w2.heap.size < w5.heap.size := Nat.lt_of_lt_of_le HLQ.out g4.size
              exact ⟨(h6.cell (p := ⟨w2.heap.size, 0, none⟩) l0).trans g0, (h6.cell (p := ⟨w2.heap.size, 1, none⟩) l0).trans g1, (h6.cell (p := ⟨w2.heap.size, 2, none⟩) l0).trans g2, (h6.cell (p := ⟨w2.heap.size, 3, none⟩) l0).trans g3, keepB g4 h6 (Nat.le_refl _)⟩)
            clear hb4 eq4 hltq q0 q1 q2 q3 CZ
            go_wp2_with fail
            go_region_held (fun w' => w'.cell? ⟨w2.heap.size, 0, none⟩ = some (.int .i64 (R : Int)) ∧ w'.cell? ⟨w2.heap.size, 1, none⟩ = some (.int .i64 su) ∧ w'.cell? ⟨w2.heap.size, 2, none⟩ = some (.slice a1 ns.length k1) ∧ w'.cell? ⟨w2.heap.size, 3, none⟩ = some (.slice a2 ns.length k2) ∧ Below W3.heap.size W3 w')
              (first | exact S2.out | exact KP.out _ _ (by assumption) (by assumption))
              (first
                | (go_at_call 16; refine (CN.out _ (by assumption : _ ∧ _ ∧ _ ∧ _ ∧ Below W3.heap.size W3 _).2.2.2.2).mono ?_; rintro e w5 ⟨v, rfl, hv5, hb5⟩)
                | (go_at_call 15; refine (CS.out _ _ (by assumption : _ ∧ _ ∧ _ ∧ _ ∧ Below W3.heap.size W3 _).2.2.2.2 hv5).mono ?_; rintro e w6 ⟨rfl, hb6⟩)
                | (go_at_call 17; refine (CB.out _ (by assumption : _ ∧ _ ∧ _ ∧ _ ∧ Below W3.heap.size W3 _).2.2.2.2).mono ?_; rintro e w7 ⟨rfl, hb7⟩)
                | (go_at_call 11; refine (CA.out _ (by assumption : _ ∧ _ ∧ _ ∧ _ ∧ Below W3.heap.size W3 _).2.2.2.2).mono ?_; rintro e w8 ⟨rfl, hb8⟩))
            all_goals (
              have hfin := (by assumption : _ ∧ _ ∧ _ ∧ _ ∧ Below W3.heap.size W3 w8).2.2.2.2
              have BF := Hid.mk (keepB HB.out.bel hfin (Nat.le_refl _))
              obtain ⟨W8, hW8⟩ : ∃ W, W = w8 := ⟨_, rfl⟩
              subst hW8
              clear hfin
              go_wp2
              go_ret
              exact ⟨rfl, BF.out⟩))
end Go.Proofs.Ytnepednomejniaa

namespace Go.Proofs.Ytnepednomejniaa
open Go.ChangeShapes Go.WideShapes Go.ChangeAt Go.RowKit
open Go.ChangeMaps (open_string shut_string)

namespace JournalPlaysTop
theorem own : ownKnob Try.prog.godebug = none := by kernel_rfl
theorem laidOut : laidOutB Try.prog = true := by kernel_rfl
set_option maxRecDepth 100000 in
theorem lifted (os : Os) (started : os.Started) (H : Type) (enc : TypeId × Value → H) :
    ReturnsInHanded {} Try.checked os 3 .any (Rows.journalPlaysSpec.pre6 enc Try.prog Try.f3 Rows.journalPlaysRow.domain false) (Rows.journalPlaysSpec.post enc Try.prog Try.f3 false true false false) := by
  refine returnsInHanded_of_change_sized (C := Try.checked) own started (by kernel_rfl) Try.func3
    (ChangeSpec.witness6 (enc := enc) (C := Try.checked) false ⟨#[], #[.int .i64 0, .slice none 0 0], []⟩ 8 (by kernel_rfl) (by kernel_rfl) (by kernel_rfl) (by kernel_rfl)) ?_
  intro W base args ds gs before hval0 hW _ hsz0 _
  have hsz : (DataW.weightsEach Try.prog (Try.f3.params.toList ++ Rows.journalPlaysSpec.plain.varTypes Try.prog) (ds ++ gs)).all (· ≤ reachBytes) = true := hsz0
  clear hsz0
  have hval : ∀ (j : Nat) t v, Try.f3.params[j]? = some t → args[j]? = some v → Value.okWide Try.prog W .any base t v := hval0
  have hW' := hW
  obtain ⟨p, q, hA0, hV, rfl, hfz, hnd⟩ := hW
  have hA : DataW.TrodAll enc Try.prog W 0 (fun _ => true) true Try.f3.params.toList args.toList ds p := hA0
  rw [Try.params3] at hA hval hsz
  obtain ⟨v0, vs0, d0, ds0, p0, q0, hargs, rfl, rfl, h0, r0⟩ := trodAll_cons hA
  obtain ⟨v1, vs1, d1, ds1, p1, q1, rfl, rfl, rfl, h1, r1⟩ := trodAll_cons r0
  obtain ⟨rfl, rfl, rfl⟩ := trodAll_nil r1
  obtain rfl : args = #[v0, v1] := by cases args; simp_all
  obtain ⟨rfl, rfl⟩ := trodVars_none hV
  obtain ⟨a0, rfl, rfl, rfl, w0⟩ := open_int Try.underlying3 (hval 0 3 v0 rfl rfl) h0
  obtain ⟨a1, len1, cap1, rfl⟩ := okWide_slice Try.underlying22 (hval 1 22 v1 rfl rfl)
  have k1 := h1
  have lt1 : ∀ x ∈ p1, x.block < W.heap.size := by obtain ⟨m, hm⟩ := k1; exact DataW.trod_lt m _ _ _ hm
  obtain ⟨z1, w1⟩ : ∃ os, OpsAt W (.slice a1 len1 cap1) os := by
    obtain ⟨fuel, hf⟩ := h1
    exact open_ops (by simpa [Value.cells] using hf) (fun m hm => by
      have := List.all_eq_true.1 hsz m (DataW.weights_mem_each (j := 1) (t := 22) rfl rfl m hm)
      simpa using this)
  clear hA0 hval0
  refine (journalPlays_walk a0 (.slice a1 len1 cap1) z1 W w0 w1).mono fun e W' ⟨he, bel⟩ => ?_
  subst he
  exact ⟨_, rfl, _, _, _, [], _, [], hW', trodAll_mk1 (shut_bool Try.underlying4 _), (trodAll_cons_mk (shut_int Try.underlying3 w0) (trodAll_cons_mk (Below.trod laidOut (by kernel_rfl) (of_decide_eq_true (by kernel_rfl)) k1 bel lt1) trodAll_mk0)), rfl, bel.frame _, fun h => by cases h⟩

theorem over : Rows.journalPlaysRow.holds Try.pinned (OpenSpec.ofChange Rows.journalPlaysSpec) :=
  OpenClaim.holds_of_wide 3 Try.f3 rfl rfl rfl rfl rfl rfl rfl ⟨rfl, rfl, rfl, rfl, rfl⟩ rfl rfl rfl rfl rfl (by kernel_rfl) Try.func3 (by kernel_rfl)
    (of_decide_eq_true (by kernel_rfl)) (by unfold Func.isWrapper; first | (rw [if_pos (by decide +kernel)]; kernel_rfl) | (rw [if_neg (by decide +kernel)]; exact ⟨rfl, rfl⟩))
    (fun os started H enc _ => lifted os started H enc)
end JournalPlaysTop

theorem journalPlays_holds : Rows.JournalPlaysSaid := JournalPlaysTop.over
end Go.Proofs.Ytnepednomejniaa
