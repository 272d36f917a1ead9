/- The walk of the statement of a note's bytes, and back, whatever stands behind. -/
import Derived.Test.YtgmeehkikamkoaaWPacks
namespace Go.Proofs.Ytgmeehkikamkoaa
open Go.RowKit

set_option maxHeartbeats 4000000 in
set_option maxRecDepth 100000 in
theorem wirePacks_walk (va : Value) (n : NoteD) (s : ByteArray) (w : World) (ha : NoteAt w va n) (hs : n.sane) (_ : s.size ≤ 140737488351232) :
    Calls Try.prog 3 #[va, .string s] w fun e w' => e = .returned (.bool true) ∧ Below w.heap.size w w' := by
  obtain ⟨tl, rfl⟩ : ∃ l : List UInt8, s = ⟨l.toArray⟩ := ⟨s.data.toList, (bytes_eta s).symm⟩
  have hsz := size_list tl
  have hN := ha
  obtain ⟨vn, vt, vr, rfl, _⟩ := ha
  obtain ⟨W0, hW0⟩ : ∃ W0, W0 = w.alloc (.cells #[.int .i64 n.kind, vn, vt, vr] 26) := ⟨_, rfl⟩
  have t2 : Below w.heap.size w W0 := by rw [hW0]; exact (Below.refl _ _).alloc (Nat.le_refl _) _
  have NA := Hid.mk (hN.below t2)
  have HS := Hid.mk hs
  have HW0 := Hid.mk hW0
  have CELLS : Hid (∀ wr, Below W0.heap.size W0 wr → (wr.cell? ⟨w.heap.size, 0, none⟩ = some (.int .i64 n.kind) ∧ wr.cell? ⟨w.heap.size, 1, none⟩ = some vn ∧ wr.cell? ⟨w.heap.size, 2, none⟩ = some vt ∧ wr.cell? ⟨w.heap.size, 3, none⟩ = some vr) ∧ Below w.heap.size w wr) := Hid.mk (fun wr h => by
    refine ⟨by rw [hW0] at h; exact box_cells h, t2.trans (h.mono (by rw [hW0]; simp))⟩)
  have AWAKE : Hid (∀ wr, Below W0.heap.size W0 wr → Calls Try.prog 10 #[] wr fun e w' => e = .returned (.bool true) ∧ Below w.heap.size w w') := Hid.mk (fun wr h => (awake_any wr).mono fun e w' ⟨h1, h2⟩ => ⟨h1, (CELLS.out _ (keepB h h2 (Nat.le_refl _))).2⟩)
  have SK : Hid (∀ wr, Below W0.heap.size W0 wr → (wr.cell? ⟨w.heap.size, 0, none⟩ = some (.int .i64 n.kind) ∧ wr.cell? ⟨w.heap.size, 1, none⟩ = some vn ∧ wr.cell? ⟨w.heap.size, 2, none⟩ = some vt ∧ wr.cell? ⟨w.heap.size, 3, none⟩ = some vr ∧ Below W0.heap.size W0 wr)) := Hid.mk (fun wr h => by
    obtain ⟨⟨c0, c1, c2, c3⟩, _⟩ := CELLS.out wr h
    exact ⟨c0, c1, c2, c3, h⟩)
  have KP : Hid (∀ w1 w2, (w1.cell? ⟨w.heap.size, 0, none⟩ = some (.int .i64 n.kind) ∧ w1.cell? ⟨w.heap.size, 1, none⟩ = some vn ∧ w1.cell? ⟨w.heap.size, 2, none⟩ = some vt ∧ w1.cell? ⟨w.heap.size, 3, none⟩ = some vr ∧ Below W0.heap.size W0 w1) → Below w1.heap.size w1 w2 →
      (w2.cell? ⟨w.heap.size, 0, none⟩ = some (.int .i64 n.kind) ∧ w2.cell? ⟨w.heap.size, 1, none⟩ = some vn ∧ w2.cell? ⟨w.heap.size, 2, none⟩ = some vt ∧ w2.cell? ⟨w.heap.size, 3, none⟩ = some vr ∧ Below W0.heap.size W0 w2)) := Hid.mk (fun w1 w2 h h2 => SK.out _ (keepB h.2.2.2.2 h2 (Nat.le_refl _)))
  clear hW0 t2 hN hs
  go_enter Try.func3, Try.ntmps3
  go_wp2_with fail
  rw [← HW0.out]
  refine (light_any _ n W0 NA.out).mono ?_
  rintro e w1 ⟨⟨b1, rfl⟩, hb1⟩
  obtain ⟨⟨g0, g1, g2, g3⟩, _⟩ := CELLS.out _ hb1
  have B1 := Hid.mk hb1
  clear hb1
  cases b1 with
  | false =>
    go_wp2_with fail
    refine (AWAKE.out _ B1.out).mono ?_
    rintro e w2 ⟨rfl, hb2⟩
    go_wp2
    go_ret
    exact ⟨rfl, hb2⟩
  | true =>
    by_cases hz0 : 8192 < tl.length
    · go_wp2_with fail
      refine (AWAKE.out _ B1.out).mono ?_
      rintro e w2 ⟨rfl, hb2⟩
      go_wp2
      go_ret
      exact ⟨rfl, hb2⟩
    · have P1 := Hid.mk (pack_any _ n w1 (NA.out.below B1.out) HS.out)
      have P2 : Hid (∀ wr, Below W0.heap.size W0 wr → Calls Try.prog 12 #[.agg #[.int .i64 n.kind, vn, vt, vr]] wr fun e w' => e = .returned (packV n) ∧ Below wr.heap.size wr w') := Hid.mk (fun wr h => rPack_any _ n wr (NA.out.below h))
      have C1 : Hid (∀ wr, Below W0.heap.size W0 wr → Calls Try.prog 13 #[.agg #[.int .i64 n.kind, vn, vt, vr]] wr fun e w' => e = .returned (.int .i64 (if n.may then 0 else 1)) ∧ Below wr.heap.size wr w') := Hid.mk (fun wr h => check_any _ n wr (NA.out.below h) HS.out)
      have C2 : Hid (∀ wr, Below W0.heap.size W0 wr → Calls Try.prog 14 #[.agg #[.int .i64 n.kind, vn, vt, vr]] wr fun e w' => e = .returned (.int .i64 (if n.may then 0 else 1)) ∧ Below wr.heap.size wr w') := Hid.mk (fun wr h => rCheck_any _ n wr (NA.out.below h))
      by_cases hm : n.may
      · have HP := Hid.mk (packV_may hm)
        rw [HP.out] at P1 P2
        rw [if_pos hm] at C1 C2
        have hbm := hm.2.2
        have hsl := sealB_len n.body
        have hun := unpackP_seal n hm tl
        obtain ⟨l, hl⟩ : ∃ l, l = sealB n.body := ⟨_, rfl⟩
        rw [← hl] at P1 P2 hsl hun
        have hll : l.length ≤ 1048584 := by omega
        have hzl := size_list l
        have hA1 : (⟨l.toArray⟩ : ByteArray) ++ ⟨tl.toArray⟩ = ⟨(l ++ tl).toArray⟩ := append_list l ⟨tl.toArray⟩
        obtain ⟨q, hq⟩ : ∃ q, q = l ++ tl := ⟨_, rfl⟩
        rw [← hq] at hA1 hun
        have hql : q.length ≤ 140737488351232 := by rw [hq, List.length_append]; omega
        have CU : Hid (∀ w, Calls Try.prog 15 #[.string ⟨q.toArray⟩] w (UEnd q w)) := Hid.mk (fun w => unpack_any q w hql)
        unfold UEnd at CU
        rw [hun] at CU
        simp only at CU
        have hne : (l == l) = true := by simp
        clear hm hbm hsl hun hl hq hql HP
        go_wp2_with fail
        refine P1.out.mono ?_
        rintro e w2 ⟨rfl, hb2⟩
        have B2 := Hid.mk (keepB B1.out hb2 (Nat.le_refl _))
        clear hb2 g0 g1 g2 g3 P1 B1
        obtain ⟨⟨g0, g1, g2, g3⟩, _⟩ := CELLS.out _ B2.out
        go_wp2_with fail
        refine (P2.out _ B2.out).mono ?_
        rintro e w3 ⟨rfl, hb3⟩
        have B3 := Hid.mk (keepB B2.out hb3 (Nat.le_refl _))
        have S3 := Hid.mk (SK.out _ B3.out.drew)
        clear hb3 g0 g1 g2 g3 P2 B2
        go_wp2_with fail
        go_region_held (fun w' => w'.cell? ⟨w.heap.size, 0, none⟩ = some (.int .i64 n.kind) ∧ w'.cell? ⟨w.heap.size, 1, none⟩ = some vn ∧ w'.cell? ⟨w.heap.size, 2, none⟩ = some vt ∧ w'.cell? ⟨w.heap.size, 3, none⟩ = some vr ∧ Below W0.heap.size W0 w')
          (first | exact S3.out | exact KP.out _ _ (by assumption) (by assumption))
          (first
            | (go_at_call 13; refine (C1.out _ (by assumption : _ ∧ _ ∧ _ ∧ _ ∧ Below W0.heap.size W0 _).2.2.2.2).mono ?_; rintro e w4 ⟨rfl, hb4⟩)
            | (go_at_call 14; refine (C2.out _ (by assumption : _ ∧ _ ∧ _ ∧ _ ∧ Below W0.heap.size W0 _).2.2.2.2).mono ?_; rintro e w4 ⟨rfl, hb4⟩))
        all_goals (
          have B4 := Hid.mk (by assumption : _ ∧ _ ∧ _ ∧ _ ∧ Below W0.heap.size W0 w4).2.2.2.2
          obtain ⟨W4, hW4⟩ : ∃ W, W = w4 := ⟨_, rfl⟩
          subst hW4
          clear hb4 B3 S3 C1 C2
          go_wp2_with fail
          refine (CU.out _).mono ?_
          rintro e w5 ⟨v5, rfl, hown, hb5⟩
          obtain ⟨a0, l0, c0, a1, l1, c1, a2, l2, c2, rfl⟩ := own_parts hown
          have bel5 : Below w5.heap.size w5 (w5.alloc (.cells #[.int .i64 n.kind, .slice a0 l0 c0, .slice a1 l1 c1, .slice a2 l2 c2] 26)) := (Below.refl _ _).alloc (Nat.le_refl _) _
          have B5 := Hid.mk (keepB (keepB B4.out hb5 (Nat.le_refl _)) bel5 (Nat.le_refl _))
          have C := Hid.mk (sameN_any _ _ n n _ (NA.out.below B5.out) (hown.at_.below bel5))
          rw [decide_eq_true rfl] at C
          have hlt5 : w.heap.size < w5.heap.size := Nat.lt_of_lt_of_le (by rw [HW0.out]; simp) (keepB B4.out hb5 (Nat.le_refl _)).size
          obtain ⟨⟨g0, g1, g2, g3⟩, _⟩ := CELLS.out _ (keepB B4.out hb5 (Nat.le_refl _))
          clear hown hb5 bel5 CU
          go_wp2_with fail
          refine C.out.mono ?_
          rintro e w6 ⟨rfl, hb6⟩
          have B6 := Hid.mk (keepB B5.out hb6 (Nat.le_refl _))
          clear hb6 C g0 g1 g2 g3
          go_wp2_with fail
          refine (AWAKE.out _ B6.out).mono ?_
          rintro e w7 ⟨rfl, hb7⟩
          go_wp2
          go_ret
          exact ⟨rfl, hb7⟩)
      · have HP := Hid.mk (packV_not hm)
        rw [HP.out] at P1 P2
        rw [if_neg hm] at C1 C2
        clear hm HP
        go_wp2_with fail
        refine P1.out.mono ?_
        rintro e w2 ⟨rfl, hb2⟩
        have B2 := Hid.mk (keepB B1.out hb2 (Nat.le_refl _))
        clear hb2 g0 g1 g2 g3 P1 B1
        obtain ⟨⟨g0, g1, g2, g3⟩, _⟩ := CELLS.out _ B2.out
        go_wp2_with fail
        refine (P2.out _ B2.out).mono ?_
        rintro e w3 ⟨rfl, hb3⟩
        have B3 := Hid.mk (keepB B2.out hb3 (Nat.le_refl _))
        have S3 := Hid.mk (SK.out _ B3.out.drew)
        clear hb3 g0 g1 g2 g3 P2 B2
        go_wp2_with fail
        go_region_held (fun w' => w'.cell? ⟨w.heap.size, 0, none⟩ = some (.int .i64 n.kind) ∧ w'.cell? ⟨w.heap.size, 1, none⟩ = some vn ∧ w'.cell? ⟨w.heap.size, 2, none⟩ = some vt ∧ w'.cell? ⟨w.heap.size, 3, none⟩ = some vr ∧ Below W0.heap.size W0 w')
          (first | exact S3.out | exact KP.out _ _ (by assumption) (by assumption))
          (first
            | (go_at_call 13; refine (C1.out _ (by assumption : _ ∧ _ ∧ _ ∧ _ ∧ Below W0.heap.size W0 _).2.2.2.2).mono ?_; rintro e w4 ⟨rfl, hb4⟩)
            | (go_at_call 14; refine (C2.out _ (by assumption : _ ∧ _ ∧ _ ∧ _ ∧ Below W0.heap.size W0 _).2.2.2.2).mono ?_; rintro e w4 ⟨rfl, hb4⟩))
        all_goals (
          have B4 := Hid.mk (by assumption : _ ∧ _ ∧ _ ∧ _ ∧ Below W0.heap.size W0 w4).2.2.2.2
          obtain ⟨W4, hW4⟩ : ∃ W, W = w4 := ⟨_, rfl⟩
          subst hW4
          clear hb4 B3 S3 C1 C2
          go_wp2_with fail
          refine (AWAKE.out _ B4.out).mono ?_
          rintro e w7 ⟨rfl, hb7⟩
          go_wp2
          go_ret
          exact ⟨rfl, hb7⟩)
end Go.Proofs.Ytgmeehkikamkoaa
