/- The statement that two notes have the same bytes just if they are the same. -/
import Derived.Test.YtgmeehkikamkoabWOpen
namespace Go.Proofs.Ytgmeehkikamkoab
open Go.RowKit

theorem sealB_inj {a b : NoteD} (ha : a.may) (hb : b.may) (h : sealB a.body = sealB b.body) : a = b := by
  have e1 := unpackP_seal a ha []
  have e2 := unpackP_seal b hb []
  rw [h, e2] at e1
  exact (congrArg Prod.fst e1).symm

set_option maxHeartbeats 2000000 in
set_option maxRecDepth 100000 in
theorem wireApart_walk (va : Value) (x : NoteD) (vb : Value) (y : NoteD) (w : World) (ha : NoteAt w va x) (hs : x.sane) (hb : NoteAt w vb y) (hsy : y.sane) :
    Calls Try.prog 3 #[va, vb] w fun e w' => e = .returned (.bool true) ∧ Below w.heap.size w w' := by
  have hNa := ha
  have hNb := hb
  obtain ⟨vn, vt, vr, rfl, _⟩ := ha
  obtain ⟨un, ut, ur, rfl, _⟩ := hb
  obtain ⟨t0, t1, t2⟩ := two_blocks w (.cells #[.int .i64 x.kind, vn, vt, vr] 26) (.cells #[.int .i64 y.kind, un, ut, ur] 26)
  obtain ⟨W0, hW0⟩ : ∃ W0, W0 = (w.alloc (.cells #[.int .i64 x.kind, vn, vt, vr] 26)).alloc (.cells #[.int .i64 y.kind, un, ut, ur] 26) := ⟨_, rfl⟩
  rw [← hW0] at t0 t1 t2
  have T0 := Hid.mk t0
  have T1 := Hid.mk t1
  have T2 := Hid.mk t2
  have HW0 := Hid.mk hW0
  have NA := Hid.mk (hNa.below t2)
  have NB := Hid.mk (hNb.below t2)
  have SX := Hid.mk hs
  have SY := Hid.mk hsy
  have hz : Hid (W0.heap.size = w.heap.size + 2) := Hid.mk (by rw [hW0]; simp)
  clear t0 t1 t2 hW0 hNa hNb hs hsy
  have CELLS : Hid (∀ wr, Below W0.heap.size W0 wr → (wr.cell? ⟨w.heap.size, 0, none⟩ = some (.int .i64 x.kind) ∧ wr.cell? ⟨w.heap.size, 1, none⟩ = some vn ∧ wr.cell? ⟨w.heap.size, 2, none⟩ = some vt ∧ wr.cell? ⟨w.heap.size, 3, none⟩ = some vr) ∧
      (wr.cell? ⟨w.heap.size + 1, 0, none⟩ = some (.int .i64 y.kind) ∧ wr.cell? ⟨w.heap.size + 1, 1, none⟩ = some un ∧ wr.cell? ⟨w.heap.size + 1, 2, none⟩ = some ut ∧ wr.cell? ⟨w.heap.size + 1, 3, none⟩ = some ur) ∧ Below w.heap.size w wr) := Hid.mk (fun wr h => by
    have e0 := (h.block _ (lt_of_block T0.out)).trans T0.out
    have e1 := (h.block _ (lt_of_block T1.out)).trans T1.out
    exact ⟨(four_cells e0).1, (four_cells e1).1, T2.out.trans (h.mono (by have := hz.out; omega))⟩)
  have AWAKE : Hid (∀ wr, Below W0.heap.size W0 wr → Calls Try.prog 5 #[] wr fun e w' => e = .returned (.bool true) ∧ Below w.heap.size w w') := Hid.mk (fun wr h => (awake_any wr).mono fun e w' ⟨h1, h2⟩ => ⟨h1, (CELLS.out _ (keepB h h2 (Nat.le_refl _))).2.2⟩)
  go_enter Try.func3, Try.ntmps3
  go_wp2_with fail
  rw [← HW0.out]
  refine (light_any _ x W0 NA.out).mono ?_
  rintro e w1 ⟨⟨b1, rfl⟩, hb1⟩
  obtain ⟨⟨g0, g1, g2, g3⟩, ⟨k0, k1, k2, k3⟩, _⟩ := CELLS.out _ hb1
  have B1 := Hid.mk hb1
  have NB1 := Hid.mk (NB.out.below hb1)
  clear hb1
  cases b1 with
  | false =>
    go_wp2_with fail
    refine (AWAKE.out _ B1.out).mono ?_
    rintro e w2 ⟨rfl, hb2⟩
    go_wp2
    go_ret
    exact ⟨rfl, hb2⟩
  | true =>
    go_wp2_with fail
    refine (light_any _ y w1 NB1.out).mono ?_
    rintro e w2 ⟨⟨b2, rfl⟩, hb2⟩
    have B2 := Hid.mk (keepB B1.out hb2 (Nat.le_refl _))
    clear g0 g1 g2 g3 k0 k1 k2 k3 hb2
    obtain ⟨⟨g0, g1, g2, g3⟩, ⟨k0, k1, k2, k3⟩, _⟩ := CELLS.out _ B2.out
    cases b2 with
    | false =>
      go_wp2_with fail
      refine (AWAKE.out _ B2.out).mono ?_
      rintro e w3 ⟨rfl, hb3⟩
      go_wp2
      go_ret
      exact ⟨rfl, hb3⟩
    | true =>
      have P1 := Hid.mk (pack_any _ x w2 (NA.out.below B2.out) SX.out)
      go_wp2_with fail
      refine P1.out.mono ?_
      rintro e w3 ⟨rfl, hb3⟩
      have B3 := Hid.mk (keepB B2.out hb3 (Nat.le_refl _))
      clear g0 g1 g2 g3 k0 k1 k2 k3 hb3 P1
      obtain ⟨⟨g0, g1, g2, g3⟩, ⟨k0, k1, k2, k3⟩, _⟩ := CELLS.out _ B3.out
      have P2 := Hid.mk (pack_any _ y w3 (NB.out.below B3.out) SY.out)
      by_cases hx : x.may
      · rw [packV_may hx]
        go_wp2_with fail
        refine P2.out.mono ?_
        rintro e w4 ⟨rfl, hb4⟩
        have B4 := Hid.mk (keepB B3.out hb4 (Nat.le_refl _))
        clear g0 g1 g2 g3 k0 k1 k2 k3 hb4 P2
        obtain ⟨⟨g0, g1, g2, g3⟩, ⟨k0, k1, k2, k3⟩, _⟩ := CELLS.out _ B4.out
        by_cases hy : y.may
        · rw [packV_may hy]
          have hiff : (sealB x.body = sealB y.body) ↔ x = y := ⟨sealB_inj hx hy, fun h => by rw [h]⟩
          have C := Hid.mk (sameN_any _ _ x y w4 (NA.out.below B4.out) (NB.out.below B4.out))
          by_cases hxy : x = y
          · subst hxy
            rw [decide_eq_true rfl] at C
            clear hx hy hiff
            go_wp2_with fail
            refine C.out.mono ?_
            rintro e w5 ⟨rfl, hb5⟩
            have B5 := Hid.mk (keepB B4.out hb5 (Nat.le_refl _))
            clear g0 g1 g2 g3 k0 k1 k2 k3 hb5
            go_wp2_with fail
            refine (AWAKE.out _ B5.out).mono ?_
            rintro e w6 ⟨rfl, hb6⟩
            go_wp2
            go_ret
            exact ⟨rfl, hb6⟩
          · rw [decide_eq_false hxy] at C
            have hne : ¬ sealB x.body = sealB y.body := fun h => hxy (hiff.1 h)
            have hne2 : (sealB x.body == sealB y.body) = false := by rw [beq_eq_false_iff_ne]; exact hne
            clear hx hy hiff hxy
            go_wp2_with fail
            refine C.out.mono ?_
            rintro e w5 ⟨rfl, hb5⟩
            have B5 := Hid.mk (keepB B4.out hb5 (Nat.le_refl _))
            clear g0 g1 g2 g3 k0 k1 k2 k3 hb5
            go_wp2_with fail
            refine (AWAKE.out _ B5.out).mono ?_
            rintro e w6 ⟨rfl, hb6⟩
            go_wp2
            go_ret
            exact ⟨rfl, hb6⟩
        · rw [packV_not hy]
          clear hx hy
          go_wp2_with fail
          refine (AWAKE.out _ B4.out).mono ?_
          rintro e w5 ⟨rfl, hb5⟩
          go_wp2
          go_ret
          exact ⟨rfl, hb5⟩
      · rw [packV_not hx]
        obtain ⟨z, ez, hpz⟩ : ∃ (z : ByteArray) (ez : Int), packV y = .tuple #[.string z, .int .i64 ez] := by
          by_cases hy : y.may
          · exact ⟨_, _, packV_may hy⟩
          · exact ⟨_, _, packV_not hy⟩
        rw [hpz] at P2
        clear hx hpz
        go_wp2_with fail
        refine P2.out.mono ?_
        rintro e w4 ⟨rfl, hb4⟩
        have B4 := Hid.mk (keepB B3.out hb4 (Nat.le_refl _))
        clear g0 g1 g2 g3 k0 k1 k2 k3 hb4 P2
        go_wp2_with fail
        refine (AWAKE.out _ B4.out).mono ?_
        rintro e w5 ⟨rfl, hb5⟩
        go_wp2
        go_ret
        exact ⟨rfl, hb5⟩
end Go.Proofs.Ytgmeehkikamkoab
