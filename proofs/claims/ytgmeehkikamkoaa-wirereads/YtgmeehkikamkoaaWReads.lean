/- The statement of the notes that any bytes begin with. -/
import Derived.Test.YtgmeehkikamkoaaWRUnpack
namespace Go.Proofs.Ytgmeehkikamkoaa
open Go.RowKit

theorem keepC {a b c : World} (h : Below a.heap.size a b) (h2 : Below b.heap.size b c) : Below a.heap.size a c := h.trans (h2.mono h.size)

set_option maxHeartbeats 2000000 in
set_option maxRecDepth 100000 in
theorem wireReads_walk (s : ByteArray) (w : World) (_ : s.size ≤ 140737488351232) :
    Calls Try.prog 4 #[.string s] w fun e w' => e = .returned (.bool true) ∧ Below w.heap.size w w' := by
  obtain ⟨l, rfl⟩ : ∃ l : List UInt8, s = ⟨l.toArray⟩ := ⟨s.data.toList, (bytes_eta s).symm⟩
  have hsz := size_list l
  by_cases h13 : 8192 < l.length
  · go_enter Try.func4, Try.ntmps4
    go_wp2_with fail
    refine (awake_any _).mono ?_
    rintro e w1 ⟨rfl, hb1⟩
    go_wp2
    go_ret
    exact ⟨rfl, hb1⟩
  · have CU : Hid (∀ w, Calls Try.prog 15 #[.string ⟨l.toArray⟩] w (UEnd l w)) := Hid.mk (fun w => unpack_any l w (by omega))
    have CR : Hid (∀ w, Calls Try.prog 17 #[.string ⟨l.toArray⟩] w (UEnd l w)) := Hid.mk (fun w => rUnpack_any l w (by omega))
    have CA : Hid (∀ w, Calls Try.prog 18 #[.string ⟨l.toArray⟩] w (AEnd l w)) := Hid.mk (fun w => all_any l w (by omega))
    have CB : Hid (∀ w, Calls Try.prog 19 #[.string ⟨l.toArray⟩] w (AEnd l w)) := Hid.mk (fun w => rAll_any l w (by omega))
    unfold UEnd at CU CR
    unfold AEnd at CA CB
    obtain ⟨_, _, s3, s4⟩ := allP_sound l
    obtain ⟨n, k, er, hu⟩ : ∃ n k e, unpackP l = (n, k, e) := ⟨_, _, _, rfl⟩
    obtain ⟨ns, p, hal⟩ : ∃ ns k, allP l = (ns, k) := ⟨_, _, rfl⟩
    rw [hu] at CU CR
    rw [hal] at CA CB s3 s4
    simp only at CU CR CA CB s3 s4
    clear hu hal
    go_enter Try.func4, Try.ntmps4
    go_wp2_with fail
    refine (CU.out _).mono ?_
    rintro e w1 ⟨v1, rfl, ho1, hb1⟩
    obtain ⟨a0, l0, c0, a1, l1, c1, a2, l2, c2, rfl⟩ := own_parts ho1
    obtain ⟨W1, hW1⟩ : ∃ W, W = w1.alloc (.cells #[.int .i64 n.kind, .slice a0 l0 c0, .slice a1 l1 c1, .slice a2 l2 c2] 26) := ⟨_, rfl⟩
    have al1 : Below w1.heap.size w1 W1 := by rw [hW1]; exact (Below.refl _ _).alloc (Nat.le_refl _) _
    have N1 := Hid.mk (ho1.at_.below al1)
    have B1 := Hid.mk (keepC hb1 al1)
    have X1 : Hid (∀ w2, Below W1.heap.size W1 w2 → w2.cell? ⟨w1.heap.size, 0, none⟩ = some (.int .i64 n.kind) ∧ w2.cell? ⟨w1.heap.size, 1, none⟩ = some (.slice a0 l0 c0) ∧ w2.cell? ⟨w1.heap.size, 2, none⟩ = some (.slice a1 l1 c1) ∧ w2.cell? ⟨w1.heap.size, 3, none⟩ = some (.slice a2 l2 c2)) := Hid.mk (fun w2 h => by rw [hW1] at h; exact box_cells h)
    have L1 : Hid (W1.heap.size = w1.heap.size + 1) := Hid.mk (by rw [hW1]; simp)
    have HW1 := Hid.mk hW1
    clear hW1 al1 ho1 hb1 CU
    go_wp2_with fail
    rw [← HW1.out]
    refine (CR.out _).mono ?_
    rintro e w2 ⟨v2, rfl, ho2, hb2⟩
    obtain ⟨d0, m0, e0, d1, m1, e1, d2, m2, e2, rfl⟩ := own_parts ho2
    obtain ⟨W2, hW2⟩ : ∃ W, W = w2.alloc (.cells #[.int .i64 n.kind, .slice d0 m0 e0, .slice d1 m1 e1, .slice d2 m2 e2] 26) := ⟨_, rfl⟩
    have al2 : Below w2.heap.size w2 W2 := by rw [hW2]; exact (Below.refl _ _).alloc (Nat.le_refl _) _
    have N2 := Hid.mk (ho2.at_.below al2)
    have B12 := Hid.mk (keepC hb2 al2)
    have X2 : Hid (∀ w3, Below W2.heap.size W2 w3 → w3.cell? ⟨w2.heap.size, 0, none⟩ = some (.int .i64 n.kind) ∧ w3.cell? ⟨w2.heap.size, 1, none⟩ = some (.slice d0 m0 e0) ∧ w3.cell? ⟨w2.heap.size, 2, none⟩ = some (.slice d1 m1 e1) ∧ w3.cell? ⟨w2.heap.size, 3, none⟩ = some (.slice d2 m2 e2)) := Hid.mk (fun w3 h => by rw [hW2] at h; exact box_cells h)
    have HW2 := Hid.mk hW2
    clear hW2 al2 ho2 hb2 CR
    go_wp2_with fail
    rw [← HW2.out]
    refine (CA.out _).mono ?_
    rintro e w3 ⟨v3, rfl, ho3, hb3⟩
    obtain ⟨a3, c3, hv3⟩ : ∃ ao cap, v3 = .slice ao ns.length cap := by obtain ⟨cs, h1, _⟩ := ho3; exact own_slice h1
    subst hv3
    have A3 := Hid.mk (ho3.at_ (by omega))
    have B3 := Hid.mk hb3
    clear ho3 hb3 CA
    go_wp2_with fail
    refine (CB.out _).mono ?_
    rintro e w4 ⟨v4, rfl, ho4, hb4⟩
    obtain ⟨a4, c4, hv4⟩ : ∃ ao cap, v4 = .slice ao ns.length cap := by obtain ⟨cs, h1, _⟩ := ho4; exact own_slice h1
    subst hv4
    have A4 := Hid.mk (ho4.at_ (by omega))
    have A34 := Hid.mk (A3.out.below hb4)
    have B4 := Hid.mk (keepC B3.out hb4)
    have B14 := Hid.mk (keepC B12.out B4.out)
    clear ho4 hb4 CB A3 B3
    obtain ⟨g0, g1, g2, g3⟩ := X1.out _ B14.out
    obtain ⟨h0, h1, h2, h3⟩ := X2.out _ B4.out
    have C := Hid.mk (sameN_any _ _ n n w4 (N1.out.below B14.out) (N2.out.below B4.out))
    rw [decide_eq_true rfl] at C
    go_wp2_with fail
    refine C.out.mono ?_
    rintro e w5 ⟨rfl, hb5⟩
    have C2 := Hid.mk (sameAll_any _ _ ns ns w5 (A34.out.below hb5) (A4.out.below hb5))
    rw [decide_eq_true rfl] at C2
    have B5 := Hid.mk (keepC B1.out (keepC B14.out hb5))
    clear g0 g1 g2 g3 h0 h1 h2 h3 hb5 C
    go_wp2_with fail
    refine C2.out.mono ?_
    rintro e w6 ⟨rfl, hb6⟩
    have B6 := Hid.mk (keepC B5.out hb6)
    clear hb6 C2
    go_wp2_with fail
    refine (awake_any _).mono ?_
    rintro e w7 ⟨rfl, hb7⟩
    have B7 := Hid.mk (keepC B6.out hb7)
    go_wp2
    go_ret
    exact ⟨rfl, B7.out⟩
end Go.Proofs.Ytgmeehkikamkoaa
