/- Ids, Pick, To of a field. -/
import Derived.Test.YtnkgbinogblemaaDAdd
import Derived.Test.YtnkgbinogblemaaShelf
namespace Go.Proofs.Ytnkgbinogblemaa
open Go.RowKit

abbrev idZ (l : List Pk) : List Int := l.map fun p => (p.id : Int)
theorem idCs_eq (l : List Pk) : idCs l = (idZ l).map (Value.int .i64) := by simp [idCs, idZ]
theorem idZ_up {l : List Pk} (h : UpP l) : (idZ l).Pairwise (· ≤ ·) := by
  refine List.Pairwise.map _ (fun a b hab => ?_) h
  show (a.id : Int) ≤ (b.id : Int)
  omega
theorem ids_get {w : World} {B g c n : Nat} {l : List Pk} (h : w.ownsRow B 3 1 (.slice (some ⟨g, 0, none⟩) n c) n (idCs l)) {j : Nat} {p : Pk} (hj : l[j]? = some p) : w.cell? ⟨g, j, none⟩ = some (.int .i64 (p.id : Int)) := by
  have h1 := h.1
  have hlt := (List.getElem?_eq_some_iff.1 hj).1
  rw [h.cellAt j (by simp [idCs] at h1; omega), idCs, List.getElem?_map, hj]
  rfl
theorem ids_zs {w : World} {B g c n : Nat} {l : List Pk} (h : w.ownsRow B 3 1 (.slice (some ⟨g, 0, none⟩) n c) n (idCs l)) : ∀ j, j < (idZ l).length → w.cell? ⟨g, 0 + j, none⟩ = some (.int .i64 ((idZ l).getD j 0)) := by
  intro j hj
  have hj2 : j < l.length := by simpa using hj
  rw [Nat.zero_add, ids_get h (List.getElem?_eq_getElem hj2)]
  simp [List.getD_eq_getElem?_getD, idZ, List.getElem?_eq_getElem hj2]
theorem clone_ids {w : World} {B n : Nat} {v : Value} {l : List Pk} (h : w.ownsRow B 3 1 v n (idCs l)) (hn : n = l.length) (hl : n ≤ 100000) :
    Calls Try.prog 30 #[v] w fun e w' => ∃ v', e = .returned v' ∧ w'.ownsRow w.heap.size 3 1 v' n (idCs l) ∧ Below w.heap.size w w' := by
  rcases h.2 with ⟨rfl, h0⟩ | ⟨g, cap, cur, rfl, _⟩
  · refine (Try.slices_Clone_int_nil 0 0 w).mono ?_
    rintro e w' ⟨rfl, rfl⟩
    have : l = [] := List.length_eq_zero_iff.1 (by omega)
    subst this
    exact ⟨_, rfl, ⟨by rw [h0]; rfl, .inl ⟨rfl, h0⟩⟩, Below.refl _ _⟩
  · refine (Try.slices_Clone_int g 0 n cap (idZ l) w (by simp; omega) (by omega) (ids_zs h)).mono ?_
    rintro e w' ⟨v', rfl, h1, _, h2⟩
    rw [List.take_of_length_le (by simp; omega), ← idCs_eq] at h1
    exact ⟨v', rfl, h1, h2⟩

section
variable {S : Nat → Prop} {w : World} {b : Nat} {f : Fd}
set_option maxRecDepth 100000 in
theorem ids_any (h : FB S w b f) (hl : f.last ≤ 100000) :
    Calls Try.prog 21 #[.pointer (some ⟨b, 0, none⟩)] w fun e w' => ∃ v', e = .returned v' ∧ w'.ownsRow w.heap.size 3 1 v' f.l.length (idCs f.l) ∧ Below w.heap.size w w' := by
  have hlen := h.ok.len
  obtain ⟨mb, vi, h⟩ := h
  obtain ⟨⟨g0, g1, g2, g3, g4⟩, -⟩ := five_cells h.blk
  have C0 := Hid.mk (given_any b w g0)
  have CC := Hid.mk (clone_ids h.ids rfl (by omega))
  obtain ⟨ao, cap, rfl⟩ := own_slice h.ids
  clear h g0 g1 g2 g3
  go_enter Try.func21, Try.ntmps21
  go_wp2_with fail
  refine C0.out.mono ?_
  rintro e w1 ⟨rfl, hw⟩
  rw [hw]; clear hw w1
  go_wp2_with fail
  refine CC.out.mono ?_
  rintro e w1 ⟨v', rfl, h1, h2⟩
  have H1 := Hid.mk h1
  have H2 := Hid.mk h2
  clear h1 h2
  go_wp2
  go_ret
  exact ⟨v', rfl, H1.out, H2.out⟩
set_option maxRecDepth 100000 in
set_option maxHeartbeats 1000000 in
theorem pick_any (h : FB S w b f) (n : Int) (hn : (Lit.int .i64 n).wf = true) (hl : f.last ≤ 100000) :
    Calls Try.prog 16 #[.pointer (some ⟨b, 0, none⟩), .int .i64 n] w fun e w' => e = .returned (.int .i64 (pickF f.l n)) ∧ Below w.heap.size w w' := by
  have hlen := h.ok.len
  obtain ⟨mb, vi, h⟩ := h
  obtain ⟨⟨g0, g1, g2, g3, g4⟩, -⟩ := five_cells h.blk
  have C0 := Hid.mk (given_any b w g0)
  have HIDS := Hid.mk h.ids
  obtain ⟨ao, cap, rfl⟩ := own_slice h.ids
  obtain ⟨m, hm⟩ : ∃ m, m = f.l.length := ⟨_, rfl⟩
  rw [← hm] at g4 HIDS
  have hm1 : m ≤ 100000 := by omega
  have HM := Hid.mk hm
  have HB : Hid (∀ k, Below w.heap.size w (w.drewN k)) := Hid.mk (fun k => below_drewN (Below.refl _ _) k)
  have hnr : -9223372036854775808 ≤ n ∧ n ≤ 9223372036854775807 := by
    have h1 : IntKind.i64.min = -9223372036854775808 := by decide
    have h2 : IntKind.i64.max = 9223372036854775807 := by decide
    simpa [Lit.wf, h1, h2] using hn
  obtain ⟨hn1, hn2⟩ := hnr
  clear h g0 g1 g2 g3 hlen hl hm hn
  by_cases h0 : m = 0
  · have hl0 : f.l = [] := List.length_eq_zero_iff.1 (by rw [← HM.out]; exact h0)
    rw [hl0, pickF_nil]
    subst h0
    clear hl0
    go_enter Try.func16, Try.ntmps16
    go_wp2_with fail
    refine C0.out.mono ?_
    rintro e w1 ⟨rfl, hw⟩
    rw [hw]; clear hw w1
    go_wp2
    go_ret
    exact ⟨rfl, Below.refl _ _⟩
  · obtain ⟨p, hp, -, hpe⟩ := pickF_some (l := f.l) (fun e => h0 (by rw [HM.out, e]; rfl)) n
    rw [← HM.out] at hp
    obtain ⟨j, hj⟩ : ∃ j, j = pix n m := ⟨_, rfl⟩
    rw [← hj] at hp
    have hjm : j < m := by rw [hj]; exact pix_lt n (by omega)
    have hrow : ∃ g, ao = some ⟨g, 0, none⟩ := by
      rcases HIDS.out.2 with ⟨_, h1⟩ | ⟨g, cap2, cur, e, _⟩
      · exact absurd h1 h0
      · injection e with e; exact ⟨g, e⟩
    obtain ⟨g, rfl⟩ := hrow
    have q := ids_get HIDS.out hp
    obtain ⟨r, hr⟩ : ∃ r : Int, r = (p.id : Int) := ⟨_, rfl⟩
    rw [← hr] at q hpe
    rw [hpe]
    have hm0 : ¬ (m : Int) = 0 := by omega
    have hm0b : ((m : Int) == 0) = false := beq_eq_false_iff_ne.2 hm0
    have hjI : (j : Int) < (m : Int) := by omega
    by_cases hmin : n = -9223372036854775808
    · have hj0 : j = 0 := by rw [hj, hmin]; rfl
      subst hj0
      subst hmin
      clear hp hpe hr hj h0
      go_enter Try.func16, Try.ntmps16
      go_wp2_with fail
      refine C0.out.mono ?_
      rintro e w1 ⟨rfl, hw⟩
      rw [hw]; clear hw w1
      go_wp2_with fail
      go_region
      go_wp2
      go_ret
      exact ⟨rfl, HB.out _⟩
    · have hb1 : (n == (-9223372036854775808 : Int)) = false := beq_eq_false_iff_ne.2 hmin
      have hpx : max n (-n) % (m : Int) = (j : Int) := by
        rw [hj, pix, if_neg hmin, Int.natCast_emod]
        congr 1
        omega
      clear hp hpe hr hj h0
      go_enter Try.func16, Try.ntmps16
      go_wp2_with fail
      refine C0.out.mono ?_
      rintro e w1 ⟨rfl, hw⟩
      rw [hw]; clear hw w1
      go_wp2_with fail
      go_region
      go_wp2
      go_ret
      exact ⟨rfl, HB.out _⟩
end
end Go.Proofs.Ytnkgbinogblemaa
