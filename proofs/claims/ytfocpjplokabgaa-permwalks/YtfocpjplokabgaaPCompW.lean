/- slices.Compact of rows, walked. -/
import Derived.Test.YtfocpjplokabgaaPCompact
namespace Go.Proofs.Ytfocpjplokabgaa
open Go.RowKit Go.Sort Go.Lib Go.Shelf

/-- 'clear' of rows. -/
theorem run_clear3 (w : World) (ty : TypeId) (g off n c : Nat) (hn : 0 < n) (hc : ∀ j, j < n * 3 → (w.cell? ⟨g, off + j, none⟩).isSome = true ∧ w.frozen? ⟨g, off + j, none⟩ = false) :
    ∃ zs : List Value, (Builtin.clear_ #[22] ty #[.slice (some ⟨g, off, none⟩) n c]).run Try.prog w = .ok (.tuple #[]) (w.setCells g off zs) := by
  refine ⟨(Builtin.zeroCells (agg3 ⟨0, 0, 0⟩).cells n).toList, ?_⟩
  have hlen : (Builtin.zeroCells (agg3 ⟨0, 0, 0⟩).cells n).toList.length = n * 3 := by
    simp [Builtin.zeroCells, Value.cells]
  have hst := run_storeCells_cells (P := Try.prog) g off (Builtin.zeroCells (agg3 ⟨0, 0, 0⟩).cells n).toList 0 w (fun j hj => by rw [hlen] at hj; simpa using (hc j hj).1) (fun j hj => by rw [hlen] at hj; simpa using (hc j hj).2) (by
    intro u hu
    simp [Builtin.zeroCells, Value.cells] at hu
    obtain ⟨a, _, rfl⟩ := hu
    have : a % 3 = 0 ∨ a % 3 = 1 ∨ a % 3 = 2 := by omega
    rcases this with h | h | h <;> simp [h, Value.oneCell'])
  simp only [Nat.add_zero] at hst
  obtain ⟨m, rfl⟩ : ∃ m, n = m + 1 := ⟨n - 1, by omega⟩
  simp [Builtin.clear_, run_underlying Try.underlying22, hst]

/-- A row is stored. -/
def setRow (w : World) (g j : Nat) (r : R3) : World := ((w.setCell ⟨g, j * 3, none⟩ (.int .i64 r.a)).setCell ⟨g, j * 3 + 1, none⟩ (.int .i64 r.b)).setCell ⟨g, j * 3 + 2, none⟩ (.int .i64 r.c)
theorem GRow.setRow {w : World} {g j : Nat} {d : List R3} (h : GRow w g d) (hj : j < d.length) (r : R3) : GRow (setRow w g j r) g (d.set j r) := by
  refine ⟨by simpa [Proofs.Ytfocpjplokabgaa.setRow] using h.1, fun i x hx c hc => ?_⟩
  have hf : ∀ (a : Addr), (Proofs.Ytfocpjplokabgaa.setRow w g j r).frozen? a = w.frozen? a := fun a => by simp [Proofs.Ytfocpjplokabgaa.setRow]
  by_cases e : j = i
  · subst e
    rw [List.getElem?_set_self hj] at hx
    obtain rfl := Option.some.inj hx
    obtain ⟨y, hy⟩ : ∃ y, d[j]? = some y := ⟨_, List.getElem?_eq_getElem hj⟩
    refine ⟨?_, by rw [hf]; exact (h.2 j y hy c hc).2⟩
    have c0 := (h.2 j y hy 0 (by omega)).1
    have c1 := (h.2 j y hy 1 (by omega)).1
    have c2 := (h.2 j y hy 2 (by omega)).1
    unfold Proofs.Ytfocpjplokabgaa.setRow
    match c, hc with
    | 0, _ =>
      rw [World.cell?_setCell_other _ _ _ _ (by intro e; simp only [Addr.mk.injEq] at e; omega), World.cell?_setCell_other _ _ _ _ (by intro e; simp only [Addr.mk.injEq] at e; omega)]
      exact World.cell?_setCell_same _ _ _ c0
    | 1, _ =>
      rw [World.cell?_setCell_other _ _ _ _ (by intro e; simp only [Addr.mk.injEq] at e; omega)]
      refine World.cell?_setCell_same (u := .int .i64 (y.at 1)) _ _ _ ?_
      rw [World.cell?_setCell_other _ _ _ _ (by intro e; simp only [Addr.mk.injEq] at e; omega)]
      exact c1
    | 2, _ =>
      refine World.cell?_setCell_same (u := .int .i64 (y.at 2)) _ _ _ ?_
      rw [World.cell?_setCell_other _ _ _ _ (by intro e; simp only [Addr.mk.injEq] at e; omega), World.cell?_setCell_other _ _ _ _ (by intro e; simp only [Addr.mk.injEq] at e; omega)]
      exact c2
  · rw [List.getElem?_set_ne e] at hx
    refine ⟨?_, by rw [hf]; exact (h.2 i x hx c hc).2⟩
    unfold Proofs.Ytfocpjplokabgaa.setRow
    rw [World.cell?_setCell_other _ _ _ _ (by intro e; simp only [Addr.mk.injEq] at e; omega), World.cell?_setCell_other _ _ _ _ (by intro e; simp only [Addr.mk.injEq] at e; omega), World.cell?_setCell_other _ _ _ _ (by intro e; simp only [Addr.mk.injEq] at e; omega)]
    exact (h.2 i x hx c hc).1
theorem below_setCells {B : Nat} {w : World} {g : Nat} (hg : B ≤ g) : ∀ (zs : List Value) (off : Nat) (w' : World), Below B w w' → Below B w (w'.setCells g off zs)
  | [], _, _ => fun h => h
  | z :: zs, off, _ => fun h => below_setCells hg zs (off + 1) _ (h.setCell (p := ⟨g, off, none⟩) hg z)

/-- What the second loop has laid: the rows that are kept, then those that were there. -/
def laid (d : List R3) (m : Nat) : List R3 := dd (d.take m) ++ d.drop (dd (d.take m)).length
theorem laid_len {d : List R3} {m : Nat} (hm : m ≤ d.length) : (laid d m).length = d.length := by
  have := dd_len d m
  simp [laid]
  omega
theorem laid_high {d : List R3} {m j : Nat} (h : (dd (d.take m)).length ≤ j) : (laid d m)[j]? = d[j]? := by
  unfold laid
  rw [List.getElem?_append_right h, List.getElem?_drop]
  congr 1
  omega
theorem laid_skip {d : List R3} {i : Nat} {r : R3} (h0 : d[i]? = some r) (h : d[i + 1]? = some r) : laid d (i + 1 + 1) = laid d (i + 1) := by
  unfold laid
  rw [dd_same h0 h]
theorem laid_keep {d : List R3} {i : Nat} {r s : R3} (h0 : d[i]? = some r) (h : d[i + 1]? = some s) (hne : s ≠ r) : laid d (i + 1 + 1) = (laid d (i + 1)).set (dd (d.take (i + 1))).length s := by
  have hl := dd_len d (i + 1)
  have hi := (List.getElem?_eq_some_iff.1 h).1
  unfold laid
  rw [dd_other h0 h hne, List.length_append, List.length_singleton, List.set_append_right _ _ (Nat.le_refl _), Nat.sub_self]
  obtain ⟨x, t, hx⟩ : ∃ x t, d.drop (dd (d.take (i + 1))).length = x :: t := by
    cases hd : d.drop (dd (d.take (i + 1))).length with
    | nil => rw [List.drop_eq_nil_iff] at hd; omega
    | cons x t => exact ⟨x, t, rfl⟩
  have h2 : d.drop ((dd (d.take (i + 1))).length + 1) = t := by
    rw [← List.drop_drop, hx]; rfl
  rw [hx, h2]
  simp

set_option maxHeartbeats 8000000 in
set_option maxRecDepth 100000 in
theorem compact_any {B g cap : Nat} {w : World} {d : List R3} (hcap : d.length ≤ cap) (hBg : B ≤ g) (hG : GRow w g d) (hl : d.length * 24 ≤ 140737488355328) :
    Calls Try.prog 33 #[.slice (some ⟨g, 0, none⟩) d.length cap] w fun e w' => e = .returned (.slice (some ⟨g, 0, none⟩) (dd d).length cap) ∧ GRow w' g (dd d) ∧ Below B w w' := by
  have hdd : dd d = dd (d.take d.length) := by rw [List.take_length]
  obtain ⟨n, hn⟩ : ∃ n, n = d.length := ⟨_, rfl⟩
  have HN := Hid.mk hn
  rw [← hn] at hcap hl ⊢
  have hcapI : (n : Int) ≤ (cap : Int) := by omega
  have HDD := Hid.mk hdd
  have HG := Hid.mk hG
  clear hdd hG hn
  by_cases h2 : n < 2
  · have HE : Hid (dd d = d) := Hid.mk (by
      have hn := HN.out
      match d, hn with
      | [], _ => rfl
      | [x], _ => rfl
      | x :: y :: t, hn => simp at hn; omega)
    rw [HE.out, ← HN.out]
    go_enter Try.func33, Try.ntmps33
    go_wp2
    go_ret
    exact ⟨rfl, HG.out, Below.refl _ _⟩
  · go_enter Try.func33, Try.ntmps33
    go_wp2
    go_loopw [3] (fun c wr => ∃ k q : Nat, 1 ≤ k ∧ k ≤ n ∧ c = .int .i64 k ∧ dd (d.take k) = d.take k ∧ wr = w.drewN q) (fun c _ => n - (intOf c).toNat)
    case atStart => exact ⟨1, 0, by omega, by omega, rfl, by
      have hn := HN.out
      match d, hn with
      | [], hn => simp at hn; omega
      | x :: t, _ => rfl, rfl⟩
    case round =>
      obtain ⟨k, q, hk1, hkn, rfl, hall, rfl⟩ := hrel
      have HA := Hid.mk hall
      clear hall
      by_cases hlt : k < n
      · obtain ⟨i, rfl⟩ : ∃ i, k = i + 1 := ⟨k - 1, by omega⟩
        obtain ⟨y, hy⟩ : ∃ y, d[i]? = some y := ⟨_, List.getElem?_eq_getElem (by rw [← HN.out]; omega)⟩
        obtain ⟨x, hx⟩ : ∃ x, d[i + 1]? = some x := ⟨_, List.getElem?_eq_getElem (by rw [← HN.out]; omega)⟩
        obtain ⟨K, hK⟩ : ∃ K, K = i + 1 := ⟨_, rfl⟩
        have rx := HG.out.row hx
        obtain ⟨a0, a1, a2⟩ := rx
        obtain ⟨b0, b1, b2⟩ := HG.out.row hy
        have HX := Hid.mk hx
        have HY := Hid.mk hy
        have HK := Hid.mk hK
        rw [← hK] at hlt hk1 hkn a0 a1 a2 ⊢
        have hKI : (K : Int) < (n : Int) := by omega
        have hK1 : (K : Int) - 1 = (i : Int) := by omega
        have hiI : (i : Int) < (n : Int) := by omega
        have hwr : IntKind.i64.wrap (i : Int) = (i : Int) := by rw [IntKind.wrap_i64]; omega
        simp only [Nat.zero_add] at a0 a1 a2 b0 b1 b2
        by_cases hxy : x = y
        · subst hxy
          have heq := eqIn3 x x
          rw [decide_eq_true rfl] at heq
          have HS : Hid (laid d (K + 1) = d ∧ (dd (d.take (K + 1))).length = K) := Hid.mk (by
            have e1 : dd (d.take (K + 1)) = d.take K := by
              rw [HK.out, dd_same HY.out HX.out]
              exact HA.out
            refine ⟨?_, ?_⟩
            · unfold laid
              rw [e1, List.length_take, Nat.min_eq_left (by rw [← HN.out]; omega), List.take_append_drop]
            · rw [e1, List.length_take, Nat.min_eq_left (by rw [← HN.out]; omega)])
          clear hx hy hK
          go_wp2_with fail
          go_region
          clear a0 a1 a2 b0 b1 b2 heq
          go_wp2
          go_loopw [3, 5] (fun s3 s5 wr => ∃ kk k2 : Nat, s3 = .int .i64 kk ∧ s5 = .int .i64 k2 ∧ 1 ≤ k2 ∧ K + k2 ≤ n ∧ kk < K + k2 ∧ (dd (d.take (K + k2))).length = kk ∧ GRow wr g (laid d (K + k2)) ∧ Below B w wr) (fun _ s5 _ => n - K - (intOf s5).toNat)
          case atStart => exact ⟨K, 1, rfl, rfl, Nat.le_refl _, by omega, by omega, HS.out.2, by rw [HS.out.1]; exact HG.out.below (by repeat (first | exact Below.refl _ _ | assumption | refine Below.drew ?_ | refine below_drewN ?_ _ | refine Below.alloc ?_ (by simp) _ | refine Below.setCell ?_ (by simp) _)), by repeat (first | exact Below.refl _ _ | assumption | refine Below.drew ?_ | refine below_drewN ?_ _ | refine Below.alloc ?_ (by simp) _ | refine Below.setCell ?_ (by simp) _)⟩
          case round =>
            obtain ⟨kk, k2, rfl, rfl, h1, hle, hkk, hlen, hg, hb⟩ := hrel
            have HGG := Hid.mk hg
            have HB := Hid.mk hb
            have HLEN := Hid.mk hlen
            clear hg hb hlen
            have hkkI : (kk : Int) < (n : Int) := by omega
            by_cases hlt2 : K + k2 < n
            · obtain ⟨j, rfl⟩ : ∃ j, k2 = j + 1 := ⟨k2 - 1, by omega⟩
              obtain ⟨K2, hK2⟩ : ∃ K2, K2 = j + 1 := ⟨_, rfl⟩
              obtain ⟨u, hu⟩ : ∃ u, d[K + j + 1]? = some u := ⟨_, List.getElem?_eq_getElem (by rw [← HN.out]; omega)⟩
              obtain ⟨v, hv⟩ : ∃ v, d[K + j]? = some v := ⟨_, List.getElem?_eq_getElem (by rw [← HN.out]; omega)⟩
              have HU := Hid.mk hu
              have HV := Hid.mk hv
              have hu2 : (laid d (K + (j + 1)))[K + (j + 1)]? = some u := by rw [laid_high (by rw [HLEN.out]; omega)]; exact hu
              have hv2 : (laid d (K + (j + 1)))[K + j]? = some v := by rw [laid_high (by rw [HLEN.out]; omega)]; exact hv
              obtain ⟨a0, a1, a2⟩ := HGG.out.row hu2
              obtain ⟨b0, b1, b2⟩ := HGG.out.row hv2
              rw [show 0 + (K + (j + 1)) * 3 = K * 3 + (j + 1) * 3 by omega] at a0 a1 a2
              rw [show 0 + (K + j) * 3 = K * 3 + j * 3 by omega] at b0 b1 b2
              have hjn : (j : Int) < ((n - K : Nat) : Int) := by omega
              have hK2n : (K2 : Int) < ((n - K : Nat) : Int) := by omega
              have hK21 : (K2 : Int) - 1 = (j : Int) := by omega
              have hwr2 : IntKind.i64.wrap (j : Int) = (j : Int) := by rw [IntKind.wrap_i64]; omega
              have HK2 := Hid.mk hK2
              rw [← hK2] at a0 a1 a2 h1 hle hkk ⊢
              clear hu hv hu2 hv2 hK2
              by_cases huv : u = v
              · subst huv
                have heq := eqIn3 u u
                rw [decide_eq_true rfl] at heq
                go_wp2_with fail
                go_region
                go_wp2
                go_roundw
                case rel =>
                  refine ⟨kk, K2 + 1, rfl, by go_num, by omega, by omega, by omega, ?_, ?_, HB.out.drew⟩
                  · rw [HK2.out, show K + (j + 1 + 1) = K + j + 1 + 1 by omega, dd_same HV.out HU.out]
                    exact HLEN.out
                  · rw [HK2.out, show K + (j + 1 + 1) = K + j + 1 + 1 by omega, laid_skip HV.out HU.out]
                    exact HGG.out.below (Below.refl _ _).drew
                case measure => simp [intOf]; omega
              · have heq := eqIn3 u v
                rw [decide_eq_false huv] at heq
                obtain ⟨z, hz⟩ : ∃ z, (laid d (K + (j + 1)))[kk]? = some z := ⟨_, List.getElem?_eq_getElem (by rw [laid_len (by rw [← HN.out, ← HK2.out]; omega), ← HN.out]; omega)⟩
                obtain ⟨z0, z1, z2⟩ := HGG.out.row hz
                have f0 := (HGG.out.2 kk z hz 0 (by omega)).2
                have f1 := (HGG.out.2 kk z hz 1 (by omega)).2
                have f2 := (HGG.out.2 kk z hz 2 (by omega)).2
                simp only [Nat.zero_add, Nat.add_zero] at z0 z1 z2 f0
                have HZ : Hid (kk < (laid d (K + (j + 1))).length) := Hid.mk (List.getElem?_eq_some_iff.1 hz).1
                clear hz
                go_wp2_with fail
                go_region
                go_wp2
                go_roundw
                case rel =>
                  refine ⟨kk + 1, K2 + 1, by go_num, by go_num, by omega, by omega, by omega, ?_, ?_, ?_⟩
                  · rw [HK2.out, show K + (j + 1 + 1) = K + j + 1 + 1 by omega, dd_other HV.out HU.out huv, List.length_append, List.length_singleton]
                    have := HLEN.out
                    rw [show K + (j + 1) = K + j + 1 by omega] at this
                    rw [this]
                  · rw [HK2.out, show K + (j + 1 + 1) = K + j + 1 + 1 by omega, laid_keep HV.out HU.out huv]
                    have h5 := (HGG.out.setRow HZ.out u).below (Below.refl _ _).drew
                    have h6 := HLEN.out
                    rw [show K + (j + 1) = K + j + 1 by omega] at h5 h6
                    rw [h6]
                    exact h5
                  · exact (((HB.out.setCell (p := ⟨g, kk * 3, none⟩) hBg _).setCell (p := ⟨g, kk * 3 + 1, none⟩) hBg _).setCell (p := ⟨g, kk * 3 + 2, none⟩) hBg _).drew
                case measure => simp [intOf]; omega
            · have hend : K + k2 = n := by omega
              have hD : dd d = dd (d.take (K + k2)) := by rw [hend, HN.out]; exact HDD.out
              have hgl : (laid d (K + k2)).length = n := by rw [laid_len (by rw [← HN.out]; omega), ← HN.out]
              have hcl : ∀ ty, ∃ zs : List Value, (Builtin.clear_ #[22] ty #[.slice (some ⟨g, kk * 3, none⟩) (n - kk) (cap - kk)]).run Try.prog wr = .ok (.tuple #[]) (wr.setCells g (kk * 3) zs) := fun ty =>
                run_clear3 wr ty g (kk * 3) (n - kk) (cap - kk) (by omega) (fun t ht => by
                  obtain ⟨z, hz⟩ : ∃ z, (laid d (K + k2))[kk + t / 3]? = some z := ⟨_, List.getElem?_eq_getElem (by rw [hgl]; omega)⟩
                  have := HGG.out.2 _ z hz (t % 3) (by omega)
                  rw [show (kk + t / 3) * 3 + t % 3 = kk * 3 + t by omega] at this
                  exact ⟨by rw [this.1]; rfl, this.2⟩)
              obtain ⟨zs, hzs⟩ := hcl 0
              have hk2I : ¬ (k2 : Int) < ((n - K : Nat) : Int) := by omega
              have HD := Hid.mk hD
              clear hD hgl hcl
              go_wp2
              go_ret
              refine ⟨?_, ⟨?_, fun i r hr c hc => ?_⟩, below_setCells hBg zs _ _ HB.out⟩
              · rw [HD.out, HLEN.out]; rfl
              · exact Nat.lt_of_lt_of_le HGG.out.1 (below_setCells (B := 0) (Nat.zero_le _) zs (kk * 3) wr (Below.refl 0 wr)).size
              · have hik : i < kk := by
                  have := (List.getElem?_eq_some_iff.1 hr).1
                  rw [HD.out, HLEN.out] at this
                  exact this
                have hr2 : (laid d (K + k2))[i]? = some r := by
                  unfold laid
                  rw [List.getElem?_append_left (by rw [HLEN.out]; exact hik), ← HD.out]
                  exact hr
                obtain ⟨h5, h6⟩ := HGG.out.2 i r hr2 c hc
                refine ⟨?_, by rw [World.frozen?_setCells]; exact h6⟩
                rw [World.cell?_setCells_out _ _ _ _ _ (fun _ _ => .inl (by simp only; omega))]
                exact h5
        · have heq := eqIn3 x y
          rw [decide_eq_false hxy] at heq
          have HA2 : Hid (dd (d.take (K + 1)) = d.take (K + 1)) := Hid.mk (by
            have := HA.out
            rw [HK.out, dd_other HY.out HX.out hxy, this, take_snoc HX.out])
          clear hx hy hK
          go_wp2_with fail
          go_region
          go_wp2
          go_roundw
          case rel => exact ⟨K + 1, q + 1, by omega, by omega, by go_num, HA2.out, by simp⟩
          case measure => simp [intOf]; omega
      · obtain rfl : k = n := by omega
        have HE : Hid (dd d = d) := Hid.mk (by
          have := HA.out
          rw [HN.out, List.take_length] at this
          exact this)
        go_wp2
        go_ret
        have hbq := below_drewN (Below.refl B w) q
        refine ⟨?_, ?_, hbq⟩
        · rw [HE.out, ← HN.out]; rfl
        · rw [HE.out]
          exact HG.out.below (below_drewN (Below.refl _ w) q)
end Go.Proofs.Ytfocpjplokabgaa
