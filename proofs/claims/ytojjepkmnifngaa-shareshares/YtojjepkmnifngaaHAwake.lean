/- What must come, whatever the arguments are. -/
import Derived.Test.YtojjepkmnifngaaHShar2
namespace Go.Proofs.Ytojjepkmnifngaa
open Go.RowKit

theorem alloc_getH (w : World) (o : Obj) (k : Nat) : (w.alloc o).heap[k]? = if k = w.heap.size then some o else w.heap[k]? := by
  show (w.heap.push o)[k]? = _
  rw [Array.getElem?_push]
/-- What lies in blocks that were just made, one behind the other. -/
theorem get_atH : ∀ (os : List Obj) (w : World) (k : Nat), k < os.length → (os.foldl World.alloc w).heap[w.heap.size + k]? = os[k]?
  | [], _, k, h => by simp at h
  | o :: os, w, 0, _ => by
    have key : ∀ (os : List Obj) (w : World) (j : Nat), j < w.heap.size → (os.foldl World.alloc w).heap[j]? = w.heap[j]? := by
      intro os
      induction os with
      | nil => intro w j _; rfl
      | cons o os ih => intro w j hj; rw [List.foldl_cons, ih (w.alloc o) j (by simp; omega), alloc_getH, if_neg (by omega)]
    rw [List.foldl_cons, key os (w.alloc o) _ (by simp), alloc_getH, if_pos (Nat.add_zero _)]
    rfl
  | o :: os, w, k + 1, h => by
    have := get_atH os (w.alloc o) k (by simpa using h)
    rw [List.foldl_cons, ← show (w.alloc o).heap.size + k = w.heap.size + (k + 1) by simp; omega, this]
    rfl
theorem i64_maskH (n : Int) (k : Nat) (m M : Int) (hk : k ≤ 62) (hm : (BitVec.ofInt 64 m).toNat = 2 ^ k - 1) (hM : M = ((2 ^ k : Nat) : Int)) : bits .and .i64 n m = n % M := by
  have key : (BitVec.ofInt 64 n &&& BitVec.ofInt 64 m).toNat = (n % ((2 ^ 64 : Nat) : Int)).toNat % 2 ^ k := by
    rw [BitVec.toNat_and, BitVec.toNat_ofInt, hm, Nat.and_two_pow_sub_one_eq_mod]
  show IntKind.i64.wrap ((BitVec.ofInt 64 n &&& BitVec.ofInt 64 m).toNat : Nat) = n % M
  have hd : (2 ^ 64 : Nat) = 2 ^ k * 2 ^ (64 - k) := by rw [← Nat.pow_add]; congr 1; omega
  have e : ((n % ((2 ^ 64 : Nat) : Int)).toNat % 2 ^ k : Nat) = (n % ((2 ^ k : Nat) : Int)).toNat := by
    apply Int.ofNat.inj
    show (((n % ((2 ^ 64 : Nat) : Int)).toNat % 2 ^ k : Nat) : Int) = ((n % ((2 ^ k : Nat) : Int)).toNat : Int)
    rw [Int.natCast_emod, Int.toNat_of_nonneg (Int.emod_nonneg _ (by omega)), Int.toNat_of_nonneg (Int.emod_nonneg _ (by have := Nat.two_pow_pos k; omega))]
    exact Int.emod_emod_of_dvd _ (Int.natCast_dvd_natCast.2 ⟨2 ^ (64 - k), hd⟩)
  have hlt : (2 ^ k : Nat) ≤ 2 ^ 62 := Nat.pow_le_pow_right (by omega) hk
  have hp := Nat.two_pow_pos k
  have h1 : 0 ≤ n % ((2 ^ k : Nat) : Int) := Int.emod_nonneg _ (by omega)
  have h2 : n % ((2 ^ k : Nat) : Int) < ((2 ^ k : Nat) : Int) := Int.emod_lt_of_pos _ (by omega)
  rw [key, e, IntKind.wrap_i64, hM]
  omega
theorem slZ {w : World} {g : Nat} {L : List Int} {n : Nat} (h : VRow w g 3 (L.flatMap csZ)) (hn : n = L.length) : IntZ (fun _ => True) w (.slice (some ⟨g, 0, none⟩) n n) L := (VRow.sl (enc := csZ) (fun _ => rfl) h hn).sub (fun _ _ _ => trivial)
theorem slW {w : World} {g : Nat} {L : List (List UInt8)} {n : Nat} (h : VRow w g 9 (L.flatMap csW)) (hn : n = L.length) : TxtW (fun _ => True) w (.slice (some ⟨g, 0, none⟩) n n) L := (VRow.sl (enc := csW) (fun _ => rfl) h hn).sub (fun _ _ _ => trivial)
def pAw : Int := partM ⟨[97, 110, 110].toArray⟩ 2
theorem prs_aw : prs [2, 2, 2] [1] [[97, 110, 110]] = [(1, pAw)] := rfl
theorem len_aw : (routeL [2, 2, 2] (prs [2, 2, 2] [1] [[97, 110, 110]])).length = 4 := by
  obtain ⟨h0, h1⟩ := partM_range ⟨[97, 110, 110].toArray⟩ (p := 2) (by omega) (by omega)
  have e : pAw = partM ⟨[97, 110, 110].toArray⟩ 2 := rfl
  rw [prs_aw]
  rw [← e] at h0 h1
  generalize pAw = p at h0 h1
  rw [route_eq (L := [2, 2, 2]) (Bd := [-1, p, -1]) (by simp) rfl ⟨by simp, fun v z hz => by
    match v, hz with
    | 0, hz => exact .inl (by simpa using hz.symm)
    | 1, hz => exact .inr (by simp at hz; subst hz; simp)
    | 2, hz => exact .inl (by simpa using hz.symm)
    | v + 3, hz => simp at hz⟩ (by simpa using h0)]
  have := cellsL_len (([2, 2, 2] : List Int).zip [-1, p, -1]) (fun x hx => by
    simp at hx
    rcases hx with rfl | rfl | rfl
    · exact ⟨by decide, .inl rfl⟩
    · exact ⟨by simp, .inr ⟨h0, h1⟩⟩
    · exact ⟨by decide, .inl rfl⟩)
  have e2 : prodI (wideL (([2, 2, 2] : List Int).zip [-1, p, -1])) = 4 := by
    simp [wideL, prodI, show ¬ p = -1 by omega]
  rw [e2] at this
  omega
theorem shaM_aw : shaM 8 3 [([0, 1], 100), ([1, 2], 100), ([2, 0], 100)] = [2, 2, 2] := by decide +kernel
set_option maxHeartbeats 4000000 in
set_option maxRecDepth 100000 in
theorem awake_any (w : World) : Calls Try.prog 6 #[] w fun e w' => e = .returned (.bool true) ∧ Below w.heap.size w w' := by
  obtain ⟨os, hos⟩ : ∃ os : List Obj, os = [.cells #[.int .i64 0, .int .i64 1] 3, .cells #[.int .i64 1, .int .i64 2] 3, .cells #[.int .i64 2, .int .i64 0] 3, .cells #[.slice (some ⟨w.heap.size, 0, none⟩) 2 2, .slice (some ⟨w.heap.size + 1, 0, none⟩) 2 2, .slice (some ⟨w.heap.size + 1 + 1, 0, none⟩) 2 2] 24, .cells #[.int .i64 100, .int .i64 100, .int .i64 100] 3] := ⟨_, rfl⟩
  obtain ⟨W, hW⟩ : ∃ W, W = os.foldl World.alloc w := ⟨_, rfl⟩
  have hat : ∀ k, k < 5 → W.heap[w.heap.size + k]? = os[k]? := fun k hk => by rw [hW]; exact get_atH os w k (by rw [hos]; exact hk)
  have hbW : Below w.heap.size w W := by
    rw [hW, hos]
    exact (((((Below.refl _ _).alloc (Nat.le_refl _) _).alloc (by simp) _).alloc (by simp; omega) _).alloc (by simp; omega) _).alloc (by simp; omega) _
  have b0 : VRow W w.heap.size 3 (([0, 1] : List Int).flatMap csZ) := (hat 0 (by omega)).trans (by rw [hos]; rfl)
  have b1 : VRow W (w.heap.size + 1) 3 (([1, 2] : List Int).flatMap csZ) := (hat 1 (by omega)).trans (by rw [hos]; rfl)
  have b2 : VRow W (w.heap.size + 1 + 1) 3 (([2, 0] : List Int).flatMap csZ) := (hat 2 (by omega)).trans (by rw [hos]; rfl)
  have b4 : VRow W (w.heap.size + 1 + 1 + 1 + 1) 3 (([100, 100, 100] : List Int).flatMap csZ) := (hat 4 (by omega)).trans (by rw [hos]; rfl)
  obtain ⟨G, hG⟩ : ∃ G : List Vz, G = [(.slice (some ⟨w.heap.size, 0, none⟩) 2 2, [0, 1]), (.slice (some ⟨w.heap.size + 1, 0, none⟩) 2 2, [1, 2]), (.slice (some ⟨w.heap.size + 1 + 1, 0, none⟩) 2 2, [2, 0])] := ⟨_, rfl⟩
  have b3 : VRow W (w.heap.size + 1 + 1 + 1) 24 (G.flatMap csA) := (hat 3 (by omega)).trans (by rw [hos, hG]; rfl)
  have hA : AtmS (fun _ => True) W (.slice (some ⟨w.heap.size + 1 + 1 + 1, 0, none⟩) 3 3) G := by
    refine ⟨(VRow.sl (enc := csA) (fun _ => rfl) b3 (by rw [hG]; rfl)).sub (fun _ _ _ => trivial), fun p hp => ?_, fun p hp => ?_⟩
    · rw [hG] at hp
      simp at hp
      rcases hp with rfl | rfl | rfl
      · exact slZ b0 rfl
      · exact slZ b1 rfl
      · exact slZ b2 rfl
    · rw [hG] at hp
      simp at hp
      rcases hp with rfl | rfl | rfl <;> exact ⟨by simp, _, _, rfl, by simp⟩
  have hC := shares_any hA (slZ b4 rfl) 8 3
  have hz : zipA G [100, 100, 100] = [([0, 1], 100), ([1, 2], 100), ([2, 0], 100)] := by rw [hG]; rfl
  have hask : askS 8 3 G [100, 100, 100] := by
    refine ⟨by omega, by omega, by rw [hG]; rfl, by simp, ?_⟩
    rw [hz]
    intro a ha
    simp at ha
    rcases ha with rfl | rfl | rfl <;> simp
  have HC : Hid (Calls Try.prog 7 #[.int .i64 8, .int .i64 3, .slice (some ⟨w.heap.size + 1 + 1 + 1, 0, none⟩) 3 3, .slice (some ⟨w.heap.size + 1 + 1 + 1 + 1, 0, none⟩) 3 3] W fun e w' => Below w.heap.size w w' ∧ ∃ v, e = .returned (.tuple #[v, .int .i64 0]) ∧ IntZ (fun _ => True) w' v [2, 2, 2]) := Hid.mk (hC.mono (fun e w' h => by
    obtain ⟨hb, h⟩ := h
    refine ⟨hbW.trans (hb.mono hbW.size), ?_⟩
    rcases h with ⟨_, v, e1, e2⟩ | ⟨h, _⟩
    · refine ⟨v, e1, ?_⟩
      rw [hz] at e2
      rw [← shaM_aw]
      exact e2.sub (fun _ _ _ => trivial)
    · exact absurd hask h))
  clear hC hask hz hA b0 b1 b2 b3 b4 hat hG
  go_enter Try.func6, Try.ntmps6
  go_wp2_with fail
  rw [hos] at hW
  simp only [List.foldl_cons, List.foldl_nil] at hW
  rw [← hW]
  refine HC.out.mono ?_
  rintro e w1 ⟨hb1, v, rfl, hv⟩
  obtain ⟨va, vc, rfl⟩ := hv.slice
  have HV := Hid.mk hv
  have HB1 := Hid.mk hb1
  clear hv hb1 hW hos hbW HC
  have hr1 : VRow (w1.alloc (.cells #[.int .i64 2, .int .i64 2, .int .i64 2] 3)) w1.heap.size 3 (([2, 2, 2] : List Int).flatMap csZ) := heap_alloc_new _ _
  have HC2 := Hid.mk (cells_any (slZ hr1 (n := 3) rfl) (by simp))
  have HB2 : Hid (Below w.heap.size w (w1.alloc (.cells #[.int .i64 2, .int .i64 2, .int .i64 2] 3))) := Hid.mk (HB1.out.alloc HB1.out.size _)
  rw [show cellE [2, 2, 2] = .tuple #[.int .i64 8, .int .i64 0] by rfl] at HC2
  clear hr1
  go_wp2_with fail
  obtain ⟨W2, hW2⟩ : ∃ W2, W2 = w1.alloc (.cells #[.int .i64 2, .int .i64 2, .int .i64 2] 3) := ⟨_, rfl⟩
  have HV2 : Hid (IntZ (fun _ => True) W2 (.slice va 3 vc) [2, 2, 2]) := Hid.mk (by rw [hW2]; exact HV.out.below ((Below.refl _ _).alloc (Nat.le_refl _) _))
  rw [← hW2] at HC2 HB2 ⊢
  clear hW2 HV HB1
  refine HC2.out.mono ?_
  rintro e w3 ⟨rfl, h⟩
  rw [h]
  clear h HC2 W
  obtain ⟨os3, hos3⟩ : ∃ os : List Obj, os = [.cells #[.int .i64 2, .int .i64 2, .int .i64 2] 3, .cells #[.int .i64 1] 3, .cells #[.string ⟨#[97, 110, 110]⟩] 9] := ⟨_, rfl⟩
  obtain ⟨W3, hW3⟩ : ∃ W, W = os3.foldl World.alloc W2 := ⟨_, rfl⟩
  have hat3 : ∀ k, k < 3 → W3.heap[W2.heap.size + k]? = os3[k]? := fun k hk => by rw [hW3]; exact get_atH os3 W2 k (by rw [hos3]; exact hk)
  have hbW3 : Below W2.heap.size W2 W3 := by
    rw [hW3, hos3]
    exact (((Below.refl _ _).alloc (Nat.le_refl _) _).alloc (by simp) _).alloc (by simp; omega) _
  have d0 : VRow W3 W2.heap.size 3 (([2, 2, 2] : List Int).flatMap csZ) := (hat3 0 (by omega)).trans (by rw [hos3]; rfl)
  have d1 : VRow W3 (W2.heap.size + 1) 3 (([1] : List Int).flatMap csZ) := (hat3 1 (by omega)).trans (by rw [hos3]; rfl)
  have d2 : VRow W3 (W2.heap.size + 1 + 1) 9 (([[97, 110, 110]] : List (List UInt8)).flatMap csW) := (hat3 2 (by omega)).trans (by rw [hos3]; rfl)
  have hC3 := route_any (slZ d0 (n := 3) rfl) (slZ d1 (n := 1) rfl) (slW d2 (n := 1) rfl) (by simp) (by simp) (by simp)
  have hask3 : askR [2, 2, 2] [1] 1 := ⟨rfl, rfl, by simp, by simp⟩
  have HC3 : Hid (Calls Try.prog 10 #[.slice (some ⟨W2.heap.size, 0, none⟩) 3 3, .slice (some ⟨W2.heap.size + 1, 0, none⟩) 1 1, .slice (some ⟨W2.heap.size + 1 + 1, 0, none⟩) 1 1] W3 fun e w' => Below W2.heap.size W2 w' ∧ ∃ a c, e = .returned (.tuple #[.slice a 4 c, .int .i64 0])) := Hid.mk (hC3.mono (fun e w' h => by
    obtain ⟨hb, h⟩ := h
    refine ⟨hbW3.trans (hb.mono hbW3.size), ?_⟩
    rcases h with ⟨_, v, e1, e2⟩ | ⟨h, _⟩
    · obtain ⟨a, c, e3⟩ := e2.slice
      rw [len_aw] at e3
      exact ⟨a, c, by rw [e1, e3]⟩
    · exact absurd hask3 h))
  clear hC3 hask3 d0 d1 d2 hat3
  go_wp2_with fail
  rw [hos3] at hW3
  simp only [List.foldl_cons, List.foldl_nil] at hW3
  rw [← hW3]
  refine HC3.out.mono ?_
  rintro e w4 ⟨hb4, a4, c4, rfl⟩
  have HB4 : Hid (Below w.heap.size w w4) := Hid.mk (HB2.out.trans (hb4.mono HB2.out.size))
  have HV4 : Hid (IntZ (fun _ => True) w4 (.slice va 3 vc) [2, 2, 2]) := Hid.mk (HV2.out.below hb4)
  clear hW3 hos3 hbW3 HC3 hb4 HV2 HB2
  have hr4 : VRow (w4.alloc (.cells #[.int .i64 2, .int .i64 2, .int .i64 2] 3)) w4.heap.size 3 (([2, 2, 2] : List Int).flatMap csZ) := heap_alloc_new _ _
  have HC5 := Hid.mk (rSameZ_any (HV4.out.below ((Below.refl _ _).alloc (Nat.le_refl _) _)) (slZ hr4 (n := 3) rfl) (by simp))
  rw [show decide (([2, 2, 2] : List Int) = [2, 2, 2]) = true by rfl] at HC5
  have HB5 : Hid (Below w.heap.size w (w4.alloc (.cells #[.int .i64 2, .int .i64 2, .int .i64 2] 3))) := Hid.mk (HB4.out.alloc HB4.out.size _)
  clear hr4
  go_wp2_with fail
  refine HC5.out.mono ?_
  rintro e w6 ⟨rfl, hb6⟩
  have HB6 : Hid (Below w.heap.size w w6) := Hid.mk (HB5.out.trans (hb6.mono HB5.out.size))
  clear hb6 HC5 HB5
  go_wp2
  go_ret
  exact ⟨rfl, HB6.out⟩
end Go.Proofs.Ytojjepkmnifngaa
