/- Shares: the document's; the shares of any atoms. -/
import Derived.Test.YtojjepkmnifngaaHRAsk
import Derived.Test.YtojjepkmnifngaaHRLoad
import Derived.Test.YtojjepkmnifngaaHAwake
import Derived.Deep.RegionHeld3
namespace Go.Proofs.Ytojjepkmnifngaa
open Go.RowKit

theorem all_ok {k m : Nat} (hk : k ≤ 6) (hm : m ≤ 64) {l : List Int} (h : l ∈ allI k m) : okL l = true ∧ l.length = k := by
  obtain ⟨h1, h2, h3⟩ := (mem_allI k m l).1 h
  refine ⟨okL_iff.2 ⟨by omega, h2, ?_⟩, h1⟩
  rcases h3 with h3 | h3
  · have : l = [] := List.length_eq_zero_iff.1 (by omega)
    subst this; simp [prodI]
  · omega
theorem all_ne (k m : Nat) (hm : 1 ≤ m) : 0 < (allI k m).length := by
  induction k generalizing m with
  | zero => simp [allI]
  | succ k ih =>
    have h : (List.replicate (k + 1) (1 : Int)) ∈ allI (k + 1) m := by
      refine (mem_allI _ _ _).2 ⟨by simp, fun x hx => by rw [List.eq_of_mem_replicate hx]; omega, .inr ?_⟩
      have : ∀ n, prodI (List.replicate n (1 : Int)) = 1 := by
        intro n
        induction n with
        | zero => rfl
        | succ n ih => rw [List.replicate_succ, prodI, ih]; rfl
      rw [this]; omega
    exact List.length_pos_of_mem h
/-- The first of the least, so far. -/
def BestAt (f : List Int → Int) (ls : List (List Int)) (i b : Nat) : Prop := b < i ∧ ∃ x, ls[b]? = some x ∧ bst f (ls.take i) = (x, f x)
theorem BestAt.one (f : List Int → Int) {ls : List (List Int)} (h : 0 < ls.length) : BestAt f ls 1 0 := by
  refine ⟨by omega, ls[0], List.getElem?_eq_getElem h, ?_⟩
  rw [show ls.take 1 = [ls[0]] by
    rw [List.take_add_one, List.take_zero, List.getElem?_eq_getElem h]; rfl, bst_one]
theorem BestAt.step {f : List Int → Int} {ls : List (List Int)} {i b : Nat} {x l : List Int} (h : BestAt f ls i b) (hx : ls[b]? = some x) (hl : ls[i]? = some l) (h0 : 0 ≤ f x) : BestAt f ls (i + 1) (if f l < f x then i else b) := by
  obtain ⟨hb, x', hx', hbst⟩ := h
  rw [hx] at hx'
  obtain rfl := Option.some.inj hx'
  have hn := bst_next (l := l) hbst h0
  by_cases hc : f l < f x
  · rw [if_pos hc] at hn ⊢
    exact ⟨by omega, l, hl, by rw [take_snoc hl, hn]⟩
  · rw [if_neg hc] at hn ⊢
    exact ⟨by omega, x, hx, by rw [take_snoc hl, hn]⟩
set_option maxRecDepth 100000 in
set_option maxHeartbeats 8000000 in
theorem rShares_any {T : Nat → Prop} {w : World} {v1 v2 : Value} {G : List Vz} {zs : List Int} (h1 : AtmS T w v1 G) (h2 : IntZ T w v2 zs) (hl1 : G.length ≤ 9223372036854775807) (hl2 : zs.length ≤ 9223372036854775807) (a k : Int) :
    Calls Try.prog 8 #[.int .i64 a, .int .i64 k, v1, v2] w (ShaE a k G zs w) := by
  have CA := Hid.mk (asks_any h1 h2 hl1 hl2 a k)
  by_cases hask : askS a k G zs
  case neg =>
    rw [askB_no hask] at CA
    have HE : Hid (ShaE a k G zs w (.returned (.tuple #[.slice none 0 0, .int .i64 1])) w) := Hid.mk ⟨Below.refl _ _, .inr ⟨hask, rfl⟩⟩
    obtain ⟨a1, c1, rfl⟩ := h1.sl.slice
    obtain ⟨a2, c2, rfl⟩ := h2.slice
    clear h1 h2 hask
    go_enter Try.func8, Try.ntmps8
    go_wp2_with fail
    refine CA.out.mono ?_
    rintro e w1 ⟨rfl, hw⟩
    rw [hw]
    clear hw
    go_wp2
    go_ret2
    exact HE.out
  rw [askB_yes hask] at CA
  obtain ⟨⟨ha1, ha2⟩, ⟨hk1, hk2⟩, hll, h12, hfit⟩ := id hask
  have HASK := Hid.mk hask
  obtain ⟨m, rfl⟩ : ∃ m : Nat, a = (m : Int) := ⟨a.toNat, by omega⟩
  obtain ⟨j, rfl⟩ : ∃ j : Nat, k = (j : Int) := ⟨k.toNat, by omega⟩
  simp only [Int.toNat_natCast] at hfit
  have hj6 : j ≤ 6 := by omega
  have hm64 : m ≤ 64 := by omega
  have hm1 : 1 ≤ m := by omega
  have CAL := Hid.mk (rAll_any j hj6 m w hm64)
  have HCL : Hid (∀ (u : World) (v : Value) (L : List Int) (S : Nat → Prop), Below w.heap.size w u → IntZ S u v L → L ∈ allI j m → Calls Try.prog 20 #[v, v1, v2] u fun e w' => e = .returned (.int .i64 (loadP L (onceA (zipA G zs)))) ∧ Below u.heap.size u w') := Hid.mk (fun u v L S hu hv hL => by
    obtain ⟨hok, hlen⟩ := all_ok hj6 hm64 hL
    exact rLoad_any hv (h1.below hu) (h2.below hu) hok (by rw [hlen]; exact hfit) hll h12)
  have HLR : Hid (∀ L, L ∈ allI j m → 0 ≤ loadP L (onceA (zipA G zs)) ∧ loadP L (onceA (zipA G zs)) ≤ 1048576 * 12) := Hid.mk (fun L hL => by
    obtain ⟨hok, hlen⟩ := all_ok hj6 hm64 hL
    have h := load_range (A := zipA G zs) (by rw [hlen]; exact hfit) hok
    have hz : (zipA G zs).length ≤ 12 := by rw [zipA, List.length_zip, List.length_map]; omega
    exact ⟨h.1, by have := h.2; omega⟩)
  have HQ : Hid (∀ (v : Value) (w' : World) (x : List Int), Below w.heap.size w w' → IntZ (fun b => w.heap.size ≤ b) w' v x → bst (fun L => loadP L (onceA (zipA G zs))) (allI j m) = (x, loadP x (onceA (zipA G zs))) → ShaE (m : Int) (j : Int) G zs w (.returned (.tuple #[v, .int .i64 0])) w') := Hid.mk (fun v w' x hb hv hx => ⟨hb, .inl ⟨HASK.out, v, rfl, by
    simp only [Int.toNat_natCast]
    rw [shaM, hx]
    exact hv⟩⟩)
  obtain ⟨f, hf⟩ : ∃ f : List Int → Int, f = fun L => loadP L (onceA (zipA G zs)) := ⟨_, rfl⟩
  rw [← hf] at HQ
  have HCL2 : Hid (∀ (u : World) (v : Value) (L : List Int) (S : Nat → Prop), Below w.heap.size w u → IntZ S u v L → L ∈ allI j m → Calls Try.prog 20 #[v, v1, v2] u fun e w' => e = .returned (.int .i64 (f L)) ∧ Below u.heap.size u w') := Hid.mk (by rw [hf]; exact HCL.out)
  have HLR2 : Hid (∀ L, L ∈ allI j m → 0 ≤ f L ∧ f L ≤ 1048576 * 12) := Hid.mk (by rw [hf]; exact HLR.out)
  have HQ2 : Hid (∀ (v : Value) (w' : World) (x : List Int), Below w.heap.size w w' → IntZ (fun b => w.heap.size ≤ b) w' v x → bst f (allI j m) = (x, f x) → ShaE (m : Int) (j : Int) G zs w (.returned (.tuple #[v, .int .i64 0])) w') := Hid.mk (fun v w' x hb hv hx => HQ.out v w' x hb hv (by rw [hx, hf]))
  have hlen0 := all_ne j m hm1
  have hlen1 := allI_len j m hm64
  have h646 : 64 ^ j ≤ 68719476736 := by
    have h := Nat.pow_le_pow_right (n := 64) (by decide) hj6
    have : 64 ^ 6 = 68719476736 := by decide
    omega
  obtain ⟨ls, hls⟩ : ∃ ls, ls = allI j m := ⟨_, rfl⟩
  have CAL2 : Hid (Calls Try.prog 19 #[.int .i64 (j : Int), .int .i64 (m : Int)] w fun e w' => (∃ u A, e = .returned u ∧ A.map (·.2) = ls ∧ RowsG w.heap.size w' u A) ∧ Below w.heap.size w w') := Hid.mk (by rw [hls]; exact CAL.out)
  rw [← hls] at HCL2 HLR2 HQ2 hlen0 hlen1
  have HB1 := Hid.mk (BestAt.one f hlen0)
  obtain ⟨a1, c1, rfl⟩ := h1.sl.slice
  obtain ⟨a2, c2, rfl⟩ := h2.slice
  obtain ⟨ng, hng⟩ : ∃ ng, ng = G.length := ⟨_, rfl⟩
  obtain ⟨nz, hnz⟩ : ∃ nz, nz = zs.length := ⟨_, rfl⟩
  rw [← hng] at CA HCL2 ⊢
  rw [← hnz] at CA HCL2 ⊢
  clear h1 h2 hask hfit HCL HLR HQ hf hls CAL hng hnz hll h12 hl1 hl2
  go_enter Try.func8, Try.ntmps8
  go_wp2_with fail
  refine CA.out.mono ?_
  rintro e w1 ⟨rfl, hw⟩
  rw [hw]
  clear hw
  go_wp2_with fail
  refine CAL2.out.mono ?_
  rintro e w2 ⟨⟨u, A, rfl, hA, hG⟩, hb2⟩
  obtain ⟨ua, uc, hu⟩ := own_slice hG.row
  obtain ⟨na, hna⟩ : ∃ na, na = A.length := ⟨_, rfl⟩
  have hnl : na = ls.length := by rw [← hA, List.length_map, hna]
  rw [← hna] at hu
  subst hu
  have HSL : Hid (SlS csA 1 (fun b => w.heap.size ≤ b) w2 (.slice ua na uc) A) := Hid.mk ((own_sl (enc := csA) (k := 1) (fun _ => rfl) (by rw [hna]; rw [hna] at hG; exact hG.row) hna).sub (fun b hb _ => (hG.row.lt b hb).1))
  have HEL : Hid (∀ p ∈ A, IntZ (fun b => w.heap.size ≤ b) w2 p.1 p.2) := Hid.mk (fun p hp => (hG.el p hp).sub (fun b hb _ => hb.1))
  have HA := Hid.mk hA
  have HB2 := Hid.mk hb2
  have HNA := Hid.mk hna
  have HNL := Hid.mk hnl
  have hna1 : 1 ≤ na := by omega
  have hnaB : na ≤ 68719476736 := by omega
  have HAT : Hid (∀ (i : Nat), i < na → ∃ pa np pc l, A[i]? = some (.slice pa np pc, l) ∧ ls[i]? = some l ∧ l ∈ ls ∧ ∃ g o, ua = some ⟨g, o, none⟩ ∧ ∀ W, Below w2.heap.size w2 W → W.cell? ⟨g, o + i, none⟩ = some (.slice pa np pc) ∧ IntZ (fun b => w.heap.size ≤ b) W (.slice pa np pc) l) := Hid.mk (fun i hi => by
    obtain ⟨p, hp⟩ : ∃ p, A[i]? = some p := ⟨_, List.getElem?_eq_getElem (by rw [← HNA.out]; exact hi)⟩
    obtain ⟨pv, pl⟩ := p
    have hel := HEL.out _ (List.mem_of_getElem? hp)
    obtain ⟨pa, pc, hpv⟩ := hel.slice
    simp only at hpv
    subst hpv
    have hli : ls[i]? = some pl := by rw [← HA.out, List.getElem?_map, hp]; rfl
    obtain ⟨g, o, e1, _, _, _⟩ := HSL.out.get hp
    refine ⟨pa, _, pc, pl, hp, hli, List.mem_of_getElem? hli, g, o, e1, fun W hW => ?_⟩
    obtain ⟨g', o', e2, _, _, d⟩ := (HSL.out.below hW).get hp
    rw [e1] at e2
    injection e2 with e2
    injection e2 with e2 e3
    subst e2 e3
    have q := getA d
    rw [Nat.mul_one] at q
    exact ⟨q, hel.below hW⟩)
  clear hA hG hb2 hna hnl hlen0 hlen1 h646
  go_wp2_with fail
  go_loopw [11, 12] (fun b c wr => ∃ (i bi : Nat), 1 ≤ i ∧ i ≤ na ∧ c = .int .i64 (i : Int) ∧ b = .int .i64 (bi : Int) ∧ BestAt f ls i bi ∧ Below w2.heap.size w2 wr) (fun _ c _ => na - (intOf c).toNat)
  case atStart => exact ⟨1, 0, by omega, hna1, rfl, rfl, HB1.out, Below.refl _ _⟩
  case round =>
    obtain ⟨i, bi, hi1, hi, rfl, rfl, hBA, hbw⟩ := hrel
    obtain ⟨wx, hwx⟩ : ∃ wx, wx = wr := ⟨_, rfl⟩
    subst hwx
    have HBA := Hid.mk hBA
    have HBW := Hid.mk hbw
    have hbi : bi < i := hBA.1
    clear hBA hbw
    have hbin : bi < na := by omega
    have hbiI : (bi : Int) < (na : Int) := by omega
    by_cases hlt : i < na
    · have hltI : (i : Int) < (na : Int) := by omega
      obtain ⟨pa, np, pc, l, hpi, hli, hlm, g, o, hg, hcell⟩ := HAT.out i hlt
      obtain ⟨qa, nq, qc, x, hqi, hxi, hxm, g', o', hg', hcell'⟩ := HAT.out bi hbin
      rw [hg] at hg'
      injection hg' with hg'
      injection hg' with e1 e2
      subst e1 e2
      have hflr := HLR2.out l hlm
      have hfxr := HLR2.out x hxm
      have HSTEP := Hid.mk (HBA.out.step hxi hli hfxr.1)
      have HW : Hid (∀ W, Below w2.heap.size w2 W → Below w.heap.size w W) := Hid.mk (fun W hW => HB2.out.trans (hW.mono HB2.out.size))
      have C1 : Hid (∀ W, Below w2.heap.size w2 W → Calls Try.prog 20 #[.slice pa np pc, .slice a1 ng c1, .slice a2 nz c2] W fun e w' => e = .returned (.int .i64 (f l)) ∧ Below W.heap.size W w') := Hid.mk (fun W hW => HCL2.out W _ l _ (HW.out W hW) (hcell W hW).2 hlm)
      have C2 : Hid (∀ W, Below w2.heap.size w2 W → Calls Try.prog 20 #[.slice qa nq qc, .slice a1 ng c1, .slice a2 nz c2] W fun e w' => e = .returned (.int .i64 (f x)) ∧ Below W.heap.size W w') := Hid.mk (fun W hW => HCL2.out W _ x _ (HW.out W hW) (hcell' W hW).2 hxm)
      have HKC : Hid (∀ W, Below w2.heap.size w2 W → W.cell? ⟨g, o + i, none⟩ = some (.slice pa np pc) ∧ W.cell? ⟨g, o + bi, none⟩ = some (.slice qa nq qc)) := Hid.mk (fun W hW => ⟨(hcell W hW).1, (hcell' W hW).1⟩)
      obtain ⟨fl, hfl⟩ : ∃ fl, fl = f l := ⟨_, rfl⟩
      obtain ⟨fx, hfx⟩ : ∃ fx, fx = f x := ⟨_, rfl⟩
      rw [← hfl] at C1 HSTEP hflr
      rw [← hfx] at C2 HSTEP hfxr
      have HD : Hid (Below w2.heap.size w2 wx.drew) := Hid.mk HBW.out.drew
      subst hg
      clear hpi hli hlm hcell hqi hxi hxm hcell' hfl hfx
      by_cases hc : fl < fx
      · rw [if_pos hc] at HSTEP
        go_wp2_with fail
        go_region_held3 (fun u => u.cell? ⟨g, o + i, none⟩ = some (.slice pa np pc) ∧ u.cell? ⟨g, o + bi, none⟩ = some (.slice qa nq qc))
          (first | with_reducible exact HKC.out _ h6 | with_reducible exact HKC.out _ h5 | with_reducible exact HKC.out _ HD.out)
          (first
            | (go_at_call 20; with_reducible refine (C1.out wx.drew HD.out).mono ?_; rintro e w5 ⟨rfl, hb5⟩; have h5 := HD.out.trans (hb5.mono HD.out.size))
            | (go_at_call 20; with_reducible refine (C2.out wx.drew HD.out).mono ?_; rintro e w5 ⟨rfl, hb5⟩; have h5 := HD.out.trans (hb5.mono HD.out.size))
            | (go_at_call 20; with_reducible refine (C2.out w5 h5).mono ?_; rintro e w6 ⟨rfl, hb6⟩; have h6 := h5.trans (hb6.mono h5.size))
            | (go_at_call 20; with_reducible refine (C1.out w5 h5).mono ?_; rintro e w6 ⟨rfl, hb6⟩; have h6 := h5.trans (hb6.mono h5.size)))
        all_goals (
          have HB6 := Hid.mk h6
          clear h5 hb5 h6 hb6
          go_wp2
          go_roundw
          case rel => exact ⟨i + 1, i, by omega, by omega, by go_num, rfl, HSTEP.out, HB6.out⟩
          case measure => simp [intOf]; omega)
      · rw [if_neg hc] at HSTEP
        go_wp2_with fail
        go_region_held3 (fun u => u.cell? ⟨g, o + i, none⟩ = some (.slice pa np pc) ∧ u.cell? ⟨g, o + bi, none⟩ = some (.slice qa nq qc))
          (first | with_reducible exact HKC.out _ h6 | with_reducible exact HKC.out _ h5 | with_reducible exact HKC.out _ HD.out)
          (first
            | (go_at_call 20; with_reducible refine (C1.out wx.drew HD.out).mono ?_; rintro e w5 ⟨rfl, hb5⟩; have h5 := HD.out.trans (hb5.mono HD.out.size))
            | (go_at_call 20; with_reducible refine (C2.out wx.drew HD.out).mono ?_; rintro e w5 ⟨rfl, hb5⟩; have h5 := HD.out.trans (hb5.mono HD.out.size))
            | (go_at_call 20; with_reducible refine (C2.out w5 h5).mono ?_; rintro e w6 ⟨rfl, hb6⟩; have h6 := h5.trans (hb6.mono h5.size))
            | (go_at_call 20; with_reducible refine (C1.out w5 h5).mono ?_; rintro e w6 ⟨rfl, hb6⟩; have h6 := h5.trans (hb6.mono h5.size)))
        all_goals (
          have HB6 := Hid.mk h6
          clear h5 hb5 h6 hb6
          go_wp2
          go_roundw
          case rel => exact ⟨i + 1, bi, by omega, by omega, by go_num, rfl, HSTEP.out, HB6.out⟩
          case measure => simp [intOf]; omega)
    · have hltI : ¬ (i : Int) < (na : Int) := by omega
      obtain ⟨qa, nq, qc, x, hqi, hxi, hxm, g, o, hg, hcell⟩ := HAT.out bi hbin
      have q1 := (hcell wx HBW.out).1
      have HFIN : Hid (ShaE (m : Int) (j : Int) G zs w (.returned (.tuple #[.slice qa nq qc, .int .i64 0])) wx) := Hid.mk (by
        refine HQ2.out _ _ x (HB2.out.trans (HBW.out.mono HB2.out.size)) (hcell wx HBW.out).2 ?_
        obtain ⟨_, x', hx', hb⟩ := HBA.out
        rw [hxi] at hx'
        obtain rfl := Option.some.inj hx'
        rw [List.take_of_length_le (by rw [← HNL.out]; omega)] at hb
        exact hb)
      subst hg
      clear hqi hxi hxm hcell
      go_wp2
      go_ret2
      exact HFIN.out
end Go.Proofs.Ytojjepkmnifngaa
