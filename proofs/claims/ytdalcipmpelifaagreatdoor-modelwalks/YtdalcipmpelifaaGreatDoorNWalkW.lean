/- ModelWalks: the walk. (Written by a program.) -/
import Derived.Test.YtdalcipmpelifaaGreatDoorNWalks
import Derived.Deep.RegionHeld3
import Derived.Test.YtdalcipmpelifaaGreatDoorMG0
namespace Go.Proofs.YtdalcipmpelifaaGreatDoor
open Go.RowKit Go.Shelf

theorem row_len (V : List Wd) (m : Mt) (i k : Nat) : (pairRow V m i k).length ≤ k := by
  unfold pairRow
  rw [List.length_map]
  have := List.length_filter_le (fun j => m i j) (List.range k)
  rw [List.length_range] at this
  exact this
theorem to_len (V : List Wd) (m : Mt) (i : Nat) : (pairsTo V m i).length ≤ i * V.length := by
  induction i with
  | zero => simp [pairsTo]
  | succ i ih =>
    rw [pairsTo_succ, List.length_append, Nat.succ_mul]
    have := row_len V m i V.length
    omega

set_option maxHeartbeats 16000000 in
set_option maxRecDepth 100000 in
theorem modelWalks_walk (v1 : Value) (l : List Wd) (t : Vt) (w : World) (hl : TxtS (fun _ => True) w v1 l) (hl2 : l.length ≤ 9223372036854775807 ∧ CapS v1 l.length ∧ ∀ s ∈ l, s.length ≤ 140737488351232) (htc : VOk (fun _ => True) w t ∧ VCap t) (hT : TabG w) :
    Calls Tryz.prog 3 #[v1, encN t] w fun e w' => e = .returned (.bool true) ∧ Below w.heap.size w w' := by
  obtain ⟨i0, hi0, hy0, hy1, hy2⟩ := info_parts infoFN
  obtain ⟨hok, hvc⟩ := htc
  obtain ⟨la, lc, hv1⟩ := hl.slice
  obtain ⟨n, hn⟩ : ∃ n, n = l.length := ⟨_, rfl⟩
  rw [← hn] at hv1
  subst hv1
  have hncap : n ≤ lc := by
    obtain ⟨ao, cap, e, h⟩ := hl2.2.1
    injection e with _ _ e3
    omega
  have hn64 := hl2.1
  rw [← hn] at hn64
  have hz0 : 0 < w.heap.size := World.block_lt_of_cell? _ _ (hT 0 (by decide))
  obtain ⟨P, hP⟩ : ∃ P, P = t.pt := ⟨_, rfl⟩
  obtain ⟨M, hM⟩ : ∃ M, M = mayP P := ⟨_, rfl⟩
  obtain ⟨lv, hlv⟩ : ∃ n, n = leaves P := ⟨_, rfl⟩
  obtain ⟨hg, hhg⟩ : ∃ n, n = high P := ⟨_, rfl⟩
  have HV : Hid (∀ u, Below w.heap.size w u → VOk (fun _ => True) u t) := zA (fun u hu => hok.below hu)
  have HL : Hid (∀ u, Below w.heap.size w u → TxtS (fun _ => True) u (.slice la n lc) l) := zA (fun u hu => hl.below hu)
  have HT : Hid (∀ u, Below w.heap.size w u → TabG u) := zA (fun u hu => hT.below hz0 hu)
  have CF : Hid (∀ u, Below w.heap.size w u → Calls Tryz.prog 4 #[.slice none 0 0, encN t] u fun e w' => (∃ b : Bool, e = .returned (.bool b)) ∧ Below u.heap.size u w') := zA (fun u hu => by
    refine (flat_any (S := fun _ => True) (fs := []) (SlS.nil _ _) (by simp) (HV.out u hu)).mono ?_
    rintro e w' ⟨⟨b, h1, _⟩, h2⟩
    exact ⟨⟨b, h1⟩, h2⟩)
  have CY : Hid (∀ u, Below w.heap.size w u → Calls Tryz.prog 5 #[encN t] u fun e w' => e = .returned (.bool M) ∧ Below u.heap.size u w') := zA (fun u hu => by rw [hM, hP]; exact rMayPath_any (HV.out u hu))
  have CPL : Hid (∀ u, Below w.heap.size w u → M = true → Calls Tryz.prog 6 #[encN t] u fun e w' => e = .returned (.int .i64 (lv : Int)) ∧ Below u.heap.size u w') := zA (fun u hu hm => by
    rw [hlv, hP]
    exact rPlaces_any t u (by have := may_leavesN (t := P) (by rw [← hM]; exact hm); rw [← hP]; omega) (HV.out u hu))
  have CDP : Hid (∀ u, Below w.heap.size w u → M = true → Calls Tryz.prog 7 #[encN t] u fun e w' => e = .returned (.int .i64 (hg : Int)) ∧ Below u.heap.size u w') := zA (fun u hu hm => by
    rw [hhg, hP]
    exact rDeep_any t u (by have := may_highN (t := P) (by rw [← hM]; exact hm); rw [← hP]; omega) (HV.out u hu))
  have HLB : Hid (M = true → lv ≤ 24 ∧ hg ≤ 12) := zA (fun hm => ⟨by rw [hlv]; exact may_leavesN (by rw [← hM]; exact hm), by rw [hhg]; exact may_highN (by rw [← hM]; exact hm)⟩)
  obtain ⟨O, hO⟩ : ∃ L : List Rw, L = pairsTo (vC l) (wC l P) (n + 1) := ⟨_, rfl⟩
  have CP : Hid (∀ u v, Below w.heap.size w u → n ≤ 5 → M = true → FasS (fun _ => True) u v (chF l) → Calls Tryz.prog 9 #[v, encN t] u fun e w' => ∃ v, e = .returned (.tuple #[v, .int .i64 0]) ∧ RowsM w' v O ∧ Below u.heap.size u w') := zA (fun u v hu h5 hm hv => by
    have hwl : ∀ f ∈ chF l, f.1.length ≤ 140737488351232 ∧ f.2.1.length ≤ 140737488351232 ∧ f.2.2.length ≤ 140737488351232 := fun f hf => by
      obtain ⟨i, x, hx, rfl⟩ := mem_chF.1 hf
      exact ⟨by simp [vxC], hl2.2.2 x (List.mem_of_getElem? hx), by simp [vxC]⟩
    have := pairsM_any hv (by rw [chF_len, ← hn]; omega) hwl (HV.out u hu) (HT.out u hu)
    rw [← hP, ← hM, if_pos hm, if_pos hm, pairs_walk (by rw [← hn]; exact h5) (by rw [← hM]; exact hm), ← hn, ← hO] at this
    exact this)
  have CQ : Hid (∀ u, Below w.heap.size w u → ∀ (K : Ending → World → Prop), (∀ w', Below w.heap.size w w' → K (.returned (.bool true)) w') → Calls Tryz.prog 8 #[] u K) := zA (fun u hu K hK => by
    refine (awake_any (HT.out u hu)).mono ?_
    rintro e w' ⟨rfl, hb⟩
    exact hK w' (hu.trans (hb.mono hu.size)))
  have CWI : Hid (M = true → n ≤ 5 → 0 < n → ∀ (u : World) (v : Value) (i k : Nat), Below w.heap.size w u → i ≤ k → k ≤ n → TxtS (fun _ => True) u v (cutC l i k) → CapS v (cutC l i k).length → Calls Tryz.prog 10 #[encN t, v] u fun e w' => e = .returned (.bool (wC l P i k)) ∧ Below u.heap.size u w') := zA (fun hm h5 h0 u v i k hu hik hkn hv hcp => by
    have hsh : shapedP 12 t.pt = true := by
      have : mayP t.pt = true := by rw [← hP, ← hM]; exact hm
      simp only [mayP, Bool.and_eq_true, decide_eq_true_eq] at this
      exact this.1
    have := rWill_any (S := fun _ => True) (T := fun _ => True) t 12 hsh hvc u v (cutC l i k) (HV.out u hu) hv hcp (by rw [cut_len (by omega)]; omega)
    refine callsKnown this ?_
    rw [wC_iff, hP]
    exact ⟨fun h => h.2.2, fun h => ⟨by omega, hik, h⟩⟩)
  have HOB : Hid (O.length ≤ (n + 1) * (n + 1)) := zA (by rw [hO]; have h1 := to_len (vC l) (wC l P) (n + 1); rw [vC_len, ← hn] at h1; exact h1)
  have HIX : Hid (∀ (i k : Nat), i ≤ n → k ≤ n → wC l P i k = true → O[(pairsTo (vC l) (wC l P) i).length + (pairRow (vC l) (wC l P) i k).length]? = some [vxC i, vxC k]) := zA (fun i k hi hk hw => by
    rw [hO]
    have := pair_next (V := vC l) (m := wC l P) (i := i) (k := k) (N := n + 1) (by omega) (by rw [vC_len, ← hn]; omega) hw
    rw [vC_at l (by omega), vC_at l (by omega)] at this
    exact this)
  have HSELF : Hid (∀ i, pairRow (vC l) (wC l P) i i = []) := zA (fun i => row_none (fun j hj => by
    cases h : wC l P i j with
    | false => rfl
    | true => have := ((wC_iff l P i j).1 h).2.1; omega))
  have HNONE : Hid (n = 0 → ∀ i k, pairRow (vC l) (wC l P) i k = []) := zA (fun h0 i k => row_none (fun j hj => by
    cases h : wC l P i j with
    | false => rfl
    | true => have := ((wC_iff l P i j).1 h).1; omega))
  have HROWS : Hid (∀ i k, pairRow (vC l) (wC l P) i (k + 1) = pairRow (vC l) (wC l P) i k ++ (if wC l P i k = true then [[(vC l).getD i [], (vC l).getD k []]] else [])) := zA (fun i k => pairRow_succ _ _ i k)
  have HTOS : Hid (∀ i, pairsTo (vC l) (wC l P) (i + 1) = pairsTo (vC l) (wC l P) i ++ pairRow (vC l) (wC l P) i (n + 1)) := zA (fun i => by rw [pairsTo_succ, vC_len, ← hn])
  have HOO := zA hO
  have HLN := zA hn
  clear hP hM hlv hhg hO HV HT hT hok hvc hl hl2 hz0 hn
  obtain ⟨kind, word, val, kids⟩ := t
  obtain ⟨o, ho⟩ : ∃ o, o = Obj.cells #[.int .i64 kind, .string ⟨word.toArray⟩, val] 25 (0, 0) := ⟨_, rfl⟩
  have HO := zA ho
  have HK : Hid (∀ u, Below (w.alloc o).heap.size (w.alloc o) u → Below w.heap.size w u ∧ u.cell? ⟨w.heap.size, 0, none⟩ = some (.int .i64 kind) ∧ u.cell? ⟨w.heap.size, 1, none⟩ = some (.string ⟨word.toArray⟩) ∧ u.cell? ⟨w.heap.size, 2, none⟩ = some val) := zA (fun u hu => by
    rw [HO.out] at hu
    exact box_pathN hu)
  have HB0 : Hid (Below (w.alloc o).heap.size (w.alloc o) (w.alloc (.cells #[.int .i64 kind, .string ⟨word.toArray⟩, val] 25))) := zA (by rw [HO.out]; exact Below.refl _ _)
  clear ho
  have HW0 := zA (HK.out _ HB0.out).1
  by_cases hn5 : n ≤ 5
  rotate_left 1
  · have hnI : (5 : Int) < (n : Int) := by omega
    go_enter Tryz.func3, Tryz.ntmps3
    go_wp2_with fail
    refine CQ.out _ HW0.out _ (fun wq hbq => ?_)
    have HWQ := zA hbq
    clear hbq
    go_wp2_with fail
    refine bodyPost_ret (v := .bool true) ?_ rfl ⟨rfl, HWQ.out⟩
    simp [results, Tryz.results3, go_sem]
  have hnI : ¬ (5 : Int) < (n : Int) := by omega
  go_enter Tryz.func3, Tryz.ntmps3
  obtain ⟨x0, x1, x2⟩ := (HK.out _ HB0.out).2
  go_wp2_with fail
  refine (CF.out _ HW0.out).mono ?_
  rintro e w1 ⟨⟨fb, rfl⟩, hbz⟩
  have HB1 := zA (HB0.out.trans (hbz.mono HB0.out.size))
  have HA1 := zA (HK.out _ HB1.out).1
  clear hbz x0 x1 x2
  cases fb with
  | false =>
    go_wp2_with fail
    refine CQ.out _ HA1.out _ (fun wq hbq => ?_)
    have HWQ := zA hbq
    clear hbq
    go_wp2_with fail
    refine bodyPost_ret (v := .bool true) ?_ rfl ⟨rfl, HWQ.out⟩
    simp [results, Tryz.results3, go_sem]
  | true =>
    obtain ⟨x0, x1, x2⟩ := (HK.out _ HB1.out).2
    go_wp2_with fail
    refine (CY.out _ HA1.out).mono ?_
    rintro e w2 ⟨rfl, hbz⟩
    have HB2 := zA (HB1.out.trans (hbz.mono HB1.out.size))
    have HA2 := zA (HK.out _ HB2.out).1
    clear hbz x0 x1 x2
    cases M with
    | false =>
      go_wp2_with fail
      refine CQ.out _ HA2.out _ (fun wq hbq => ?_)
      have HWQ := zA hbq
      clear hbq
      go_wp2_with fail
      refine bodyPost_ret (v := .bool true) ?_ rfl ⟨rfl, HWQ.out⟩
      simp [results, Tryz.results3, go_sem]
    | true =>
      obtain ⟨hlv24, hhg12⟩ := HLB.out rfl
      have CPL2 := zA (fun u hu => CPL.out u hu rfl)
      have CDP2 := zA (fun u hu => CDP.out u hu rfl)
      have CP2 := zA (fun u v hu => CP.out u v hu hn5 rfl)
      have CWI2 := zA (CWI.out rfl hn5)
      clear CPL CDP CP CWI HLB
      obtain ⟨x0, x1, x2⟩ := (HK.out _ HB2.out).2
      go_wp2_with fail
      refine (CPL2.out _ HA2.out).mono ?_
      rintro e w3 ⟨rfl, hbz⟩
      have HB3 := zA (HB2.out.trans (hbz.mono HB2.out.size))
      have HA3 := zA (HK.out _ HB3.out).1
      clear hbz x0 x1 x2
      by_cases hlv8 : 8 < lv
      · have hlvI : (8 : Int) < (lv : Int) := by omega
        go_wp2_with fail
        refine CQ.out _ HA3.out _ (fun wq hbq => ?_)
        have HWQ := zA hbq
        clear hbq
        go_wp2_with fail
        refine bodyPost_ret (v := .bool true) ?_ rfl ⟨rfl, HWQ.out⟩
        simp [results, Tryz.results3, go_sem]
      have hlvI : ¬ (8 : Int) < (lv : Int) := by omega
      obtain ⟨x0, x1, x2⟩ := (HK.out _ HB3.out).2
      go_wp2_with fail
      refine (CDP2.out _ HA3.out).mono ?_
      rintro e w4 ⟨rfl, hbz⟩
      have HB4 := zA (HB3.out.trans (hbz.mono HB3.out.size))
      have HA4 := zA (HK.out _ HB4.out).1
      clear hbz x0 x1 x2
      by_cases hhg5 : 5 < hg
      · have hhgI : (5 : Int) < (hg : Int) := by omega
        go_wp2_with fail
        refine CQ.out _ HA4.out _ (fun wq hbq => ?_)
        have HWQ := zA hbq
        clear hbq
        go_wp2_with fail
        refine bodyPost_ret (v := .bool true) ?_ rfl ⟨rfl, HWQ.out⟩
        simp [results, Tryz.results3, go_sem]
      have hhgI : ¬ (5 : Int) < (hg : Int) := by omega
      obtain ⟨W, hW⟩ : ∃ W, W = w4.alloc (.cells #[.string ⟨#[97]⟩, .string ⟨#[98]⟩, .string ⟨#[99]⟩, .string ⟨#[100]⟩, .string ⟨#[101]⟩, .string ⟨#[102]⟩] 9) := ⟨_, rfl⟩
      obtain ⟨nb, hnb⟩ : ∃ nb, nb = w4.heap.size := ⟨_, rfl⟩
      have HBW : Hid (Below (w.alloc o).heap.size (w.alloc o) W) := zA (by rw [hW]; exact HB4.out.alloc HB4.out.size _)
      have HAW := zA (HK.out _ HBW.out).1
      have hNB : W.heap[nb]? = some (.cells #[.string ⟨#[97]⟩, .string ⟨#[98]⟩, .string ⟨#[99]⟩, .string ⟨#[100]⟩, .string ⟨#[101]⟩, .string ⟨#[102]⟩] 9 (0, 0)) := by rw [hW, hnb]; exact heap_alloc_new _ _
      have HNM : Hid (∀ u, Below W.heap.size W u → ∀ i, i ≤ 5 → u.cell? ⟨nb, i, none⟩ = some (.string ⟨(vxC i).toArray⟩)) := zA (fun u hu i hi => by
        have h1 := (hu.block nb (lt_of_block hNB)).trans hNB
        have h2 : i = 0 ∨ i = 1 ∨ i = 2 ∨ i = 3 ∨ i = 4 ∨ i = 5 := by omega
        rcases h2 with rfl | rfl | rfl | rfl | rfl | rfl <;> (simp only [World.cell?, h1]; rfl))
      have HUP : Hid (∀ u, Below W.heap.size W u → Below (w.alloc o).heap.size (w.alloc o) u) := zA (fun u hu => HBW.out.trans (hu.mono HBW.out.size))
      have HWW := zA hW
      have HNB := zA hnb
      clear hW hnb hNB
      go_wp2_with fail
      rw [← HWW.out, ← HNB.out]
      go_loopw [6, 7] (fun s6 s7 wr => ∃ (i : Nat) (u : Value), u = s6 ∧ s7 = .int .i64 i ∧ i ≤ n ∧ Hid (wr.ownsRow W.heap.size 32 3 u i (((chF l).take i).flatMap csF)) ∧ Hid (Below W.heap.size W wr)) (fun _ s7 _ => n - (intOf s7).toNat)
      case atStart => exact ⟨0, _, rfl, rfl, Nat.zero_le _, zA (World.ownsRow_nil _ _ _ _), zA (Below.refl _ _)⟩
      case round =>
        obtain ⟨i, u, rfl, rfl, hi, HOWN, HBY⟩ := hrel
        obtain ⟨wy, hwy⟩ : ∃ wy, wy = wr := ⟨_, rfl⟩
        subst hwy
        obtain ⟨ga, gc, hgv⟩ := own_slice HOWN.out
        subst hgv
        have hsy : W.heap.size ≤ wy.heap.size := HBY.out.size
        by_cases hlt : i < n
        · have hltI : (i : Int) < (n : Int) := by omega
          have hi6I : (i : Int) < 6 := by omega
          have hi6J : (i : Int) + 1 < 6 := by omega
          have hi6N : i + 1 < 6 := by omega
          have hi0J : (0 : Int) ≤ (i : Int) + 1 := by omega
          have hwr : IntKind.i64.wrap ((i : Int) + 1) = (i : Int) + 1 := by rw [IntKind.wrap_i64]; omega
          obtain ⟨s, hs⟩ : ∃ s, l[i]? = some s := ⟨_, List.getElem?_eq_getElem (by rw [← HLN.out]; exact hlt)⟩
          obtain ⟨lg, lo, hla, _, _, _⟩ := (HL.out w (Below.refl _ _)).get hs
          obtain ⟨xi, hxi⟩ : ∃ x, x = vxC i := ⟨_, rfl⟩
          obtain ⟨xj, hxj⟩ : ∃ x, x = vxC (i + 1) := ⟨_, rfl⟩
          have KS : Hid (∀ u, Below W.heap.size W u → u.cell? ⟨nb, i, none⟩ = some (.string ⟨xi.toArray⟩) ∧ u.cell? ⟨lg, lo + i, none⟩ = some (.string ⟨s.toArray⟩) ∧ u.cell? ⟨nb, i + 1, none⟩ = some (.string ⟨xj.toArray⟩)) := zA (fun u hu => by
            refine ⟨by rw [hxi]; exact HNM.out u hu i (by omega), ?_, by rw [hxj]; exact HNM.out u hu (i + 1) (by omega)⟩
            obtain ⟨g', o', e1, _, _, hc⟩ := (HL.out u (HK.out _ (HUP.out u hu)).1).get hs
            rw [hla] at e1
            injection e1 with e1
            injection e1 with e1 e2
            subst e1 e2
            have := hc 0 _ rfl
            rw [Nat.mul_one, Nat.add_zero] at this
            exact this)
          have HTK : Hid ((chF l).take (i + 1) = (chF l).take i ++ [(xi, s, xj)]) := zA (by rw [List.take_add_one, chF_at hs, hxi, hxj]; rfl)
          have HA1' : Hid (Below W.heap.size W wy.drew) := zA HBY.out.drew
          have HA1 := HA1'
          have HA2 : Hid (Below W.heap.size W (wy.drew.alloc (.cells #[.string ⟨xi.toArray⟩, .string ⟨s.toArray⟩, .string ⟨xj.toArray⟩] 32))) := zA (HBY.out.drew.alloc HBY.out.size _)
          have HOD : Hid ((wy.drew.alloc (.cells #[.string ⟨xi.toArray⟩, .string ⟨s.toArray⟩, .string ⟨xj.toArray⟩] 32)).ownsRow W.heap.size 32 3 (.slice ga i gc) i (((chF l).take i).flatMap csF)) := zA (HOWN.out.drew.alloc _)
          have HNW : Hid (∀ (j : Nat) u, [.string ⟨xi.toArray⟩, .string ⟨s.toArray⟩, .string ⟨xj.toArray⟩][j]? = some u → (wy.drew.alloc (.cells #[.string ⟨xi.toArray⟩, .string ⟨s.toArray⟩, .string ⟨xj.toArray⟩] 32)).cell? ((⟨wy.heap.size, 0, none⟩ : Addr).add j) = some u) := zA (World.news_of_block (cs := #[.string ⟨xi.toArray⟩, .string ⟨s.toArray⟩, .string ⟨xj.toArray⟩]) (t := 32) (fr := (0, 0)) (heap_alloc_new wy.drew _))
          have HKG : Hid (∀ w9, (wy.drew.alloc (.cells #[.string ⟨xi.toArray⟩, .string ⟨s.toArray⟩, .string ⟨xj.toArray⟩] 32)).grownBy w9 (Value.slice ga i gc).ownBlock → Below W.heap.size W w9) := zA (fun w9 hg => HA2.out.grown hg (by have := HBY.out.size; simp; omega) (fun k hk => (HOWN.out.lt k hk).1))
          obtain ⟨Y, hY⟩ : ∃ Y, Y = ((chF l).take i).flatMap csF := ⟨_, rfl⟩
          rw [← hY] at HOD
          have HY := zA hY
          subst hla
          clear hs hxi hxj hY
          go_wp2_with fail
          refine wp_region_held_drew (S := fun u => u.cell? ⟨nb, i, none⟩ = some (.string ⟨xi.toArray⟩) ∧ u.cell? ⟨lg, lo + i, none⟩ = some (.string ⟨s.toArray⟩) ∧ u.cell? ⟨nb, i + 1, none⟩ = some (.string ⟨xj.toArray⟩)) (by kernel_rfl) ?_ (fun hHeld => ?_)
          · exact KS.out _ HA1.out
          refine wpAnyH_take (i := 0) (oi := { dst := some 44, op := Go.Op.move (Go.Operand.tmp 6), type := 30, pos := "law.go:59", after := #[], guard := none }) (v := ?_) rfl (by kernel_rfl) (by kernel_rfl) (by kernel_rfl) (fun _ _ _ h => h) (Or.inl ⟨by rfl, ?_⟩) hHeld ?_
          rotate_left 1
          · intro W hSw
            obtain ⟨l1, l2, l3⟩ := hSw
            go_simp
            try with_reducible rfl
          simp only [Act.put, List.setIfInBounds_toArray, List.set_cons_zero, List.set_cons_succ]
          refine wpAnyH_take (i := 1) (oi := { dst := some 45, op := Go.Op.move (Go.Operand.tmp 5), type := 22, pos := "law.go:59", after := #[], guard := none }) (v := ?_) rfl (by kernel_rfl) (by kernel_rfl) (by kernel_rfl) (fun _ _ _ h => h) (Or.inl ⟨by rfl, ?_⟩) hHeld ?_
          rotate_left 1
          · intro W hSw
            obtain ⟨l1, l2, l3⟩ := hSw
            go_simp
            try with_reducible rfl
          simp only [Act.put, List.setIfInBounds_toArray, List.set_cons_zero, List.set_cons_succ]
          refine wpAnyH_take (i := 2) (oi := { dst := some 46, op := Go.Op.move (Go.Operand.tmp 7), type := 3, pos := "law.go:59", after := #[], guard := none }) (v := ?_) rfl (by kernel_rfl) (by kernel_rfl) (by kernel_rfl) (fun _ _ _ h => h) (Or.inl ⟨by rfl, ?_⟩) hHeld ?_
          rotate_left 1
          · intro W hSw
            obtain ⟨l1, l2, l3⟩ := hSw
            go_simp
            try with_reducible rfl
          simp only [Act.put, List.setIfInBounds_toArray, List.set_cons_zero, List.set_cons_succ]
          refine wpAnyH_take (i := 3) (oi := { dst := some 47, op := Go.Op.indexAddr 22 (Go.Operand.tmp 45) (Go.Operand.tmp 46), type := 0, pos := "law.go:59", after := #[{ on := 1, ground := Go.Ground.data }, { on := 2, ground := Go.Ground.data }], guard := none }) (v := ?_) rfl (by kernel_rfl) (by kernel_rfl) (by kernel_rfl) (fun _ _ _ h => h) (Or.inl ⟨by rfl, ?_⟩) hHeld ?_
          rotate_left 1
          · intro W hSw
            obtain ⟨l1, l2, l3⟩ := hSw
            go_simp
            try with_reducible rfl
          simp only [Act.put, List.setIfInBounds_toArray, List.set_cons_zero, List.set_cons_succ]
          refine wpAnyH_take (i := 4) (oi := { dst := some 48, op := Go.Op.load 9 (Go.Operand.tmp 47), type := 9, pos := "law.go:59", after := #[{ on := 3, ground := Go.Ground.data }], guard := none }) (v := ?_) rfl (by kernel_rfl) (by kernel_rfl) (by kernel_rfl) (fun _ _ _ h => h) (Or.inl ⟨by rfl, ?_⟩) hHeld ?_
          rotate_left 1
          · intro W hSw
            obtain ⟨l1, l2, l3⟩ := hSw
            go_simp
            try with_reducible rfl
          simp only [Act.put, List.setIfInBounds_toArray, List.set_cons_zero, List.set_cons_succ]
          refine wpAnyH_take (i := 5) (oi := { dst := some 49, op := Go.Op.move (Go.Operand.tmp 0), type := 22, pos := "law.go:59", after := #[], guard := none }) (v := ?_) rfl (by kernel_rfl) (by kernel_rfl) (by kernel_rfl) (fun _ _ _ h => h) (Or.inl ⟨by rfl, ?_⟩) hHeld ?_
          rotate_left 1
          · intro W hSw
            obtain ⟨l1, l2, l3⟩ := hSw
            go_simp
            try with_reducible rfl
          simp only [Act.put, List.setIfInBounds_toArray, List.set_cons_zero, List.set_cons_succ]
          refine wpAnyH_take (i := 6) (oi := { dst := some 50, op := Go.Op.move (Go.Operand.tmp 7), type := 3, pos := "law.go:59", after := #[], guard := none }) (v := ?_) rfl (by kernel_rfl) (by kernel_rfl) (by kernel_rfl) (fun _ _ _ h => h) (Or.inl ⟨by rfl, ?_⟩) hHeld ?_
          rotate_left 1
          · intro W hSw
            obtain ⟨l1, l2, l3⟩ := hSw
            go_simp
            try with_reducible rfl
          simp only [Act.put, List.setIfInBounds_toArray, List.set_cons_zero, List.set_cons_succ]
          refine wpAnyH_take (i := 7) (oi := { dst := some 51, op := Go.Op.indexAddr 22 (Go.Operand.tmp 49) (Go.Operand.tmp 50), type := 0, pos := "law.go:59", after := #[{ on := 5, ground := Go.Ground.data }, { on := 6, ground := Go.Ground.data }], guard := none }) (v := ?_) rfl (by kernel_rfl) (by kernel_rfl) (by kernel_rfl) (fun _ _ _ h => h) (Or.inl ⟨by rfl, ?_⟩) hHeld ?_
          rotate_left 1
          · intro W hSw
            obtain ⟨l1, l2, l3⟩ := hSw
            go_simp
            try with_reducible rfl
          simp only [Act.put, List.setIfInBounds_toArray, List.set_cons_zero, List.set_cons_succ]
          refine wpAnyH_take (i := 8) (oi := { dst := some 52, op := Go.Op.load 9 (Go.Operand.tmp 51), type := 9, pos := "law.go:59", after := #[{ on := 7, ground := Go.Ground.data }], guard := none }) (v := ?_) rfl (by kernel_rfl) (by kernel_rfl) (by kernel_rfl) (fun _ _ _ h => h) (Or.inl ⟨by rfl, ?_⟩) hHeld ?_
          rotate_left 1
          · intro W hSw
            obtain ⟨l1, l2, l3⟩ := hSw
            go_simp
            try with_reducible rfl
          simp only [Act.put, List.setIfInBounds_toArray, List.set_cons_zero, List.set_cons_succ]
          refine wpAnyH_take (i := 9) (oi := { dst := some 53, op := Go.Op.move (Go.Operand.tmp 5), type := 22, pos := "law.go:59", after := #[], guard := none }) (v := ?_) rfl (by kernel_rfl) (by kernel_rfl) (by kernel_rfl) (fun _ _ _ h => h) (Or.inl ⟨by rfl, ?_⟩) hHeld ?_
          rotate_left 1
          · intro W hSw
            obtain ⟨l1, l2, l3⟩ := hSw
            go_simp
            try with_reducible rfl
          simp only [Act.put, List.setIfInBounds_toArray, List.set_cons_zero, List.set_cons_succ]
          refine wpAnyH_take (i := 10) (oi := { dst := some 54, op := Go.Op.move (Go.Operand.tmp 7), type := 3, pos := "law.go:59", after := #[], guard := none }) (v := ?_) rfl (by kernel_rfl) (by kernel_rfl) (by kernel_rfl) (fun _ _ _ h => h) (Or.inl ⟨by rfl, ?_⟩) hHeld ?_
          rotate_left 1
          · intro W hSw
            obtain ⟨l1, l2, l3⟩ := hSw
            go_simp
            try with_reducible rfl
          simp only [Act.put, List.setIfInBounds_toArray, List.set_cons_zero, List.set_cons_succ]
          refine wpAnyH_take (i := 11) (oi := { dst := some 55, op := Go.Op.binOp Go.BinOp.add 3 (Go.Operand.tmp 54) (Go.Operand.const (Go.Value.int Go.IntKind.i64 1)) 3, type := 3, pos := "law.go:59", after := #[{ on := 10, ground := Go.Ground.data }], guard := none }) (v := ?_) rfl (by kernel_rfl) (by kernel_rfl) (by kernel_rfl) (fun _ _ _ h => h) (Or.inl ⟨by rfl, ?_⟩) hHeld ?_
          rotate_left 1
          · intro W hSw
            obtain ⟨l1, l2, l3⟩ := hSw
            go_simp
            try with_reducible rfl
          simp only [Act.put, List.setIfInBounds_toArray, List.set_cons_zero, List.set_cons_succ]
          refine wpAnyH_take (i := 12) (oi := { dst := some 56, op := Go.Op.indexAddr 22 (Go.Operand.tmp 53) (Go.Operand.tmp 55), type := 0, pos := "law.go:59", after := #[{ on := 9, ground := Go.Ground.data }, { on := 11, ground := Go.Ground.data }], guard := none }) (v := ?_) rfl (by kernel_rfl) (by kernel_rfl) (by kernel_rfl) (fun _ _ _ h => h) (Or.inl ⟨by rfl, ?_⟩) hHeld ?_
          rotate_left 1
          · intro W hSw
            obtain ⟨l1, l2, l3⟩ := hSw
            go_simp
            try with_reducible rfl
          simp only [Act.put, List.setIfInBounds_toArray, List.set_cons_zero, List.set_cons_succ]
          refine wpAnyH_take (i := 13) (oi := { dst := some 57, op := Go.Op.load 9 (Go.Operand.tmp 56), type := 9, pos := "law.go:59", after := #[{ on := 12, ground := Go.Ground.data }], guard := none }) (v := ?_) rfl (by kernel_rfl) (by kernel_rfl) (by kernel_rfl) (fun _ _ _ h => h) (Or.inl ⟨by rfl, ?_⟩) hHeld ?_
          rotate_left 1
          · intro W hSw
            obtain ⟨l1, l2, l3⟩ := hSw
            go_simp
            try with_reducible rfl
          simp only [Act.put, List.setIfInBounds_toArray, List.set_cons_zero, List.set_cons_succ]
          refine wpAnyH_take (i := 14) (oi := { dst := some 58, op := Go.Op.build 32 #[(0, Go.Operand.tmp 48), (1, Go.Operand.tmp 52), (2, Go.Operand.tmp 57)], type := 32, pos := "law.go:59", after := #[{ on := 4, ground := Go.Ground.data }, { on := 8, ground := Go.Ground.data }, { on := 13, ground := Go.Ground.data }], guard := none }) (v := ?_) rfl (by kernel_rfl) (by kernel_rfl) (by kernel_rfl) (fun _ _ _ h => h) (Or.inl ⟨by rfl, ?_⟩) hHeld ?_
          rotate_left 1
          · intro W hSw
            obtain ⟨l1, l2, l3⟩ := hSw
            go_simp
            try with_reducible rfl
          simp only [Act.put, List.setIfInBounds_toArray, List.set_cons_zero, List.set_cons_succ]
          refine wpAnyH_ready (rs := [15]) (by kernel_rfl) (by simp) ?_
          refine AllReadyH.cons (o := { dst := some 59, op := Go.Op.buildSlice 30 1 #[(0, Go.Operand.tmp 58)], type := 30, pos := "law.go:59", after := #[{ on := 14, ground := Go.Ground.data }], guard := none }) rfl (fun K hK => ?_) AllReadyH.nil
          go_simp
          refine hK.out _ _ (KS.out _ HA2.out) (fun hHeld => ?_)
          clear hK K
          refine wpAnyH_ready (rs := [16]) (by kernel_rfl) (by simp) ?_
          refine AllReadyH.cons (o := { dst := some 60, op := Go.Op.call { callee := Go.Callee.builtin Go.Builtin.append, args := #[Go.Operand.tmp 44, Go.Operand.tmp 59], argTypes := #[30, 30] }, type := 30, pos := "law.go:59", after := #[{ on := 0, ground := Go.Ground.data }, { on := 15, ground := Go.Ground.data }], guard := none }) rfl (fun K hK => ?_) AllReadyH.nil
          refine step_append_lies _ (by rfl) _ _ _ (by rfl) W.heap.size 32 i0 _ 3 48 Tryz.underlying30 hi0 hy0 hy1 hy2 rfl (by decide) (.slice ga i gc) _ _ (by rfl) HOD.out ⟨wy.heap.size, 0, none⟩ 1 1 [.string ⟨xi.toArray⟩, .string ⟨s.toArray⟩, .string ⟨xj.toArray⟩] (by rfl) (by rfl) HNW.out (by simp [Value.oneCell']) (by decide) (by unfold maxLen; omega) (by omega) (by simp; omega) (wy.heap.size + 1) (by simp) ?_
          intro gg cap2 w9 hown9 hgrow9 hat9 hlt9
          have HB9 := zA (HKG.out w9 hgrow9)
          have HO9 := zA hown9
          clear hown9 hgrow9 hat9 hlt9
          refine hK.out _ _ (KS.out _ HB9.out) (fun hHeld => ?_)
          clear hK K
          refine wpAnyH_take (i := 17) (oi := { dst := some 6, op := Go.Op.assign (Go.Operand.tmp 60), type := 30, pos := "law.go:59", after := #[{ on := 16, ground := Go.Ground.data }, { on := 16, ground := Go.Ground.chain }, { on := 0, ground := Go.Ground.phase }, { on := 1, ground := Go.Ground.phase }, { on := 2, ground := Go.Ground.phase }, { on := 3, ground := Go.Ground.phase }, { on := 4, ground := Go.Ground.phase }, { on := 5, ground := Go.Ground.phase }, { on := 6, ground := Go.Ground.phase }, { on := 7, ground := Go.Ground.phase }, { on := 8, ground := Go.Ground.phase }, { on := 9, ground := Go.Ground.phase }, { on := 10, ground := Go.Ground.phase }, { on := 11, ground := Go.Ground.phase }, { on := 12, ground := Go.Ground.phase }, { on := 13, ground := Go.Ground.phase }, { on := 14, ground := Go.Ground.phase }, { on := 15, ground := Go.Ground.phase }, { on := 16, ground := Go.Ground.phase }], guard := none }) (v := ?_) rfl (by kernel_rfl) (by kernel_rfl) (by kernel_rfl) (fun _ _ _ h => h) (Or.inl ⟨by rfl, ?_⟩) hHeld ?_
          rotate_left 1
          · intro W hSw
            obtain ⟨l1, l2, l3⟩ := hSw
            go_simp
            try with_reducible rfl
          simp only [Act.put, List.setIfInBounds_toArray, List.set_cons_zero, List.set_cons_succ]
          refine wpAnyH_done (by kernel_rfl) ?_ _
          have HO10 : Hid (w9.ownsRow W.heap.size 32 3 (.slice (some ⟨gg, 0, none⟩) (i + 1) cap2) (i + 1) (((chF l).take (i + 1)).flatMap csF)) := zA (by
            rw [HTK.out, List.flatMap_append, ← HY.out]
            exact HO9.out)
          clear HO9
          go_wp2
          go_roundw
          case rel => exact ⟨i + 1, _, rfl, by go_num, by omega, HO10, HB9⟩
          case measure => simp [intOf]; omega
        · have hltI : ¬ (i : Int) < (n : Int) := by omega
          have HFS : Hid (FasS (fun _ => True) wy (.slice ga i gc) (chF l)) := zA (by
            have := HOWN.out
            rw [List.take_of_length_le (by rw [chF_len, ← HLN.out]; omega)] at this
            exact (own_sl (enc := csF) (k := 3) (fun _ => rfl) this (by rw [chF_len, ← HLN.out]; omega)).sub (fun _ _ _ => trivial))
          have HBY2 := zA (HUP.out _ HBY.out)
          obtain ⟨hAY, x0, x1, x2⟩ := HK.out _ HBY2.out
          have HAY := zA hAY
          clear hAY hi hlt
          go_wp2_with fail
          refine (CP2.out _ _ HAY.out HFS.out).mono ?_
          rintro e w6 ⟨v6, rfl, hr6, hb6⟩
          have HB6 : Hid (Below W.heap.size W w6) := zA (HBY.out.trans (hb6.mono HBY.out.size))
          obtain ⟨ra, rc, hv6⟩ := hr6.len
          obtain ⟨rn, hrn⟩ : ∃ n, n = O.length := ⟨_, rfl⟩
          rw [← hrn] at hv6
          subst hv6
          have HR6 := zA hr6
          have HRN := zA hrn
          have hrB : rn ≤ 36 := by
            have h1 := HOB.out
            have h2 : (n + 1) * (n + 1) ≤ 6 * 6 := Nat.mul_le_mul (by omega) (by omega)
            omega
          clear hb6 hr6 hrn HFS HOWN x0 x1 x2
          go_wp2_with fail
          go_loopw [10, 11] (fun s10 s11 wr => ∃ (i c : Nat), s11 = .int .i64 (i : Int) ∧ i ≤ n + 1 ∧ s10 = .int .i64 (c : Int) ∧ Hid (c = (pairsTo (vC l) (wC l P) i).length) ∧ Hid (Below w6.heap.size w6 wr)) (fun _ s11 _ => n + 1 - (intOf s11).toNat)
          case atStart => exact ⟨0, 0, rfl, by omega, rfl, zA rfl, zA (Below.refl _ _)⟩
          case round =>
            obtain ⟨i, c, rfl, hi, rfl, HC, HBX⟩ := hrel
            obtain ⟨wx, hwx⟩ : ∃ wx, wx = wr := ⟨_, rfl⟩
            subst hwx
            have hcB : c ≤ 36 := by
              have h1 := to_len (vC l) (wC l P) i
              rw [vC_len, ← HLN.out, ← HC.out] at h1
              have h2 : i * (n + 1) ≤ 6 * 6 := Nat.mul_le_mul (by omega) (by omega)
              omega
            by_cases hlt : i ≤ n
            · have hltI : (i : Int) ≤ (n : Int) := by omega
              go_wp2_with fail
              go_loopw [10, 12] (fun s10 s12 wr => ∃ (k c2 : Nat), s12 = .int .i64 (k : Int) ∧ i ≤ k ∧ k ≤ n + 1 ∧ (n = 0 → k = i) ∧ s10 = .int .i64 (c2 : Int) ∧ Hid (c2 = c + (pairRow (vC l) (wC l P) i k).length) ∧ Hid (Below w6.heap.size w6 wr)) (fun _ s12 _ => n + 1 - (intOf s12).toNat)
              case atStart => exact ⟨i, c, rfl, Nat.le_refl _, by omega, fun _ => rfl, rfl, zA (by rw [HSELF.out]; rfl), HBX⟩
              case round =>
                obtain ⟨k, c2, rfl, hik, hk, hk0, rfl, HC2, HBK⟩ := hrel
                obtain ⟨wk, hwk⟩ : ∃ wk, wk = wr := ⟨_, rfl⟩
                subst hwk
                have hc2B : c2 ≤ 72 := by
                  have h1 := row_len (vC l) (wC l P) i k
                  have := HC2.out
                  omega
                have HW6K : Hid (Below W.heap.size W wk) := zA (HB6.out.trans (HBK.out.mono HB6.out.size))
                have HBK2 := zA (HUP.out _ HW6K.out)
                by_cases hkn : k ≤ n
                · have hknI : (k : Int) ≤ (n : Int) := by omega
                  by_cases hn0 : n = 0
                  · have hn0I : ¬ (0 : Int) < (n : Int) := by omega
                    have HNX : Hid (c2 = (pairsTo (vC l) (wC l P) (i + 1)).length) := zA (by
                      rw [HTOS.out, List.length_append, HNONE.out hn0, HC2.out, HNONE.out hn0, HC.out])
                    clear hk0 hn0
                    go_wp2
                    go_roundw
                    case rel => exact ⟨i + 1, c2, by go_num, by omega, rfl, HNX, HBK⟩
                    case measure => simp [intOf]; omega
                  · have hn0I : (0 : Int) < (n : Int) := by omega
                    clear hk0
                    obtain ⟨hAK, x0, x1, x2⟩ := HK.out _ HBK2.out
                    obtain ⟨aa, cc, hcut, hTx, hCp⟩ := txt_cutC (i := i) (k := k) (HL.out wk.drew hAK.drew) HLN.out hncap hik hkn (by omega)
                    have CW := zA (CWI2.out (by omega) wk.drew _ i k hAK.drew hik hkn hTx hCp)
                    obtain ⟨b, hb⟩ : ∃ b, b = wC l P i k := ⟨_, rfl⟩
                    rw [← hb] at CW
                    have HBB := zA hb
                    have hikI : (i : Int) ≤ (k : Int) := by omega
                    have hkcI : (k : Int) ≤ (lc : Int) := by omega
                    obtain ⟨dk, hdk⟩ : ∃ dk, dk = k - i := ⟨_, rfl⟩
                    rw [← hdk] at hcut CW
                    have HXD : Hid (wk.drew.cell? ⟨w.heap.size, 0, none⟩ = some (.int .i64 kind) ∧ wk.drew.cell? ⟨w.heap.size, 1, none⟩ = some (.string ⟨word.toArray⟩) ∧ wk.drew.cell? ⟨w.heap.size, 2, none⟩ = some val) := zA ⟨x0, x1, x2⟩
                    have HXB : Hid (∀ u, Below wk.drew.heap.size wk.drew u → u.cell? ⟨w.heap.size, 0, none⟩ = some (.int .i64 kind) ∧ u.cell? ⟨w.heap.size, 1, none⟩ = some (.string ⟨word.toArray⟩) ∧ u.cell? ⟨w.heap.size, 2, none⟩ = some val) := zA (fun u hu => (HK.out _ (HBK2.out.drew.trans (hu.mono HBK2.out.drew.size))).2)
                    clear hAK x0 x1 x2 hTx hCp hb hdk
                    go_wp2_with fail
                    go_region_held3 (fun u => u.cell? ⟨w.heap.size, 0, none⟩ = some (.int .i64 kind) ∧ u.cell? ⟨w.heap.size, 1, none⟩ = some (.string ⟨word.toArray⟩) ∧ u.cell? ⟨w.heap.size, 2, none⟩ = some val)
                      (first | with_reducible exact HXB.out _ hb7 | with_reducible exact HXD.out)
                      (first | (go_at_call 10; with_reducible refine CW.out.mono ?_; rintro e w7 ⟨rfl, hb7⟩))
                    have HB7 : Hid (Below w6.heap.size w6 w7) := zA (HBK.out.drew.trans (hb7.mono HBK.out.drew.size))
                    clear hb7
                    cases b with
                    | false =>
                      have HNX : Hid (c2 = c + (pairRow (vC l) (wC l P) i (k + 1)).length) := zA (by
                        rw [HROWS.out, ← HBB.out, if_neg (by decide), List.append_nil]; exact HC2.out)
                      go_wp2
                      go_roundw
                      case rel => exact ⟨k + 1, c2, by go_num, by omega, by omega, fun h => absurd h hn0, rfl, HNX, HB7⟩
                      case measure => simp [intOf]; omega
                    | true =>
                      have HNX : Hid (c2 + 1 = c + (pairRow (vC l) (wC l P) i (k + 1)).length) := zA (by
                        rw [HROWS.out, ← HBB.out, if_pos rfl, List.length_append, HC2.out]; rfl)
                      have HAT := zA (HIX.out i k hlt hkn HBB.out.symm)
                      rw [← HC.out, ← HC2.out] at HAT
                      have hcr : c2 < rn := by rw [HRN.out]; exact (List.getElem?_eq_some_iff.1 HAT.out).1
                      have hcrI : ¬ (rn : Int) ≤ (c2 : Int) := by omega
                      have hcrI2 : (c2 : Int) < (rn : Int) := by omega
                      have HR7 := zA (HR6.out.below HB7.out)
                      obtain ⟨rs, hrs, hrm⟩ := HR7.out
                      obtain ⟨pv, hpv⟩ : ∃ pv, rs[c2]? = some (pv, [vxC i, vxC k]) := by
                        have h1 := HAT.out
                        rw [← hrm, List.getElem?_map] at h1
                        obtain ⟨⟨pv, pl⟩, h2, h3⟩ := Option.map_eq_some_iff.1 h1
                        exact ⟨pv, by rw [h2]; simp only at h3; rw [h3]⟩
                      obtain ⟨mg, mo, hra, hmg, hmc, hmt, _⟩ := hrs.at_ hpv
                      obtain ⟨pa, pc, hpvv0⟩ := hmt.slice
                      have hpvv : pv = .slice pa 2 pc := hpvv0
                      clear hpvv0
                      obtain ⟨xi, hxi⟩ : ∃ x, x = vxC i := ⟨_, rfl⟩
                      obtain ⟨xk, hxk⟩ : ∃ x, x = vxC k := ⟨_, rfl⟩
                      have HW7 : Hid (Below W.heap.size W w7) := zA (HB6.out.trans (HB7.out.mono HB6.out.size))
                      have HKS : Hid (∀ u, Below w7.heap.size w7 u → u.cell? ⟨mg, mo + c2, none⟩ = some pv ∧ u.cell? ⟨nb, i, none⟩ = some (.string ⟨xi.toArray⟩) ∧ u.cell? ⟨nb, k, none⟩ = some (.string ⟨xk.toArray⟩)) := zA (fun u hu => ⟨(hu.cell (p := ⟨mg, mo + c2, none⟩) hmg).trans hmc, by rw [hxi]; exact HNM.out u (HW7.out.trans (hu.mono HW7.out.size)) i (by omega), by rw [hxk]; exact HNM.out u (HW7.out.trans (hu.mono HW7.out.size)) k (by omega)⟩)
                      obtain ⟨WD, hWD⟩ : ∃ WD, WD = (w7.alloc (.cells #[.string ⟨xi.toArray⟩, .string ⟨xk.toArray⟩] 9)).drew := ⟨_, rfl⟩
                      have HBD : Hid (Below w7.heap.size w7 WD) := zA (by rw [hWD]; exact ((Below.refl _ _).alloc (Nat.le_refl _) _).drew)
                      have HDD : Hid (Below w7.heap.size w7 w7.drew) := zA (Below.refl _ _).drew
                      have CSM : Hid (Calls Tryz.prog 11 #[pv, .slice (some ⟨w7.heap.size, 0, none⟩) 2 2] WD fun e w' => e = .returned (.bool true) ∧ Below WD.heap.size WD w') := zA (by
                        have hb2 : WD.heap[w7.heap.size]? = some (.cells #[.string ⟨xi.toArray⟩, .string ⟨xk.toArray⟩] 9 (0, 0)) := by rw [hWD]; exact heap_alloc_new w7 _
                        have h2 : TxtS (fun _ => True) WD (.slice (some ⟨w7.heap.size, 0, none⟩) 2 2) [xi, xk] := sl_litN (enc := csT) (k := 1) (fun _ => rfl) hb2 rfl rfl
                        have hmt2 : TxtS (fun _ => True) w7 pv [xi, xk] := by rw [hxi, hxk]; exact hmt
                        have h1 := rSameW_any (hmt2.below HBD.out) h2 (by simp)
                        rw [decide_eq_true rfl] at h1
                        exact h1)
                      subst hpvv
                      rw [hWD] at CSM
                      have HBD2 : Hid (Below w7.heap.size w7 ((w7.alloc (.cells #[.string ⟨xi.toArray⟩, .string ⟨xk.toArray⟩] 9)).drew)) := zA (by rw [← hWD]; exact HBD.out)
                      subst hra
                      clear hrs hrm hpv hmg hmc hmt hxi hxk hWD HBD HR7
                      have hkp : (k : Int) < 6 := by omega
                      have hip : (i : Int) < 6 := by omega
                      have hkpN : k < 6 := by omega
                      have hipN : i < 6 := by omega
                      have hcrD : decide ((rn : Int) ≤ (c2 : Int)) = false := decide_eq_false hcrI
                      have hcrN : ¬ rn ≤ c2 := by omega
                      go_wp2_with fail
                      go_region_held3 (fun u => u.cell? ⟨mg, mo + c2, none⟩ = some (.slice pa 2 pc) ∧ u.cell? ⟨nb, i, none⟩ = some (.string ⟨xi.toArray⟩) ∧ u.cell? ⟨nb, k, none⟩ = some (.string ⟨xk.toArray⟩))
                        (first | with_reducible exact HKS.out _ h8 | with_reducible exact HKS.out _ HBD2.out | with_reducible exact HKS.out _ HDD.out)
                        (first | (go_at_call 11; with_reducible refine CSM.out.mono ?_; rintro e w8 ⟨rfl, hb8⟩; have h8 := HBD2.out.trans (hb8.mono HBD2.out.size)))
                      have HB8 : Hid (Below w6.heap.size w6 w8) := zA (HB7.out.trans (h8.mono HB7.out.size))
                      clear h8 hb8
                      go_wp2
                      go_roundw
                      case rel => exact ⟨k + 1, c2 + 1, by go_num, by omega, by omega, fun h => absurd h hn0, by go_num, HNX, HB8⟩
                      case measure => simp [intOf]; omega
                · have hknI : ¬ (k : Int) ≤ (n : Int) := by omega
                  have HNX : Hid (c2 = (pairsTo (vC l) (wC l P) (i + 1)).length) := zA (by
                    rw [HTOS.out, List.length_append, HC2.out, HC.out, show k = n + 1 by omega])
                  clear hk0
                  go_wp2
                  go_roundw
                  case rel => exact ⟨i + 1, c2, by go_num, by omega, rfl, HNX, HBK⟩
                  case measure => simp [intOf]; omega
            · have hltI : ¬ (i : Int) ≤ (n : Int) := by omega
              have HCR : Hid (c = rn) := zA (by rw [HC.out, HRN.out, HOO.out, show i = n + 1 by omega])
              rw [HCR.out]
              have hcc : ((rn : Int) == (rn : Int)) = true := by simp
              have HAX := zA (HK.out _ (HUP.out _ (HB6.out.trans (HBX.out.mono HB6.out.size)))).1
              go_wp2_with fail
              refine CQ.out _ HAX.out _ (fun wq hbq => ?_)
              have HWQ := zA hbq
              clear hbq
              go_wp2_with fail
              refine bodyPost_ret (v := .bool true) ?_ rfl ⟨rfl, HWQ.out⟩
              simp [results, Tryz.results3, go_sem]
end Go.Proofs.YtdalcipmpelifaaGreatDoor
