/- What agrees meets: the statement. -/
import Derived.Test.YtbknlmalfkpenaaHMeetL
namespace Go.Proofs.Ytbknlmalfkpenaa
open Go.RowKit

theorem maskN (z : Int) (n : Nat) (hn : 0 < n) : ∃ q j : Nat, bits .and .i64 z 65535 = (q : Int) ∧ q ≤ 65535 ∧ (q : Int).tmod (n : Int) = (j : Int) ∧ j < n := by
  refine ⟨(z % 65536).toNat, (z % 65536).toNat % n, by rw [i64_maskH z 16 65535 65536 (by omega) (by decide) (by decide)]; omega, by omega, ?_, Nat.mod_lt _ hn⟩
  rw [Int.tmod_eq_emod_of_nonneg (by omega)]
  rfl
theorem two_rows {w : World} {o1 o2 : Obj} {t1 t2 : TypeId} {l1 l2 : List Value} (e1 : o1 = .cells l1.toArray t1) (e2 : o2 = .cells l2.toArray t2) : VRow ((w.alloc o1).alloc o2) w.heap.size t1 l1 ∧ VRow ((w.alloc o1).alloc o2) (w.heap.size + 1) t2 l2 ∧ Below w.heap.size w ((w.alloc o1).alloc o2) := by
  refine ⟨?_, ?_, ((Below.refl _ _).alloc (Nat.le_refl _) _).alloc (by simp) _⟩
  · unfold VRow
    rw [heap_alloc_old _ _ (by simp), e1]
    exact heap_alloc_new _ _
  · unfold VRow
    have := heap_alloc_new (w.alloc o1) o2
    rw [World.size_alloc] at this
    rw [this, e2]
theorem two_rowsD {w : World} {o1 o2 : Obj} {t1 t2 : TypeId} {l1 l2 : List Value} (e1 : o1 = .cells l1.toArray t1) (e2 : o2 = .cells l2.toArray t2) : VRow ((w.alloc o1).alloc o2).drew w.heap.size t1 l1 ∧ VRow ((w.alloc o1).alloc o2).drew (w.heap.size + 1) t2 l2 ∧ Below w.heap.size w ((w.alloc o1).alloc o2).drew := by
  obtain ⟨h1, h2, h3⟩ := two_rows (w := w) e1 e2
  exact ⟨h1, h2, h3.drew⟩
set_option maxHeartbeats 16000000 in
set_option maxRecDepth 100000 in
theorem shareMeets_walk (v1 : Value) (L : List Int) (v2 : Value) (ws : List (List UInt8)) (r : Int × Int) (w : World) (h1 : IntZ (fun _ => True) w v1 L) (g1 : L.length ≤ 9223372036854775807 ∧ CapS v1 L.length) (h2 : TxtW (fun _ => True) w v2 ws) (g2 : ws.length ≤ 9223372036854775807 ∧ CapS v2 ws.length)
    (_ : (Lit.int .i64 r.1).wf = true ∧ (Lit.int .i64 r.2).wf = true) :
    Calls Try.prog 6 #[v1, v2, .agg #[.int .i64 r.1, .int .i64 r.2]] w fun e w' => e = .returned (.bool true) ∧ Below w.heap.size w w' := by
  obtain ⟨i0, hi0, hz0, hz1, hz2⟩ := info_parts infoZ
  obtain ⟨z1, z2⟩ := r
  simp only
  obtain ⟨W0, hW0⟩ : ∃ W, W = w.alloc (.cells #[.int .i64 z1, .int .i64 z2] 22) := ⟨_, rfl⟩
  have hb0 : Below w.heap.size w W0 := by rw [hW0]; exact (Below.refl _ _).alloc (Nat.le_refl _) _
  have hbx : VRow W0 w.heap.size 22 [.int .i64 z1, .int .i64 z2] := by rw [hW0]; exact heap_alloc_new _ _
  have hs0 : w.heap.size < W0.heap.size := lt_of_block hbx
  have hb0' : Below w.heap.size w W0 := hb0
  have HBX : Hid (∀ W, Below W0.heap.size W0 W → W.cell? ⟨w.heap.size, 0, none⟩ = some (.int .i64 z1) ∧ W.cell? ⟨w.heap.size, 1, none⟩ = some (.int .i64 z2)) := Hid.mk (fun W hW => ⟨((hbx.below hW).cell (i := 0) rfl).1, ((hbx.below hW).cell (i := 1) rfl).1⟩)
  have HBT : Hid (∀ W, Below W0.heap.size W0 W → Below w.heap.size w W) := Hid.mk (fun W hW => hb0.trans (hW.mono hb0.size))
  have h1' := h1.below hb0
  have h2' := h2.below hb0
  have HCL := Hid.mk (cells_any h1' g1.1)
  obtain ⟨a1, c1, rfl⟩ := h1.slice
  obtain ⟨a2, c2, rfl⟩ := h2.slice
  obtain ⟨ao, cap, e, hcap⟩ := g2.2
  injection e with e1 e2 e3
  subst e1 e3
  have H1 := Hid.mk h1'
  have H2 := Hid.mk h2'
  have HT : Hid (∀ W, Below W0.heap.size W0 W → L.length ≤ ws.length → TxtW (fun _ => True) W (.slice a2 L.length c2) (ws.take L.length)) := Hid.mk (fun W hW hn => txt_take (h2'.below hW) L.length hn)
  have hg1 := g1.1
  have hg2 := g2.1
  have HAW : Hid (∀ W, Below W0.heap.size W0 W → Calls Try.prog 10 #[] W fun e w' => e = .returned (.bool true) ∧ Below w.heap.size w w') := Hid.mk (fun W hW => (awake_any W).mono (fun e w' h => ⟨h.1, HBT.out _ (hW.trans (h.2.mono hW.size))⟩))
  by_cases hL : ¬ okL L = true
  · rw [show cellE L = .tuple #[.int .i64 0, .int .i64 1] from if_neg hL] at HCL
    clear hL h1 h2 h1' h2' g1 g2 hbx hb0 hb0'
    go_enter Try.func6, Try.ntmps6
    go_wp2_with fail
    rw [← hW0]
    refine HCL.out.mono ?_
    rintro e w1 ⟨rfl, h⟩
    rw [h]
    clear h hW0
    go_wp2_with fail
    refine (HAW.out W0 (Below.refl _ _)).mono ?_
    rintro e w1 ⟨rfl, hb⟩
    have HB := Hid.mk hb
    clear hb
    go_wp2
    go_ret
    exact ⟨rfl, HB.out⟩
  · have hL : okL L = true := Decidable.of_not_not hL
    have HL := Hid.mk hL
    have hn16 := (okL_iff.1 hL).1
    have hP1 := prodI_pos (okL_iff.1 hL).2.1
    have hP64 := (okL_iff.1 hL).2.2
    rw [show cellE L = .tuple #[.int .i64 (prodI L), .int .i64 0] from if_pos hL] at HCL
    obtain ⟨P, hP⟩ : ∃ P, P = prodI L := ⟨_, rfl⟩
    rw [← hP] at HCL hP1 hP64
    have HP := Hid.mk hP
    obtain ⟨n, hn⟩ : ∃ n, n = L.length := ⟨_, rfl⟩
    obtain ⟨m, hm⟩ : ∃ m, m = ws.length := ⟨_, rfl⟩
    rw [← hn] at H1 HCL HT hn16 hg1 ⊢
    rw [← hm] at H2 HT hg2 hcap ⊢
    have HN := Hid.mk hn
    have HM := Hid.mk hm
    clear h1 h2 h1' h2' g1 g2 hL hn hm hP hbx hb0 hb0'
    by_cases hz : n = 0
    · have hzI : (n : Int) = 0 := by omega
      subst hz
      go_enter Try.func6, Try.ntmps6
      go_wp2_with fail
      rw [← hW0]
      refine HCL.out.mono ?_
      rintro e w1 ⟨rfl, h⟩
      rw [h]
      clear h hW0
      go_wp2_with fail
      refine (HAW.out W0 (Below.refl _ _)).mono ?_
      rintro e w1 ⟨rfl, hb⟩
      have HB := Hid.mk hb
      clear hb
      go_wp2
      go_ret
      exact ⟨rfl, HB.out⟩
    have hnz : ¬ (n : Int) = 0 := by omega
    have hnz2 : ((n : Int) == 0) = false := beq_eq_false_iff_ne.2 hnz
    by_cases hlt : m < n
    · have hltI : (m : Int) < (n : Int) := by omega
      go_enter Try.func6, Try.ntmps6
      go_wp2_with fail
      rw [← hW0]
      refine HCL.out.mono ?_
      rintro e w1 ⟨rfl, h⟩
      rw [h]
      clear h hW0
      go_wp2_with fail
      refine (HAW.out W0 (Below.refl _ _)).mono ?_
      rintro e w1 ⟨rfl, hb⟩
      have HB := Hid.mk hb
      clear hb
      go_wp2
      go_ret
      exact ⟨rfl, HB.out⟩
    have hltI : ¬ (m : Int) < (n : Int) := by omega
    have hnm : n ≤ m := by omega
    go_enter Try.func6, Try.ntmps6
    go_wp2_with fail
    rw [← hW0]
    refine HCL.out.mono ?_
    rintro e w1 ⟨rfl, h⟩
    rw [h]
    clear h hW0
    go_wp2_with fail
    go_loopw [9, 10] (fun vl c wr => ∃ (i : Nat) (u : Value), u = vl ∧ i ≤ n ∧ c = .int .i64 i ∧ (∀ (j : Nat) t, j < i → ws[j]? = some t → t.length ≤ 4096) ∧ wr.ownsRow W0.heap.size 3 1 u i ((rngI i).flatMap csZ) ∧ Below W0.heap.size W0 wr) (fun _ c _ => n - (intOf c).toNat)
    case atStart => exact ⟨0, _, rfl, Nat.zero_le _, rfl, fun j t hj => absurd hj (by omega), World.ownsRow_nil _ _ _ _, Below.refl _ _⟩
    case round =>
      obtain ⟨i, u, rfl, hi, rfl, hall, hrow, hbw⟩ := hrel
      obtain ⟨wx, hwx⟩ : ∃ wx, wx = wr := ⟨_, rfl⟩
      subst hwx
      obtain ⟨ua, uc, hu⟩ := own_slice hrow
      subst hu
      have HALL := Hid.mk hall
      have HROW := Hid.mk hrow
      have HBW := Hid.mk hbw
      have hsx : W0.heap.size ≤ wx.heap.size := hbw.size
      clear hall hrow hbw
      by_cases hin : i < n
      · have hinI : (i : Int) < (n : Int) := by omega
        have him : i < m := by omega
        have himI : (i : Int) < (m : Int) := by omega
        obtain ⟨t, ht⟩ : ∃ t, ws[i]? = some t := ⟨_, List.getElem?_eq_getElem (by rw [← HM.out]; omega)⟩
        obtain ⟨gg2, o2, e2, _, _, d2⟩ := (H2.out.below HBW.out).get ht
        have q2 := getW d2
        rw [Nat.mul_one] at q2
        have HTT := Hid.mk ht
        have hsize : (ByteArray.mk t.toArray).size = t.length := by simp [ByteArray.size]
        subst e2
        clear ht d2
        by_cases hlong : 4096 < t.length
        · have hlI : (4096 : Int) < (t.length : Int) := by omega
          have HA := Hid.mk (HAW.out wx HBW.out)
          go_wp2_with fail
          refine HA.out.mono ?_
          rintro e w1 ⟨rfl, hb⟩
          have HB := Hid.mk hb
          clear hb
          go_wp2
          go_ret
          exact ⟨rfl, HB.out⟩
        · have hlI : ¬ (4096 : Int) < (t.length : Int) := by omega
          have HA2 : Hid (∀ (j : Nat) t', j < i + 1 → ws[j]? = some t' → t'.length ≤ 4096) := Hid.mk (fun j t' hj ht' => by
            by_cases e : j = i
            · subst e
              rw [HTT.out] at ht'
              rw [← Option.some.inj ht']
              omega
            · exact HALL.out j t' (by omega) ht')
          go_wp2_with (at_builtin; refine wpList_append_lies _ rfl _ _ _ rfl W0.heap.size 3 i0 _ 1 8 Try.underlying24 hi0 hz0 hz1 hz2 rfl (by decide) (.slice ua i uc) _ _ (by rfl) (HROW.out.alloc _) ⟨wx.heap.size, 0, none⟩ 1 1 (csZ (i : Int)) (by rfl) (by rfl) (World.news_of_block (cs := #[.int .i64 (i : Int)]) (t := 3) (fr := (0, 0)) (heap_alloc_new wx _)) (by simp [Value.oneCell']) (by decide) (by unfold maxLen; omega) (by omega) (by simp; omega) (wx.heap.size + 1) (by simp) ?_)
          intro gg cap2 w9 hown9 hgrow9 _ _
          have HB9 : Hid (Below W0.heap.size W0 w9) := Hid.mk ((HBW.out.alloc HBW.out.size _).grown hgrow9 (by simp; omega) (fun k e => (HROW.out.lt k e).1))
          have HR9 : Hid (w9.ownsRow W0.heap.size 3 1 (.slice (some ⟨gg, 0, none⟩) (i + 1) cap2) (i + 1) ((rngI ((i + 1 : Nat) : Int)).flatMap csZ)) := Hid.mk (by
            rw [rng_snoc, List.flatMap_append]
            exact hown9)
          clear hown9 hgrow9 q2
          go_wp2
          go_roundw
          case rel => exact ⟨i + 1, _, rfl, by omega, by go_num, HA2.out, HR9.out, HB9.out⟩
          case measure => simp [intOf]; omega
      · have hinI : ¬ (i : Int) < (n : Int) := by omega
        have e : i = n := by omega
        subst e
        have HWL : Hid ((ws.take i).length = L.length) := Hid.mk (by rw [List.length_take, ← HN.out]; have := HM.out; omega)
        have HS : Hid (∀ s ∈ ws.take i, s.length ≤ 140737488351000) := Hid.mk (fun s hs => by
          obtain ⟨k, hk⟩ := List.getElem?_of_mem hs
          have hk2 := (List.getElem?_eq_some_iff.1 hk).1
          rw [List.length_take] at hk2
          rw [List.getElem?_take_of_lt (by omega)] at hk
          have := HALL.out k s (by omega) hk
          omega)
        obtain ⟨x, hx⟩ : ∃ x, x = horner (L.zip (ptsL L (ws.take i))) := ⟨_, rfl⟩
        have hxr := horner_range _ (zip_range HL.out HWL.out)
        rw [List.map_fst_zip (by rw [pts_len (by rw [HWL.out]; exact Nat.le_refl _)]; exact Nat.le_refl _), ← hx, ← HP.out] at hxr
        obtain ⟨hx0, hx1⟩ := hxr
        have HRO : Hid (routeL L (prs L (rngI (i : Int)) (ws.take i)) = [x]) := Hid.mk (by
          rw [hx]
          have := route_all HL.out HWL.out
          rw [← HN.out] at this
          exact this)
        have HASK : Hid (askR L (rngI (i : Int)) (ws.take i).length) := Hid.mk ⟨HL.out, by rw [rng_len, HWL.out, HN.out], by rw [rng_len]; omega, fun v hv => by rw [← HN.out]; exact mem_rngI.1 hv⟩
        have HC : Hid (Calls Try.prog 17 #[.slice a1 i c1, .slice ua i uc, .slice a2 i c2] wx fun e w' => Below wx.heap.size wx w' ∧ ∃ g off c, e = .returned (.tuple #[.slice (some ⟨g, off, none⟩) 1 c, .int .i64 0]) ∧ IntZ (fun _ => True) w' (.slice (some ⟨g, off, none⟩) 1 c) [x]) := Hid.mk ((route_any (S := fun _ => True) (by exact H1.out.below HBW.out) ((own_int HROW.out (by rw [rng_len])).sub (fun _ _ _ => trivial)) (HT.out wx HBW.out hnm) (by rw [← HN.out]; exact hg1) (by rw [rng_len]; omega) HS.out).mono (fun e w' h => by
          obtain ⟨hb, h⟩ := h
          refine ⟨hb, ?_⟩
          rcases h with ⟨_, v, e1, e2⟩ | ⟨h, _⟩
          · rw [HRO.out] at e2
            obtain ⟨a, c, e3⟩ := e2.slice
            subst e3
            obtain ⟨g, off, e4, _, _, d⟩ := e2.get (j := 0) (x := x) rfl
            subst e4
            exact ⟨g, off, c, e1, e2.sub (fun _ _ _ => trivial)⟩
          · exact absurd HASK.out h))
        have HXX := Hid.mk hx
        clear hx
        have hcapI : i ≤ c2 := by omega
        go_wp2_with fail
        refine HC.out.mono ?_
        rintro e w5 ⟨hb5, g5, o5, c5, rfl, hv5⟩
        have HB5 := Hid.mk (HBW.out.trans (hb5.mono hsx))
        have HV5 : Hid (∀ W, Below w5.heap.size w5 W → W.cell? ⟨g5, o5, none⟩ = some (.int .i64 x)) := Hid.mk (fun W hW => by
          obtain ⟨g, off, e4, _, _, d⟩ := (hv5.below hW).get (j := 0) (x := x) rfl
          injection e4 with e4; injection e4 with e4 e5
          subst e4 e5
          have := getZ d
          simpa using this)
        have q5 := HV5.out w5 (Below.refl _ _)
        have hs5 : W0.heap.size ≤ w5.heap.size := HB5.out.size
        clear hb5 hv5 HC
        obtain ⟨y1, ja, hy1, hy1b, hja, hjan⟩ := maskN z1 i (by omega)
        obtain ⟨y2, jb, hy2, hy2b, hjb, hjbn⟩ := maskN z2 i (by omega)
        obtain ⟨qb1, qb2⟩ := HBX.out w5.drew HB5.out.drew
        go_wp2_with fail
        go_region
        obtain ⟨wy, hwy⟩ : ∃ wy, wy = w5.drew := ⟨_, rfl⟩
        have hby : Below W0.heap.size W0 wy := by rw [hwy]; exact HB5.out.drew
        have hby5 : Below w5.heap.size w5 wy := by rw [hwy]; exact (Below.refl _ _).drew
        rw [← hwy]
        have HBY := Hid.mk hby
        have HBY5 := Hid.mk hby5
        clear hwy hby hby5 qb1 qb2 q5 hy1 hy2 hja hjb hy1b hy2b
        obtain ⟨s, hs⟩ : ∃ s, (ws.take i)[ja]? = some s := ⟨_, List.getElem?_eq_getElem (by rw [HWL.out, ← HN.out]; exact hjan)⟩
        obtain ⟨t, ht⟩ : ∃ t, (ws.take i)[jb]? = some t := ⟨_, List.getElem?_eq_getElem (by rw [HWL.out, ← HN.out]; exact hjbn)⟩
        obtain ⟨sa, hsa⟩ : ∃ s, L[ja]? = some s := ⟨_, List.getElem?_eq_getElem (by rw [← HN.out]; exact hjan)⟩
        obtain ⟨sb, hsb⟩ : ∃ s, L[jb]? = some s := ⟨_, List.getElem?_eq_getElem (by rw [← HN.out]; exact hjbn)⟩
        have hs' : ws[ja]? = some s := by rw [List.getElem?_take_of_lt hjan] at hs; exact hs
        have ht' : ws[jb]? = some t := by rw [List.getElem?_take_of_lt hjbn] at ht; exact ht
        obtain ⟨ra0, ra1⟩ := okL_mem HL.out (List.mem_of_getElem? hsa)
        obtain ⟨rb0, rb1⟩ := okL_mem HL.out (List.mem_of_getElem? hsb)
        have HR2 := Hid.mk (route_two HL.out (by rw [← HN.out]; exact hjan) (by rw [← HN.out]; exact hjbn) hs ht hsa hsb HWL.out)
        rw [← HXX.out, ← HP.out] at HR2
        obtain ⟨R, hR⟩ : ∃ R, R = routeL L (prs L [(ja : Int), (jb : Int)] [s, t]) := ⟨_, rfl⟩
        rw [← hR] at HR2
        have HSS := Hid.mk (HS.out s (List.mem_of_getElem? hs))
        have HST := Hid.mk (HS.out t (List.mem_of_getElem? ht))
        have HROU : Hid (∀ (W : World) (b1 b2 : Nat), Below W0.heap.size W0 W → VRow W b1 3 (([(ja : Int), (jb : Int)] : List Int).flatMap csZ) → VRow W b2 9 (([s, t] : List (List UInt8)).flatMap csW) →
            Calls Try.prog 17 #[.slice a1 i c1, .slice (some ⟨b1, 0, none⟩) 2 2, .slice (some ⟨b2, 0, none⟩) 2 2] W fun e w' => Below W.heap.size W w' ∧ ∃ a c, e = .returned (.tuple #[.slice a R.length c, .int .i64 0]) ∧ IntZ (fun _ => True) w' (.slice a R.length c) R) := Hid.mk (fun W b1 b2 hW hv1 hv2 =>
          (route_any (S := fun _ => True) (by exact H1.out.below hW) (slZ hv1 (n := 2) rfl) (slW hv2 (n := 2) rfl) (by rw [← HN.out]; exact hg1) (by simp) (fun u hu => by simp at hu; rcases hu with rfl | rfl; exact HSS.out; exact HST.out)).mono (fun e w' h => by
            obtain ⟨hb, h⟩ := h
            refine ⟨hb, ?_⟩
            rcases h with ⟨_, v, e1, e2⟩ | ⟨h, _⟩
            · rw [← hR] at e2
              obtain ⟨a, c, e3⟩ := e2.slice
              subst e3
              exact ⟨a, c, e1, e2.sub (fun _ _ _ => trivial)⟩
            · exact absurd ⟨HL.out, rfl, by simp, fun u hu => by simp at hu; rw [← HN.out]; rcases hu with rfl | rfl <;> omega⟩ h))
        have HKC : Hid (∀ W, Below W0.heap.size W0 W → ∃ g1 o1 g2 o2, a1 = some ⟨g1, o1, none⟩ ∧ a2 = some ⟨g2, o2, none⟩ ∧ W.cell? ⟨g1, o1 + ja, none⟩ = some (.int .i64 sa) ∧ W.cell? ⟨g1, o1 + jb, none⟩ = some (.int .i64 sb) ∧ W.cell? ⟨g2, o2 + ja, none⟩ = some (.string ⟨s.toArray⟩) ∧ W.cell? ⟨g2, o2 + jb, none⟩ = some (.string ⟨t.toArray⟩)) := Hid.mk (fun W hb => by
          obtain ⟨p1, p2, e1, _, _, d1⟩ := (H1.out.below hb).get hsa
          obtain ⟨p3, p4, e3, _, _, d3⟩ := (H1.out.below hb).get hsb
          obtain ⟨p5, p6, e5, _, _, d5⟩ := (H2.out.below hb).get hs'
          obtain ⟨p7, p8, e7, _, _, d7⟩ := (H2.out.below hb).get ht'
          rw [e1] at e3; rw [e5] at e7
          injection e3 with e3; injection e3 with e3 e3b
          injection e7 with e7; injection e7 with e7 e7b
          subst e3 e3b e7 e7b
          have q1 := getZ d1
          have q3 := getZ d3
          have q5 := getW d5
          have q7 := getW d7
          rw [Nat.mul_one] at q1 q3 q5 q7
          exact ⟨_, _, _, _, e1, e5, q1, q3, q5, q7⟩)
        have hPnn : 0 ≤ P := by omega
        have hRlen : (R.length : Int) = if ja = jb then P / sa else P / sa / sb := HR2.out.1
        have HXR : Hid (x ∈ R) := Hid.mk HR2.out.2
        have hd1 : P.tdiv sa = P / sa := Int.tdiv_eq_ediv_of_nonneg hPnn
        have hd1r : 0 ≤ P / sa ∧ P / sa ≤ P := ⟨Int.ediv_nonneg hPnn (by omega), Int.ediv_le_self _ hPnn⟩
        obtain ⟨d1, hd1e⟩ : ∃ d, d = P / sa := ⟨_, rfl⟩
        rw [← hd1e] at hd1 hd1r hRlen
        obtain ⟨hd10, hd11⟩ := hd1r
        have hd2 : d1.tdiv sb = d1 / sb := Int.tdiv_eq_ediv_of_nonneg hd10
        have hd2r : 0 ≤ d1 / sb ∧ d1 / sb ≤ d1 := ⟨Int.ediv_nonneg hd10 (by omega), Int.ediv_le_self _ hd10⟩
        obtain ⟨d2, hd2e⟩ : ∃ d, d = d1 / sb := ⟨_, rfl⟩
        rw [← hd2e] at hd2 hd2r hRlen
        obtain ⟨hd20, hd21⟩ := hd2r
        obtain ⟨nr, hnr⟩ : ∃ nr, nr = R.length := ⟨_, rfl⟩
        rw [← hnr] at hRlen HROU
        have HNR := Hid.mk hnr
        have hnr64 : nr ≤ 64 := by
          split at hRlen
          · omega
          · omega
        have ham : ja < m := by omega
        have hbm : jb < m := by omega
        have hamI : (ja : Int) < (m : Int) := by omega
        have hbmI : (jb : Int) < (m : Int) := by omega
        have hanI : (ja : Int) < (i : Int) := by omega
        have hbnI : (jb : Int) < (i : Int) := by omega
        obtain ⟨x1, x2, x3, x4, ex1, ex2, _⟩ := HKC.out wy HBY.out
        have HKD : Hid (∀ W, Below W0.heap.size W0 W → (W.cell? ⟨x1, x2 + ja, none⟩ = some (.int .i64 sa) ∧ W.cell? ⟨x1, x2 + jb, none⟩ = some (.int .i64 sb)) ∧ W.cell? ⟨x3, x4 + ja, none⟩ = some (.string ⟨s.toArray⟩) ∧ W.cell? ⟨x3, x4 + jb, none⟩ = some (.string ⟨t.toArray⟩)) := Hid.mk (fun W hb => by
          obtain ⟨p1, p2, p3, p4, e1, e2, f1, f2, f3, f4⟩ := HKC.out W hb
          rw [ex1] at e1; rw [ex2] at e2
          injection e1 with e1; injection e1 with e1 e1b
          injection e2 with e2; injection e2 with e2 e2b
          subst e1 e1b e2 e2b
          exact ⟨⟨f1, f2⟩, f3, f4⟩)
        obtain ⟨WA, hWA⟩ : ∃ W, W = ((wy.alloc (.cells #[.int .i64 (ja : Int), .int .i64 (jb : Int)] 3)).alloc (.cells #[.string ⟨s.toArray⟩, .string ⟨t.toArray⟩] 9)).drew := ⟨_, rfl⟩
        obtain ⟨WB, hWB⟩ : ∃ W, W = ((wy.alloc (.cells #[.string ⟨s.toArray⟩, .string ⟨t.toArray⟩] 9)).alloc (.cells #[.int .i64 (ja : Int), .int .i64 (jb : Int)] 3)).drew := ⟨_, rfl⟩
        obtain ⟨ta1, ta2, ta3⟩ := two_rowsD (w := wy) (t1 := 3) (t2 := 9) (l1 := ([(ja : Int), (jb : Int)] : List Int).flatMap csZ) (l2 := ([s, t] : List (List UInt8)).flatMap csW) (o1 := .cells #[.int .i64 (ja : Int), .int .i64 (jb : Int)] 3) (o2 := .cells #[.string ⟨s.toArray⟩, .string ⟨t.toArray⟩] 9) rfl rfl
        obtain ⟨tb1, tb2, tb3⟩ := two_rowsD (w := wy) (t1 := 9) (t2 := 3) (l2 := ([(ja : Int), (jb : Int)] : List Int).flatMap csZ) (l1 := ([s, t] : List (List UInt8)).flatMap csW) (o2 := .cells #[.int .i64 (ja : Int), .int .i64 (jb : Int)] 3) (o1 := .cells #[.string ⟨s.toArray⟩, .string ⟨t.toArray⟩] 9) rfl rfl
        rw [← hWA] at ta1 ta2 ta3
        rw [← hWB] at tb1 tb2 tb3
        have hbA : Below W0.heap.size W0 WA := HBY.out.trans (ta3.mono HBY.out.size)
        have hbB : Below W0.heap.size W0 WB := HBY.out.trans (tb3.mono HBY.out.size)
        have HA5 : Hid (Below w5.heap.size w5 WA) := Hid.mk (HBY5.out.trans (ta3.mono HBY5.out.size))
        have HB5' : Hid (Below w5.heap.size w5 WB) := Hid.mk (HBY5.out.trans (tb3.mono HBY5.out.size))
        have HCA := Hid.mk (HROU.out WA wy.heap.size (wy.heap.size + 1) hbA ta1 ta2)
        have HCB := Hid.mk (HROU.out WB (wy.heap.size + 1) wy.heap.size hbB tb2 tb1)
        have HBA := Hid.mk hbA
        have HBB := Hid.mk hbB
        obtain ⟨⟨qa1, qa2⟩, _⟩ := HKD.out WA hbA
        obtain ⟨⟨qc1, qc2⟩, _⟩ := HKD.out WB hbB
        obtain ⟨_, qy3, qy4⟩ := HKD.out wy.drew HBY.out.drew
        have HI1 : Hid (∀ o : Obj, Below W0.heap.size W0 (wy.alloc o).drew) := Hid.mk (fun o => (HBY.out.alloc HBY.out.size _).drew)
        have HTS : Hid (ja = jb → t = s ∧ sb = sa) := Hid.mk (fun h => by
          rw [← h] at ht' hsb
          rw [hs'] at ht'
          rw [hsa] at hsb
          exact ⟨(Option.some.inj ht').symm, (Option.some.inj hsb).symm⟩)
        have HNE : Hid (ja ≠ jb → (nr : Int) = d2) := Hid.mk (fun h => by rw [hRlen, if_neg h])
        have HEQ : Hid (ja = jb → (nr : Int) = d1) := Hid.mk (fun h => by rw [hRlen, if_pos h])
        subst ex1 ex2
        clear hRlen hd1e hd2e hnr hR hs ht hs' ht' hsa hsb ta1 ta2 ta3 tb1 tb2 tb3 hbA hbB HROU HKC HR2 HSS HST
        by_cases hab : ja = jb
        · obtain ⟨ets, esb⟩ := HTS.out hab
          subst ets esb hab
          have HRS : Hid ((nr : Int) = d1) := Hid.mk (HEQ.out rfl)
          clear HNE HEQ HTS
          go_wp2_with fail
          go_region_held3 (fun u => u.cell? ⟨x3, x4 + ja, none⟩ = some (.string ⟨t.toArray⟩) ∧ u.cell? ⟨x3, x4 + ja, none⟩ = some (.string ⟨t.toArray⟩))
            (first | with_reducible exact (HKD.out _ HBY.out.drew).2 | with_reducible exact (HKD.out _ (HI1.out _)).2 | with_reducible exact (HKD.out _ HBA.out).2 | with_reducible exact (HKD.out _ HBB.out).2 | (rw [← hWA]; exact (HKD.out _ HBA.out).2) | (rw [← hWB]; exact (HKD.out _ HBB.out).2))
            (fail)
          · rw [← hWA]
            have HCX := HCA
            have HBXX := HBA
            have HX5 := HA5
            clear HCA HCB HBA HBB HA5 HB5' hWA hWB qc1 qc2
            go_wp2_with fail
            refine HCX.out.mono ?_
            rintro e w7 ⟨hb7, la, lc, rfl, hl7⟩
            have HB7 : Hid (Below W0.heap.size W0 w7) := Hid.mk (HBXX.out.trans (hb7.mono HBXX.out.size))
            have HB57 : Hid (Below w5.heap.size w5 w7) := Hid.mk (HX5.out.trans (hb7.mono HX5.out.size))
            have HL7 := Hid.mk hl7
            clear hb7 hl7
            go_wp2_with fail
            go_loopw [20, 21] (fun f c wr => ∃ k : Nat, k ≤ nr ∧ c = .int .i64 k ∧ f = .bool (decide (x ∈ R.take k)) ∧ Below w7.heap.size w7 wr) (fun _ c _ => nr - (intOf c).toNat)
            case atStart => exact ⟨0, Nat.zero_le _, rfl, by simp, Below.refl _ _⟩
            case round =>
              obtain ⟨k, hk, rfl, rfl, hbz⟩ := hrel
              obtain ⟨wz, hwz⟩ : ∃ wz, wz = wr := ⟨_, rfl⟩
              subst hwz
              have HBZ := Hid.mk hbz
              clear hbz
              by_cases hkn : k < nr
              · have hknI : (k : Int) < (nr : Int) := by omega
                obtain ⟨y, hy⟩ : ∃ y, R[k]? = some y := ⟨_, List.getElem?_eq_getElem (by rw [← HNR.out]; exact hkn)⟩
                obtain ⟨g8, o8, e8, _, _, d8⟩ := (HL7.out.below HBZ.out).get hy
                have q8 := getZ d8
                rw [Nat.mul_one] at q8
                have q9 := HV5.out wz (HB57.out.trans (HBZ.out.mono HB57.out.size))
                have HTK : Hid (decide (x ∈ R.take (k + 1)) = (decide (x ∈ R.take k) || decide (y = x))) := Hid.mk (by
                  rw [take_snoc hy]
                  by_cases h1 : x ∈ R.take k
                  · simp [h1]
                  · by_cases h2 : y = x
                    · simp [h2]
                    · simp [h1, h2]
                      exact fun h => h2 h.symm)
                clear hy d8
                subst e8
                cases hf : decide (x ∈ R.take k) with
                | true =>
                  rw [hf] at HTK
                  clear hf
                  go_wp2_with fail
                  go_quiet (fail)
                  go_wp2
                  go_roundw
                  case rel => exact ⟨k + 1, by omega, by go_num, by rw [HTK.out]; rfl, below_drewN HBZ.out _⟩
                  case measure => simp [intOf]; omega
                | false =>
                  rw [hf] at HTK
                  clear hf
                  by_cases hyx : y = x
                  · subst hyx
                    go_wp2_with fail
                    go_quiet (fail)
                    go_wp2
                    go_roundw
                    case rel => exact ⟨k + 1, by omega, by go_num, by rw [HTK.out]; simp, below_drewN HBZ.out _⟩
                    case measure => simp [intOf]; omega
                  · obtain ⟨f1, f2⟩ := not_both hyx
                    have f3 : decide (y = x) = false := decide_eq_false hyx
                    go_wp2_with fail
                    go_quiet (fail)
                    go_wp2
                    go_roundw
                    case rel => exact ⟨k + 1, by omega, by go_num, by rw [HTK.out]; simp [f1], below_drewN HBZ.out _⟩
                    case measure => simp [intOf]; omega
              · have hknI : ¬ (k : Int) < (nr : Int) := by omega
                have HTT2 : Hid (decide (x ∈ R.take k) = true) := Hid.mk (by
                  rw [List.take_of_length_le (by rw [← HNR.out]; omega)]
                  exact decide_eq_true HXR.out)
                rw [HTT2.out]
                have HA := Hid.mk (HAW.out wz (HB7.out.trans (HBZ.out.mono HB7.out.size)))
                have hrest : (nr : Int) = d1 := HRS.out
                go_wp2_with fail
                refine HA.out.mono ?_
                rintro e w8 ⟨rfl, hb8⟩
                have HB8 := Hid.mk hb8
                clear hb8
                go_wp2
                go_ret
                exact ⟨rfl, HB8.out⟩
          · rw [← hWB]
            have HCX := HCB
            have HBXX := HBB
            have HX5 := HB5'
            clear HCA HCB HBA HBB HA5 HB5' hWA hWB qa1 qa2
            go_wp2_with fail
            refine HCX.out.mono ?_
            rintro e w7 ⟨hb7, la, lc, rfl, hl7⟩
            have HB7 : Hid (Below W0.heap.size W0 w7) := Hid.mk (HBXX.out.trans (hb7.mono HBXX.out.size))
            have HB57 : Hid (Below w5.heap.size w5 w7) := Hid.mk (HX5.out.trans (hb7.mono HX5.out.size))
            have HL7 := Hid.mk hl7
            clear hb7 hl7
            go_wp2_with fail
            go_loopw [20, 21] (fun f c wr => ∃ k : Nat, k ≤ nr ∧ c = .int .i64 k ∧ f = .bool (decide (x ∈ R.take k)) ∧ Below w7.heap.size w7 wr) (fun _ c _ => nr - (intOf c).toNat)
            case atStart => exact ⟨0, Nat.zero_le _, rfl, by simp, Below.refl _ _⟩
            case round =>
              obtain ⟨k, hk, rfl, rfl, hbz⟩ := hrel
              obtain ⟨wz, hwz⟩ : ∃ wz, wz = wr := ⟨_, rfl⟩
              subst hwz
              have HBZ := Hid.mk hbz
              clear hbz
              by_cases hkn : k < nr
              · have hknI : (k : Int) < (nr : Int) := by omega
                obtain ⟨y, hy⟩ : ∃ y, R[k]? = some y := ⟨_, List.getElem?_eq_getElem (by rw [← HNR.out]; exact hkn)⟩
                obtain ⟨g8, o8, e8, _, _, d8⟩ := (HL7.out.below HBZ.out).get hy
                have q8 := getZ d8
                rw [Nat.mul_one] at q8
                have q9 := HV5.out wz (HB57.out.trans (HBZ.out.mono HB57.out.size))
                have HTK : Hid (decide (x ∈ R.take (k + 1)) = (decide (x ∈ R.take k) || decide (y = x))) := Hid.mk (by
                  rw [take_snoc hy]
                  by_cases h1 : x ∈ R.take k
                  · simp [h1]
                  · by_cases h2 : y = x
                    · simp [h2]
                    · simp [h1, h2]
                      exact fun h => h2 h.symm)
                clear hy d8
                subst e8
                cases hf : decide (x ∈ R.take k) with
                | true =>
                  rw [hf] at HTK
                  clear hf
                  go_wp2_with fail
                  go_quiet (fail)
                  go_wp2
                  go_roundw
                  case rel => exact ⟨k + 1, by omega, by go_num, by rw [HTK.out]; rfl, below_drewN HBZ.out _⟩
                  case measure => simp [intOf]; omega
                | false =>
                  rw [hf] at HTK
                  clear hf
                  by_cases hyx : y = x
                  · subst hyx
                    go_wp2_with fail
                    go_quiet (fail)
                    go_wp2
                    go_roundw
                    case rel => exact ⟨k + 1, by omega, by go_num, by rw [HTK.out]; simp, below_drewN HBZ.out _⟩
                    case measure => simp [intOf]; omega
                  · obtain ⟨f1, f2⟩ := not_both hyx
                    have f3 : decide (y = x) = false := decide_eq_false hyx
                    go_wp2_with fail
                    go_quiet (fail)
                    go_wp2
                    go_roundw
                    case rel => exact ⟨k + 1, by omega, by go_num, by rw [HTK.out]; simp [f1], below_drewN HBZ.out _⟩
                    case measure => simp [intOf]; omega
              · have hknI : ¬ (k : Int) < (nr : Int) := by omega
                have HTT2 : Hid (decide (x ∈ R.take k) = true) := Hid.mk (by
                  rw [List.take_of_length_le (by rw [← HNR.out]; omega)]
                  exact decide_eq_true HXR.out)
                rw [HTT2.out]
                have HA := Hid.mk (HAW.out wz (HB7.out.trans (HBZ.out.mono HB7.out.size)))
                have hrest : (nr : Int) = d1 := HRS.out
                go_wp2_with fail
                refine HA.out.mono ?_
                rintro e w8 ⟨rfl, hb8⟩
                have HB8 := Hid.mk hb8
                clear hb8
                go_wp2
                go_ret
                exact ⟨rfl, HB8.out⟩
        · have HRS : Hid ((nr : Int) = d2) := Hid.mk (HNE.out hab)
          obtain ⟨hab1, hab2⟩ : ¬ (ja : Int) = (jb : Int) ∧ ((ja : Int) == (jb : Int)) = false := not_both (by omega)
          have hab3 : ((ja : Int) != (jb : Int)) = true := by simp; omega
          clear hab
          clear HNE HEQ HTS
          go_wp2_with fail
          go_region_held3 (fun u => u.cell? ⟨x3, x4 + ja, none⟩ = some (.string ⟨s.toArray⟩) ∧ u.cell? ⟨x3, x4 + jb, none⟩ = some (.string ⟨t.toArray⟩))
            (first | with_reducible exact (HKD.out _ HBY.out.drew).2 | with_reducible exact (HKD.out _ (HI1.out _)).2 | with_reducible exact (HKD.out _ HBA.out).2 | with_reducible exact (HKD.out _ HBB.out).2 | (rw [← hWA]; exact (HKD.out _ HBA.out).2) | (rw [← hWB]; exact (HKD.out _ HBB.out).2))
            (fail)
          · rw [← hWA]
            have HCX := HCA
            have HBXX := HBA
            have HX5 := HA5
            clear HCA HCB HBA HBB HA5 HB5' hWA hWB qc1 qc2
            go_wp2_with fail
            refine HCX.out.mono ?_
            rintro e w7 ⟨hb7, la, lc, rfl, hl7⟩
            have HB7 : Hid (Below W0.heap.size W0 w7) := Hid.mk (HBXX.out.trans (hb7.mono HBXX.out.size))
            have HB57 : Hid (Below w5.heap.size w5 w7) := Hid.mk (HX5.out.trans (hb7.mono HX5.out.size))
            have HL7 := Hid.mk hl7
            clear hb7 hl7
            go_wp2_with fail
            go_loopw [20, 21] (fun f c wr => ∃ k : Nat, k ≤ nr ∧ c = .int .i64 k ∧ f = .bool (decide (x ∈ R.take k)) ∧ Below w7.heap.size w7 wr) (fun _ c _ => nr - (intOf c).toNat)
            case atStart => exact ⟨0, Nat.zero_le _, rfl, by simp, Below.refl _ _⟩
            case round =>
              obtain ⟨k, hk, rfl, rfl, hbz⟩ := hrel
              obtain ⟨wz, hwz⟩ : ∃ wz, wz = wr := ⟨_, rfl⟩
              subst hwz
              have HBZ := Hid.mk hbz
              clear hbz
              by_cases hkn : k < nr
              · have hknI : (k : Int) < (nr : Int) := by omega
                obtain ⟨y, hy⟩ : ∃ y, R[k]? = some y := ⟨_, List.getElem?_eq_getElem (by rw [← HNR.out]; exact hkn)⟩
                obtain ⟨g8, o8, e8, _, _, d8⟩ := (HL7.out.below HBZ.out).get hy
                have q8 := getZ d8
                rw [Nat.mul_one] at q8
                have q9 := HV5.out wz (HB57.out.trans (HBZ.out.mono HB57.out.size))
                have HTK : Hid (decide (x ∈ R.take (k + 1)) = (decide (x ∈ R.take k) || decide (y = x))) := Hid.mk (by
                  rw [take_snoc hy]
                  by_cases h1 : x ∈ R.take k
                  · simp [h1]
                  · by_cases h2 : y = x
                    · simp [h2]
                    · simp [h1, h2]
                      exact fun h => h2 h.symm)
                clear hy d8
                subst e8
                cases hf : decide (x ∈ R.take k) with
                | true =>
                  rw [hf] at HTK
                  clear hf
                  go_wp2_with fail
                  go_quiet (fail)
                  go_wp2
                  go_roundw
                  case rel => exact ⟨k + 1, by omega, by go_num, by rw [HTK.out]; rfl, below_drewN HBZ.out _⟩
                  case measure => simp [intOf]; omega
                | false =>
                  rw [hf] at HTK
                  clear hf
                  by_cases hyx : y = x
                  · subst hyx
                    go_wp2_with fail
                    go_quiet (fail)
                    go_wp2
                    go_roundw
                    case rel => exact ⟨k + 1, by omega, by go_num, by rw [HTK.out]; simp, below_drewN HBZ.out _⟩
                    case measure => simp [intOf]; omega
                  · obtain ⟨f1, f2⟩ := not_both hyx
                    have f3 : decide (y = x) = false := decide_eq_false hyx
                    go_wp2_with fail
                    go_quiet (fail)
                    go_wp2
                    go_roundw
                    case rel => exact ⟨k + 1, by omega, by go_num, by rw [HTK.out]; simp [f1], below_drewN HBZ.out _⟩
                    case measure => simp [intOf]; omega
              · have hknI : ¬ (k : Int) < (nr : Int) := by omega
                have HTT2 : Hid (decide (x ∈ R.take k) = true) := Hid.mk (by
                  rw [List.take_of_length_le (by rw [← HNR.out]; omega)]
                  exact decide_eq_true HXR.out)
                rw [HTT2.out]
                have HA := Hid.mk (HAW.out wz (HB7.out.trans (HBZ.out.mono HB7.out.size)))
                have hrest : (nr : Int) = d2 := HRS.out
                go_wp2_with fail
                refine HA.out.mono ?_
                rintro e w8 ⟨rfl, hb8⟩
                have HB8 := Hid.mk hb8
                clear hb8
                go_wp2
                go_ret
                exact ⟨rfl, HB8.out⟩
          · rw [← hWB]
            have HCX := HCB
            have HBXX := HBB
            have HX5 := HB5'
            clear HCA HCB HBA HBB HA5 HB5' hWA hWB qa1 qa2
            go_wp2_with fail
            refine HCX.out.mono ?_
            rintro e w7 ⟨hb7, la, lc, rfl, hl7⟩
            have HB7 : Hid (Below W0.heap.size W0 w7) := Hid.mk (HBXX.out.trans (hb7.mono HBXX.out.size))
            have HB57 : Hid (Below w5.heap.size w5 w7) := Hid.mk (HX5.out.trans (hb7.mono HX5.out.size))
            have HL7 := Hid.mk hl7
            clear hb7 hl7
            go_wp2_with fail
            go_loopw [20, 21] (fun f c wr => ∃ k : Nat, k ≤ nr ∧ c = .int .i64 k ∧ f = .bool (decide (x ∈ R.take k)) ∧ Below w7.heap.size w7 wr) (fun _ c _ => nr - (intOf c).toNat)
            case atStart => exact ⟨0, Nat.zero_le _, rfl, by simp, Below.refl _ _⟩
            case round =>
              obtain ⟨k, hk, rfl, rfl, hbz⟩ := hrel
              obtain ⟨wz, hwz⟩ : ∃ wz, wz = wr := ⟨_, rfl⟩
              subst hwz
              have HBZ := Hid.mk hbz
              clear hbz
              by_cases hkn : k < nr
              · have hknI : (k : Int) < (nr : Int) := by omega
                obtain ⟨y, hy⟩ : ∃ y, R[k]? = some y := ⟨_, List.getElem?_eq_getElem (by rw [← HNR.out]; exact hkn)⟩
                obtain ⟨g8, o8, e8, _, _, d8⟩ := (HL7.out.below HBZ.out).get hy
                have q8 := getZ d8
                rw [Nat.mul_one] at q8
                have q9 := HV5.out wz (HB57.out.trans (HBZ.out.mono HB57.out.size))
                have HTK : Hid (decide (x ∈ R.take (k + 1)) = (decide (x ∈ R.take k) || decide (y = x))) := Hid.mk (by
                  rw [take_snoc hy]
                  by_cases h1 : x ∈ R.take k
                  · simp [h1]
                  · by_cases h2 : y = x
                    · simp [h2]
                    · simp [h1, h2]
                      exact fun h => h2 h.symm)
                clear hy d8
                subst e8
                cases hf : decide (x ∈ R.take k) with
                | true =>
                  rw [hf] at HTK
                  clear hf
                  go_wp2_with fail
                  go_quiet (fail)
                  go_wp2
                  go_roundw
                  case rel => exact ⟨k + 1, by omega, by go_num, by rw [HTK.out]; rfl, below_drewN HBZ.out _⟩
                  case measure => simp [intOf]; omega
                | false =>
                  rw [hf] at HTK
                  clear hf
                  by_cases hyx : y = x
                  · subst hyx
                    go_wp2_with fail
                    go_quiet (fail)
                    go_wp2
                    go_roundw
                    case rel => exact ⟨k + 1, by omega, by go_num, by rw [HTK.out]; simp, below_drewN HBZ.out _⟩
                    case measure => simp [intOf]; omega
                  · obtain ⟨f1, f2⟩ := not_both hyx
                    have f3 : decide (y = x) = false := decide_eq_false hyx
                    go_wp2_with fail
                    go_quiet (fail)
                    go_wp2
                    go_roundw
                    case rel => exact ⟨k + 1, by omega, by go_num, by rw [HTK.out]; simp [f1], below_drewN HBZ.out _⟩
                    case measure => simp [intOf]; omega
              · have hknI : ¬ (k : Int) < (nr : Int) := by omega
                have HTT2 : Hid (decide (x ∈ R.take k) = true) := Hid.mk (by
                  rw [List.take_of_length_le (by rw [← HNR.out]; omega)]
                  exact decide_eq_true HXR.out)
                rw [HTT2.out]
                have HA := Hid.mk (HAW.out wz (HB7.out.trans (HBZ.out.mono HB7.out.size)))
                have hrest : (nr : Int) = d2 := HRS.out
                go_wp2_with fail
                refine HA.out.mono ?_
                rintro e w8 ⟨rfl, hb8⟩
                have HB8 := Hid.mk hb8
                clear hb8
                go_wp2
                go_ret
                exact ⟨rfl, HB8.out⟩
end Go.Proofs.Ytbknlmalfkpenaa
