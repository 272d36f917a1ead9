/- PathSteps. -/
import Derived.Test.YthdnpddfdlhlaaaBAwakeW
import Derived.Test.YthdnpddfdlhlaaaAAcc
import Derived.Deep.RegionHeld3
namespace Go.Proofs.Ythdnpddfdlhlaaa
open Go.RowKit

/-- An automaton as it comes in. -/
structure UPre (w : World) (m : Mu) : Prop where
  ws : TxtS (fun _ => True) w m.wv m.ws
  wb : ∀ s ∈ m.ws, s.length ≤ 9223372036854775807
  wl : m.ws.length ≤ 9223372036854775807
  fs : IntZ (fun _ => True) w m.fv m.fs
  fl : m.fs.length ≤ 9223372036854775807
  ls : IntZ (fun _ => True) w m.lv m.ls
  ll : m.ls.length ≤ 9223372036854775807
  os : SlS csW 1 (fun _ => True) w m.ov m.os
  ok : ∀ p ∈ m.os, IntZ (fun _ => True) w p.1 p.2 ∧ p.2.length ≤ 9223372036854775807
  ol : m.os.length ≤ 9223372036854775807
set_option maxRecDepth 100000 in
set_option maxHeartbeats 1000000 in
theorem sameInts_any {S T : Nat → Prop} {w : World} {v1 v2 : Value} {L1 L2 : List Int} (h1 : IntZ S w v1 L1) (h2 : IntZ T w v2 L2) (hl : L1.length ≤ 9223372036854775806) :
    Calls Try.prog 20 #[v1, v2] w fun e w' => e = .returned (.bool (decide (L1 = L2))) ∧ Below w.heap.size w w' := by
  obtain ⟨a1, c1, rfl⟩ := h1.slice
  obtain ⟨a2, c2, rfl⟩ := h2.slice
  have C := Hid.mk (rSameZ_any h1 h2 hl)
  obtain ⟨b, hb⟩ : ∃ b, b = decide (L1 = L2) := ⟨_, rfl⟩
  rw [← hb] at C ⊢
  clear h1 h2 hl hb
  go_enter Try.func20, Try.ntmps20
  go_wp2_with fail
  refine C.out.mono ?_
  rintro e w1 ⟨rfl, k, hw⟩
  have HB : Hid (Below w.heap.size w w1) := Hid.mk (by rw [hw]; exact below_drewN (Below.refl _ _) _)
  clear hw
  go_wp2
  go_ret
  exact ⟨rfl, HB.out⟩

set_option maxRecDepth 100000 in
set_option maxHeartbeats 8000000 in
theorem pathSteps_walk (m : Mu) (z : Int) (v : Value) (L : List Wd) (w : World) (h : UPre w m) (_ : (Lit.int .i64 z).wf = true) (hv : TxtS (fun _ => True) w v L) (hcap : L.length ≤ 9223372036854775807 ∧ CapS v L.length) :
    Calls Try.prog 4 #[encU m, .int .i64 z, v] w fun e w' => e = .returned (.bool true) ∧ Below w.heap.size w w' := by
  have hvl := hcap.1
  clear hcap
  obtain ⟨wa, wc, e1⟩ := h.ws.slice
  obtain ⟨fa, fc, e2⟩ := h.fs.slice
  obtain ⟨la, lc, e3⟩ := h.ls.slice
  obtain ⟨oa, oc, e4⟩ := h.os.slice
  obtain ⟨va, vc, rfl⟩ := hv.slice
  have HV := Hid.mk hv
  have HH := Hid.mk h
  have hwl := h.wl
  have hfl := h.fl
  have hll := h.ll
  have hol := h.ol
  have HU : Hid (m.ws.length ≤ 100 → m.fs.length ≤ 100 → m.ls.length ≤ 100 → m.os.length ≤ 100 → (∀ p ∈ m.os, p.2.length ≤ 100) → UOk (fun _ => True) w m) := Hid.mk (fun h1 h2 h3 h4 h5 => ⟨h.ws, h.wb, by omega, h.fs, by omega, h.ls, by omega, h.os, fun p hp => ⟨(h.ok p hp).1, by have := h5 p hp; omega⟩, by omega⟩)
  have HOS := Hid.mk h.os
  have HOK := Hid.mk h.ok
  obtain ⟨wv, ws, fv, fs, lv, ls, ov, os, em⟩ := m
  dsimp only at e1 e2 e3 e4 hwl hfl hll hol HU HOS HOK
  subst e1 e2 e3 e4
  clear h hv HH
  show Calls Try.prog _ #[.agg #[.slice wa ws.length wc, .slice fa fs.length fc, .slice la ls.length lc, .slice oa os.length oc, .bool em], _, _] w _
  obtain ⟨n, hn⟩ : ∃ n, n = L.length := ⟨_, rfl⟩
  rw [← hn] at HV hvl ⊢
  have HN := Hid.mk hn
  obtain ⟨nw, hnw⟩ : ∃ n, n = ws.length := ⟨_, rfl⟩
  obtain ⟨nf, hnf⟩ : ∃ n, n = fs.length := ⟨_, rfl⟩
  obtain ⟨nl, hnl⟩ : ∃ n, n = ls.length := ⟨_, rfl⟩
  obtain ⟨no, hno⟩ : ∃ n, n = os.length := ⟨_, rfl⟩
  rw [← hnw] at HU hwl ⊢
  rw [← hnf] at HU hfl ⊢
  rw [← hnl] at HU hll ⊢
  rw [← hno] at HU HOS hol ⊢
  have HNO := Hid.mk hno
  obtain ⟨o, ho⟩ : ∃ o, o = Obj.cells #[.slice wa nw wc, .slice fa nf fc, .slice la nl lc, .slice oa no oc, .bool em] 31 := ⟨_, rfl⟩
  have HOB := Hid.mk ho
  have HC : Hid (∀ wr, Below (w.alloc o).heap.size (w.alloc o) wr → wr.cell? ⟨w.heap.size, 0, none⟩ = some (.slice wa nw wc) ∧ wr.cell? ⟨w.heap.size, 1, none⟩ = some (.slice fa nf fc) ∧ wr.cell? ⟨w.heap.size, 2, none⟩ = some (.slice la nl lc) ∧ wr.cell? ⟨w.heap.size, 3, none⟩ = some (.slice oa no oc) ∧ wr.cell? ⟨w.heap.size, 4, none⟩ = some (.bool em)) := Hid.mk (fun wr hb => by
    have h := box_keptQ hb
    rw [HOB.out] at h
    exact cells5 h)
  have HB0 : Hid (Below (w.alloc o).heap.size (w.alloc o) (w.alloc (.cells #[.slice wa nw wc, .slice fa nf fc, .slice la nl lc, .slice oa no oc, .bool em] 31))) := Hid.mk (by rw [HOB.out]; exact Below.refl _ _)
  clear ho hn hnw hnf hnl hno
  by_cases hbig : 100 < nw ∨ 100 < nf ∨ 100 < nl ∨ 100 < no ∨ 60 < n
  · have HBIG : Hid (∀ {P : Prop}, (100 < nw → P) → (100 < nf → P) → (100 < nl → P) → (100 < no → P) → (60 < n → P) → P) := Hid.mk (fun a b c d e => by
      rcases hbig with h | h | h | h | h
      · exact a h
      · exact b h
      · exact c h
      · exact d h
      · exact e h)
    clear hbig
    go_enter Try.func4, Try.ntmps4
    by_cases t1 : (100 : Int) < (nw : Int)
    · go_wp2_with fail
      refine (awake_any _).mono ?_
      rintro e w2 ⟨rfl, hb2⟩
      have HB2 := Hid.mk (HB0.out.trans (hb2.mono HB0.out.size))
      clear hb2
      go_wp2
      go_ret
      exact ⟨rfl, below_boxQ HB2.out⟩
    · by_cases t2 : (100 : Int) < (nf : Int)
      · go_wp2_with fail
        refine (awake_any _).mono ?_
        rintro e w2 ⟨rfl, hb2⟩
        have HB2 := Hid.mk (HB0.out.trans (hb2.mono HB0.out.size))
        clear hb2
        go_wp2
        go_ret
        exact ⟨rfl, below_boxQ HB2.out⟩
      · by_cases t3 : (100 : Int) < (nl : Int)
        · go_wp2_with fail
          refine (awake_any _).mono ?_
          rintro e w2 ⟨rfl, hb2⟩
          have HB2 := Hid.mk (HB0.out.trans (hb2.mono HB0.out.size))
          clear hb2
          go_wp2
          go_ret
          exact ⟨rfl, below_boxQ HB2.out⟩
        · by_cases t4 : (100 : Int) < (no : Int)
          · go_wp2_with fail
            refine (awake_any _).mono ?_
            rintro e w2 ⟨rfl, hb2⟩
            have HB2 := Hid.mk (HB0.out.trans (hb2.mono HB0.out.size))
            clear hb2
            go_wp2
            go_ret
            exact ⟨rfl, below_boxQ HB2.out⟩
          · have t5 : (60 : Int) < (n : Int) := HBIG.out (fun h => absurd h (by omega)) (fun h => absurd h (by omega)) (fun h => absurd h (by omega)) (fun h => absurd h (by omega)) (fun h => by omega)
            go_wp2_with fail
            refine (awake_any _).mono ?_
            rintro e w2 ⟨rfl, hb2⟩
            have HB2 := Hid.mk (HB0.out.trans (hb2.mono HB0.out.size))
            clear hb2
            go_wp2
            go_ret
            exact ⟨rfl, below_boxQ HB2.out⟩
  · have t1 : ¬ (100 : Int) < (nw : Int) := by omega
    have t2 : ¬ (100 : Int) < (nf : Int) := by omega
    have t3 : ¬ (100 : Int) < (nl : Int) := by omega
    have t4 : ¬ (100 : Int) < (no : Int) := by omega
    have t5 : ¬ (60 : Int) < (n : Int) := by omega
    have HU2 : Hid ((∀ p ∈ os, p.2.length ≤ 100) → UOk (fun _ => True) w ⟨.slice wa nw wc, ws, .slice fa nf fc, fs, .slice la nl lc, ls, .slice oa no oc, os, em⟩) := Hid.mk (fun h5 => HU.out (by omega) (by omega) (by omega) (by omega) h5)
    have hn60 : n ≤ 60 := by omega
    clear hbig HU
    go_enter Try.func4, Try.ntmps4
    go_wp2_with fail
    go_loopw [7] (fun c wr => ∃ i : Nat, i ≤ no ∧ c = .int .i64 i ∧ (∀ p ∈ os.take i, p.2.length ≤ 100) ∧ Below (w.alloc o).heap.size (w.alloc o) wr) (fun c _ => no - (intOf c).toNat)
    case atStart => exact ⟨0, Nat.zero_le _, rfl, by simp, HB0.out⟩
    case round =>
      obtain ⟨i, hi, rfl, hall, hbq⟩ := hrel
      have HBQ := Hid.mk hbq
      have HAll := Hid.mk hall
      obtain ⟨c0, c1, c2, c3, c4⟩ := HC.out _ hbq
      clear hbq hall
      by_cases hlt : i < no
      · have hltI : (i : Int) < (no : Int) := by omega
        obtain ⟨p, hp⟩ : ∃ p, os[i]? = some p := ⟨_, List.getElem?_eq_getElem (by rw [← HNO.out]; exact hlt)⟩
        obtain ⟨g2, off2, rfl, _, _, hcell2⟩ := (HOS.out.below (below_boxQ HBQ.out)).get hp
        have q1 := getW hcell2
        rw [Nat.mul_one] at q1
        have hpm := List.mem_of_getElem? hp
        obtain ⟨hpz, hpl⟩ := HOK.out _ hpm
        obtain ⟨pa, pc, hpv⟩ := hpz.slice
        rw [hpv] at q1
        have HPP := Hid.mk hp
        obtain ⟨np, hnp⟩ : ∃ n, n = p.2.length := ⟨_, rfl⟩
        rw [← hnp] at q1 hpl
        have HNP := Hid.mk hnp
        clear hp hcell2 hpz hpv hpm hnp
        by_cases hbg : (100 : Int) < (np : Int)
        · go_wp2_with fail
          refine (awake_any _).mono ?_
          rintro e w2 ⟨rfl, hb2⟩
          have HB2 := Hid.mk (HBQ.out.trans (hb2.mono HBQ.out.size))
          clear hb2
          go_wp2
          go_ret
          exact ⟨rfl, below_boxQ HB2.out⟩
        · have HA2 : Hid (∀ q ∈ os.take (i + 1), q.2.length ≤ 100) := Hid.mk (fun q hq => by
            rw [List.take_add_one, HPP.out] at hq
            rcases List.mem_append.1 hq with hq | hq
            · exact HAll.out q hq
            · simp at hq; subst hq; have := HNP.out; omega)
          go_wp2
          go_roundw
          case rel => exact ⟨i + 1, by omega, by go_num, HA2.out, HBQ.out⟩
          case measure => simp [intOf]; omega
      · have hltI : ¬ (i : Int) < (no : Int) := by omega
        have HM := Hid.mk (HU2.out (fun p hp => HAll.out p (by rw [List.take_of_length_le (by rw [← HNO.out]; omega)]; exact hp)))
        obtain ⟨A, hA⟩ : ∃ A, A = Mu.au ⟨.slice wa nw wc, ws, .slice fa nf fc, fs, .slice la nl lc, ls, .slice oa no oc, os, em⟩ := ⟨_, rfl⟩
        obtain ⟨ma, hma⟩ : ∃ b, b = mayA A := ⟨_, rfl⟩
        obtain ⟨ac, hac⟩ : ∃ b, b = accB A L := ⟨_, rfl⟩
        obtain ⟨en, hen⟩ : ∃ b, b = endsA A z := ⟨_, rfl⟩
        have hV2 : ∀ u, Below w.heap.size w u → TxtS (fun _ => True) u (.slice va n vc) L := fun u hu => HV.out.below hu
        have C1 : Hid (∀ u, Below w.heap.size w u → Calls Try.prog 14 #[.agg #[.slice wa nw wc, .slice fa nf fc, .slice la nl lc, .slice oa no oc, .bool em]] u fun e w' => e = .returned (.int .i64 (if ma = true then 0 else 1)) ∧ Below u.heap.size u w') := Hid.mk (fun u hu => by rw [hma, hA]; exact checkA_any (HM.out.below hu))
        have C2 : Hid (∀ u, Below w.heap.size w u → Calls Try.prog 15 #[.agg #[.slice wa nw wc, .slice fa nf fc, .slice la nl lc, .slice oa no oc, .bool em]] u fun e w' => e = .returned (.bool ma) ∧ Below u.heap.size u w') := Hid.mk (fun u hu => by rw [hma, hA]; exact rMay_any (HM.out.below hu))
        have C3 : Hid (∀ u, Below w.heap.size w u → Calls Try.prog 16 #[.agg #[.slice wa nw wc, .slice fa nf fc, .slice la nl lc, .slice oa no oc, .bool em], .slice va n vc] u fun e w' => e = .returned (.bool ac) ∧ Below u.heap.size u w') := Hid.mk (fun u hu => by rw [hac, hA]; exact acc_any (HM.out.below hu) (hV2 u hu) (by rw [← HN.out]; omega))
        have C4 : Hid (∀ u, Below w.heap.size w u → Calls Try.prog 17 #[.agg #[.slice wa nw wc, .slice fa nf fc, .slice la nl lc, .slice oa no oc, .bool em], .slice va n vc] u fun e w' => e = .returned (.bool ac) ∧ Below u.heap.size u w') := Hid.mk (fun u hu => by rw [hac, hA]; exact rAcc_any (HM.out.below hu) (hV2 u hu) (by rw [← HN.out]; omega))
        have C5 : Hid (∀ u, Below w.heap.size w u → Calls Try.prog 18 #[.agg #[.slice wa nw wc, .slice fa nf fc, .slice la nl lc, .slice oa no oc, .bool em], .int .i64 z] u fun e w' => e = .returned (.bool en) ∧ Below u.heap.size u w') := Hid.mk (fun u hu => by rw [hen, hA]; exact ends_any (HM.out.below hu) z)
        have C6 : Hid (∀ u, Below w.heap.size w u → Calls Try.prog 19 #[.agg #[.slice wa nw wc, .slice fa nf fc, .slice la nl lc, .slice oa no oc, .bool em], .int .i64 z] u fun e w' => e = .returned (.bool en) ∧ Below u.heap.size u w') := Hid.mk (fun u hu => by rw [hen, hA]; exact rEnds_any (HM.out.below hu) z)
        have C7 : Hid (∀ (x : Wd) u, Below w.heap.size w u → Calls Try.prog 21 #[.agg #[.slice wa nw wc, .slice fa nf fc, .slice la nl lc, .slice oa no oc, .bool em], .int .i64 z, .string ⟨x.toArray⟩] u fun e w' => ∃ v', e = .returned v' ∧ w'.ownsRow u.heap.size 3 1 v' (nextA A z x).length ((nextA A z x).flatMap csZ) ∧ Below u.heap.size u w') := Hid.mk (fun x u hu => by rw [hA]; exact next_any (HM.out.below hu) z x)
        have C8 : Hid (∀ (x : Wd) u, Below w.heap.size w u → Calls Try.prog 22 #[.agg #[.slice wa nw wc, .slice fa nf fc, .slice la nl lc, .slice oa no oc, .bool em], .int .i64 z, .string ⟨x.toArray⟩] u fun e w' => ∃ v', e = .returned v' ∧ w'.ownsRow u.heap.size 3 1 v' (nextA A z x).length ((nextA A z x).flatMap csZ) ∧ Below u.heap.size u w') := Hid.mk (fun x u hu => by rw [hA]; exact rNext_any (HM.out.below hu) z x)
        have HNL : Hid (∀ x, (nextA A z x).length ≤ 1000) := Hid.mk (fun x => by
          have h1 := next_len A z x
          have h2 : A.words.length = ws.length := by rw [hA]; rfl
          have h3 := HM.out.wl
          have h4 := HM.out.ws.slice
          obtain ⟨_, _, h4⟩ := h4
          injection h4 with _ h5 _
          simp only at h5
          omega)
        have HD : Hid (Below (w.alloc o).heap.size (w.alloc o) wr.drew) := Hid.mk HBQ.out.drew
        clear hA hma hac hen
        have hac : (ac != ac) = false := by simp
        have hen : (en != en) = false := by simp
        cases ma
        all_goals (
          go_wp2_with fail
          go_region_held3 (fun u => u.cell? ⟨w.heap.size, 0, none⟩ = some (.slice wa nw wc) ∧ u.cell? ⟨w.heap.size, 1, none⟩ = some (.slice fa nf fc) ∧ u.cell? ⟨w.heap.size, 2, none⟩ = some (.slice la nl lc) ∧ u.cell? ⟨w.heap.size, 3, none⟩ = some (.slice oa no oc) ∧ u.cell? ⟨w.heap.size, 4, none⟩ = some (.bool em))
            (first | with_reducible exact HC.out _ HD.out | with_reducible exact HC.out _ h6 | with_reducible exact HC.out _ h5 | with_reducible exact HC.out _ h4 | with_reducible exact HC.out _ h3 | with_reducible exact HC.out _ h2 | with_reducible exact HC.out _ h1)
            (first
              | (go_at_call 14; refine (C1.out _ (below_boxQ HD.out)).mono ?_; rintro e w1 ⟨rfl, hb1⟩; have h1 := HD.out.trans (hb1.mono HD.out.size))
              | (go_at_call 15; refine (C2.out _ (below_boxQ h1)).mono ?_; rintro e w2 ⟨rfl, hb2⟩; have h2 := h1.trans (hb2.mono h1.size))
              | (go_at_call 16; refine (C3.out _ (below_boxQ h2)).mono ?_; rintro e w3 ⟨rfl, hb3⟩; have h3 := h2.trans (hb3.mono h2.size))
              | (go_at_call 17; refine (C4.out _ (below_boxQ h3)).mono ?_; rintro e w4 ⟨rfl, hb4⟩; have h4 := h3.trans (hb4.mono h3.size))
              | (go_at_call 18; refine (C5.out _ (below_boxQ h4)).mono ?_; rintro e w5 ⟨rfl, hb5⟩; have h5 := h4.trans (hb5.mono h4.size))
              | (go_at_call 19; refine (C6.out _ (below_boxQ h5)).mono ?_; rintro e w6 ⟨rfl, hb6⟩; have h6 := h5.trans (hb6.mono h5.size)))
          have H6 := Hid.mk h6
          clear h1 h2 h3 h4 h5 h6 hb1 hb2 hb3 hb4 hb5 hb6 c0 c1 c2 c3 c4
          go_wp2_with fail
          go_loopw [8] (fun c wr => ∃ i : Nat, i ≤ n ∧ c = .int .i64 i ∧ Below (w.alloc o).heap.size (w.alloc o) wr) (fun c _ => n - (intOf c).toNat)
          case atStart => exact ⟨0, Nat.zero_le _, rfl, H6.out⟩
          case round =>
            obtain ⟨j, hj, rfl, hbr⟩ := hrel
            have HBR := Hid.mk hbr
            clear hbr
            by_cases hjl : j < n
            · have hjlI : (j : Int) < (n : Int) := by omega
              obtain ⟨x, hx⟩ : ∃ x, L[j]? = some x := ⟨_, List.getElem?_eq_getElem (by rw [← HN.out]; exact hjl)⟩
              obtain ⟨g1, o1, rfl, _, _, hcell1⟩ := HV.out.get hx
              have KX : Hid (∀ u, Below (w.alloc o).heap.size (w.alloc o) u → (u.cell? ⟨w.heap.size, 0, none⟩ = some (.slice wa nw wc) ∧ u.cell? ⟨w.heap.size, 1, none⟩ = some (.slice fa nf fc) ∧ u.cell? ⟨w.heap.size, 2, none⟩ = some (.slice la nl lc) ∧ u.cell? ⟨w.heap.size, 3, none⟩ = some (.slice oa no oc) ∧ u.cell? ⟨w.heap.size, 4, none⟩ = some (.bool em)) ∧ u.cell? ⟨g1, o1 + j, none⟩ = some (.string ⟨x.toArray⟩)) := Hid.mk (fun u hu => by
                refine ⟨HC.out u hu, ?_⟩
                obtain ⟨g2, o2, e2, _, _, hc2⟩ := (HV.out.below (below_boxQ hu)).get hx
                injection e2 with e2
                injection e2 with e2 e3
                subst e2 e3
                have q := getTx hc2
                rw [Nat.mul_one] at q
                exact q)
              have D1 := Hid.mk (C7.out x)
              have D2 := Hid.mk (C8.out x)
              have hnx := HNL.out x
              obtain ⟨R, hR⟩ : ∃ R, R = nextA A z x := ⟨_, rfl⟩
              rw [← hR] at D1 D2 hnx
              have HDR : Hid (Below (w.alloc o).heap.size (w.alloc o) wr.drew) := Hid.mk HBR.out.drew
              clear hx hcell1 hR
              go_wp2_with fail
              go_region_held3 (fun u => (u.cell? ⟨w.heap.size, 0, none⟩ = some (.slice wa nw wc) ∧ u.cell? ⟨w.heap.size, 1, none⟩ = some (.slice fa nf fc) ∧ u.cell? ⟨w.heap.size, 2, none⟩ = some (.slice la nl lc) ∧ u.cell? ⟨w.heap.size, 3, none⟩ = some (.slice oa no oc) ∧ u.cell? ⟨w.heap.size, 4, none⟩ = some (.bool em)) ∧ u.cell? ⟨g1, o1 + j, none⟩ = some (.string ⟨x.toArray⟩))
                (first | with_reducible exact KX.out _ HDR.out | with_reducible exact KX.out _ k3 | with_reducible exact KX.out _ k2 | with_reducible exact KX.out _ k1)
                (first
                  | (go_at_call 21; refine (D1.out _ (below_boxQ HDR.out)).mono ?_; rintro e w1 ⟨v1, rfl, ho1, hb1⟩; have k1 := HDR.out.trans (hb1.mono HDR.out.size); obtain ⟨x1, y1, hv1⟩ := own_slice ho1; subst hv1)
                  | (go_at_call 22; refine (D2.out _ (below_boxQ k1)).mono ?_; rintro e w2 ⟨v2, rfl, ho2, hb2⟩; have k2 := k1.trans (hb2.mono k1.size); obtain ⟨x2, y2, hv2⟩ := own_slice ho2; subst hv2)
                  | (go_at_call 20; refine (sameInts_any ((own_sl csZ_len ho1 rfl).below hb2) (own_sl csZ_len ho2 rfl) (by omega)).mono ?_; rintro e w3 ⟨rfl, hb3⟩; rw [decide_eq_true rfl]; have k3 := k2.trans (hb3.mono k2.size)))
              have K3 := Hid.mk k3
              clear k1 k2 k3 hb1 hb2 hb3 ho1 ho2
              go_wp2
              go_roundw
              case rel => exact ⟨j + 1, by omega, by go_num, K3.out⟩
              case measure => simp [intOf]; omega
            · have hjlI : ¬ (j : Int) < (n : Int) := by omega
              go_wp2_with fail
              refine (awake_any _).mono ?_
              rintro e w7 ⟨rfl, hb7⟩
              have HB7 := Hid.mk (HBR.out.trans (hb7.mono HBR.out.size))
              clear hb7
              go_wp2
              go_ret
              exact ⟨rfl, below_boxQ HB7.out⟩)
end Go.Proofs.Ythdnpddfdlhlaaa
