/- none of the statements; PathNone. -/
import Derived.Test.YthdnpddfdlhlaabBAwakeW
import Derived.Test.YthdnpddfdlhlaabBFlat
import Derived.Test.YthdnpddfdlhlaabQShaped
import Derived.Test.YthdnpddfdlhlaabQOpen
import Derived.Deep.RegionHeld3
namespace Go.Proofs.Ythdnpddfdlhlaab
open Go.RowKit

set_option maxRecDepth 100000 in
set_option maxHeartbeats 4000000 in
theorem none_any {S : Nat → Prop} : ∀ (t : Vt) (w : World), VOk S w t →
    Calls Try.prog 10 #[encN t] w fun e w' => e = .returned (.bool (noneB t.pt)) ∧ Below w.heap.size w w' := by
  refine Vt.ind (fun k wd v l ih => ?_)
  intro w hok
  obtain ⟨h1, h2, h3, h4⟩ := vok_mk.1 hok
  obtain ⟨ao, cap, hv⟩ := h1.slice
  subst hv
  have H1 := Hid.mk h1
  have H4 := Hid.mk h4
  have IH := Hid.mk ih
  rw [Vt.pt_mk, noneB_mk]
  obtain ⟨n, hn⟩ : ∃ n, n = l.length := ⟨_, rfl⟩
  rw [← hn] at h3 H1 ⊢
  have HN := Hid.mk hn
  obtain ⟨R, hR⟩ : ∃ R : Bool, R = if k = 1 then false else if k = 4 ∨ k = 6 then true else if k = 3 then (l.map Vt.pt).any noneB else (l.map Vt.pt).all noneB := ⟨_, rfl⟩
  rw [← hR]
  have HR := Hid.mk hR
  obtain ⟨o, ho⟩ : ∃ o, o = Obj.cells #[.int .i64 k, .string ⟨wd.toArray⟩, .slice ao n cap] 24 := ⟨_, rfl⟩
  have HO := Hid.mk ho
  have HC : Hid (∀ wr, Below (w.alloc o).heap.size (w.alloc o) wr → wr.cell? ⟨w.heap.size, 2, none⟩ = some (.slice ao n cap)) := Hid.mk (fun wr hb => by
    have h := box_keptQ hb
    rw [HO.out] at h
    simp [World.cell?, h])
  have HB0 : Hid (Below (w.alloc o).heap.size (w.alloc o) (w.alloc (.cells #[.int .i64 k, .string ⟨wd.toArray⟩, .slice ao n cap] 24))) := Hid.mk (by rw [HO.out]; exact Below.refl _ _)
  clear h1 h4 ih hok hn ho hR
  by_cases k1 : k = 1
  · have HX : Hid (R = false) := Hid.mk (by rw [HR.out, if_pos k1])
    subst k1
    go_enter Try.func10, Try.ntmps10
    go_wp2
    go_ret
    exact ⟨by rw [HX.out]; rfl, below_boxQ HB0.out⟩
  · obtain ⟨a1, a2⟩ := not_both k1
    by_cases k4 : k = 4
    · have HX : Hid (R = true) := Hid.mk (by rw [HR.out, if_neg k1, if_pos (.inl k4)])
      subst k4
      go_enter Try.func10, Try.ntmps10
      go_wp2
      go_ret
      exact ⟨by rw [HX.out]; rfl, below_boxQ HB0.out⟩
    · obtain ⟨a3, a4⟩ := not_both k4
      by_cases k6 : k = 6
      · have HX : Hid (R = true) := Hid.mk (by rw [HR.out, if_neg k1, if_pos (.inr k6)])
        subst k6
        go_enter Try.func10, Try.ntmps10
        go_wp2
        go_ret
        exact ⟨by rw [HX.out]; rfl, below_boxQ HB0.out⟩
      · obtain ⟨a5, a6⟩ := not_both k6
        by_cases k3 : k = 3
        · have HX : Hid (R = (l.map Vt.pt).any noneB) := Hid.mk (by rw [HR.out, if_neg k1, if_neg (by rintro (h | h) <;> contradiction), if_pos k3])
          subst k3
          clear a1 a2 a3 a4 a5 a6 k1 k4 k6
          go_enter Try.func10, Try.ntmps10
          go_wp2_with fail
          go_loopw [3] (fun c wr => ∃ i : Nat, i ≤ n ∧ c = .int .i64 i ∧ (∀ x ∈ l.take i, noneB x.pt = false) ∧ Below (w.alloc o).heap.size (w.alloc o) wr) (fun c _ => n - (intOf c).toNat)
          case atStart => exact ⟨0, Nat.zero_le _, rfl, by simp, HB0.out⟩
          case round =>
            obtain ⟨i, hi, rfl, hall, hbq⟩ := hrel
            have HBQ := Hid.mk hbq
            have HAll := Hid.mk hall
            have c2 := HC.out _ hbq
            clear hbq hall
            by_cases hlt : i < n
            · have hltI : (i : Int) < (n : Int) := by omega
              obtain ⟨x, hx⟩ : ∃ x, l[i]? = some x := ⟨_, List.getElem?_eq_getElem (by rw [← HN.out]; exact hlt)⟩
              obtain ⟨g, off, rfl, _, _, hcell⟩ := (H1.out.below (below_boxQ HBQ.out)).get hx
              obtain ⟨q0, q1, q2⟩ := getN hcell
              have hxm := List.mem_of_getElem? hx
              have C := Hid.mk (IH.out x hxm wr ((H4.out x hxm).below (below_boxQ HBQ.out)))
              obtain ⟨xa, xc, hxv⟩ := (H4.out x hxm).parts.1.slice
              have HXX := Hid.mk hx
              obtain ⟨b, hb⟩ : ∃ b, b = noneB x.pt := ⟨_, rfl⟩
              rw [← hb] at C
              have HBB := Hid.mk hb
              have HXM := Hid.mk hxm
              obtain ⟨xk, xw, xv, xl⟩ := x
              dsimp only at q0 q1 q2 hxv
              subst hxv
              obtain ⟨xn, hxn⟩ : ∃ n, n = xl.length := ⟨_, rfl⟩
              rw [← hxn] at q2 C
              clear hxn hx hcell hxm hb
              cases b with
              | true =>
                have HT : Hid (R = true) := Hid.mk (by rw [HX.out, List.any_eq_true]; exact ⟨_, List.mem_map_of_mem HXM.out, HBB.out.symm⟩)
                go_wp2_with fail
                refine C.out.mono ?_
                rintro e w2 ⟨rfl, hb2⟩
                have HB2 := Hid.mk (HBQ.out.trans (hb2.mono HBQ.out.size))
                clear hb2
                go_wp2
                go_ret
                exact ⟨by rw [HT.out]; rfl, below_boxQ HB2.out⟩
              | false =>
                have HA2 : Hid (∀ y ∈ l.take (i + 1), noneB y.pt = false) := Hid.mk (fun y hy => by
                  rw [List.take_add_one, HXX.out] at hy
                  rcases List.mem_append.1 hy with hy | hy
                  · exact HAll.out y hy
                  · simp at hy; subst hy; exact HBB.out.symm)
                go_wp2_with fail
                refine C.out.mono ?_
                rintro e w2 ⟨rfl, hb2⟩
                have HB2 := Hid.mk (HBQ.out.trans (hb2.mono HBQ.out.size))
                clear hb2
                go_wp2
                go_roundw
                case rel => exact ⟨i + 1, by omega, by go_num, HA2.out, HB2.out⟩
                case measure => simp [intOf]; omega
            · have hltI : ¬ (i : Int) < (n : Int) := by omega
              have HT : Hid (R = false) := Hid.mk (by
                rw [HX.out, List.any_eq_false]
                intro y hy
                obtain ⟨x, hx, rfl⟩ := List.mem_map.1 hy
                rw [HAll.out x (by rw [List.take_of_length_le (by rw [← HN.out]; omega)]; exact hx)]
                decide)
              go_wp2
              go_ret
              exact ⟨by rw [HT.out]; rfl, below_boxQ HBQ.out⟩
        · obtain ⟨a7, a8⟩ := not_both k3
          have HX : Hid (R = (l.map Vt.pt).all noneB) := Hid.mk (by rw [HR.out, if_neg k1, if_neg (by rintro (h | h) <;> contradiction), if_neg k3])
          clear k1 k3 k4 k6
          go_enter Try.func10, Try.ntmps10
          go_wp2_with fail
          go_loopw [4] (fun c wr => ∃ i : Nat, i ≤ n ∧ c = .int .i64 i ∧ (∀ x ∈ l.take i, noneB x.pt = true) ∧ Below (w.alloc o).heap.size (w.alloc o) wr) (fun c _ => n - (intOf c).toNat)
          case atStart => exact ⟨0, Nat.zero_le _, rfl, by simp, HB0.out⟩
          case round =>
            obtain ⟨i, hi, rfl, hall, hbq⟩ := hrel
            have HBQ := Hid.mk hbq
            have HAll := Hid.mk hall
            have c2 := HC.out _ hbq
            clear hbq hall
            by_cases hlt : i < n
            · have hltI : (i : Int) < (n : Int) := by omega
              obtain ⟨x, hx⟩ : ∃ x, l[i]? = some x := ⟨_, List.getElem?_eq_getElem (by rw [← HN.out]; exact hlt)⟩
              obtain ⟨g, off, rfl, _, _, hcell⟩ := (H1.out.below (below_boxQ HBQ.out)).get hx
              obtain ⟨q0, q1, q2⟩ := getN hcell
              have hxm := List.mem_of_getElem? hx
              have C := Hid.mk (IH.out x hxm wr ((H4.out x hxm).below (below_boxQ HBQ.out)))
              obtain ⟨xa, xc, hxv⟩ := (H4.out x hxm).parts.1.slice
              have HXX := Hid.mk hx
              obtain ⟨b, hb⟩ : ∃ b, b = noneB x.pt := ⟨_, rfl⟩
              rw [← hb] at C
              have HBB := Hid.mk hb
              have HXM := Hid.mk hxm
              obtain ⟨xk, xw, xv, xl⟩ := x
              dsimp only at q0 q1 q2 hxv
              subst hxv
              obtain ⟨xn, hxn⟩ : ∃ n, n = xl.length := ⟨_, rfl⟩
              rw [← hxn] at q2 C
              clear hxn hx hcell hxm hb
              cases b with
              | false =>
                have HT : Hid (R = false) := Hid.mk (by rw [HX.out, List.all_eq_false]; exact ⟨_, List.mem_map_of_mem HXM.out, by rw [← HBB.out]; decide⟩)
                go_wp2_with fail
                refine C.out.mono ?_
                rintro e w2 ⟨rfl, hb2⟩
                have HB2 := Hid.mk (HBQ.out.trans (hb2.mono HBQ.out.size))
                clear hb2
                go_wp2
                go_ret
                exact ⟨by rw [HT.out]; rfl, below_boxQ HB2.out⟩
              | true =>
                have HA2 : Hid (∀ y ∈ l.take (i + 1), noneB y.pt = true) := Hid.mk (fun y hy => by
                  rw [List.take_add_one, HXX.out] at hy
                  rcases List.mem_append.1 hy with hy | hy
                  · exact HAll.out y hy
                  · simp at hy; subst hy; exact HBB.out.symm)
                go_wp2_with fail
                refine C.out.mono ?_
                rintro e w2 ⟨rfl, hb2⟩
                have HB2 := Hid.mk (HBQ.out.trans (hb2.mono HBQ.out.size))
                clear hb2
                go_wp2
                go_roundw
                case rel => exact ⟨i + 1, by omega, by go_num, HA2.out, HB2.out⟩
                case measure => simp [intOf]; omega
            · have hltI : ¬ (i : Int) < (n : Int) := by omega
              have HT : Hid (R = true) := Hid.mk (by
                rw [HX.out, List.all_eq_true]
                intro y hy
                obtain ⟨x, hx, rfl⟩ := List.mem_map.1 hy
                exact HAll.out x (by rw [List.take_of_length_le (by rw [← HN.out]; omega)]; exact hx))
              go_wp2
              go_ret
              exact ⟨by rw [HT.out]; rfl, below_boxQ HBQ.out⟩

set_option maxRecDepth 100000 in
set_option maxHeartbeats 4000000 in
theorem pathNone_walk (t : Vt) (w : World) (h : VOk (fun _ => True) w t) :
    Calls Try.prog 3 #[encN t] w fun e w' => e = .returned (.bool true) ∧ Below w.heap.size w w' := by
  obtain ⟨ao, cap, hv⟩ := h.parts.1.slice
  have hkl := h.parts.2.2.1
  obtain ⟨P, hP⟩ : ∃ P, P = t.pt := ⟨_, rfl⟩
  obtain ⟨b, hb⟩ : ∃ b, b = mayP P := ⟨_, rfl⟩
  have CF := Hid.mk (fun u (hu : Below w.heap.size w u) => flat_any (h.below hu))
  have CM : Hid (∀ u, Below w.heap.size w u → Calls Try.prog 5 #[encN t] u fun e w' => e = .returned (.bool b) ∧ Below u.heap.size u w') := Hid.mk (fun u hu => by rw [hb, hP]; exact rMayPath_any (h.below hu))
  have CO : Hid (b = true → ∀ u, Below w.heap.size w u → Calls Try.prog 7 #[encN t] u fun e w' => ∃ m : Mu, e = .returned (.tuple #[encU m, .int .i64 0]) ∧ UOk (fun g => u.heap.size ≤ g) w' m ∧ m.au = autoOf P ∧ Below u.heap.size u w') := Hid.mk (fun h1 u hu => by
    have h2 := of_any (h.below hu)
    rw [← hP, ofA, ← hb, h1] at h2
    exact h2)
  have CN : Hid (∀ u, Below w.heap.size w u → Calls Try.prog 10 #[encN t] u fun e w' => e = .returned (.bool (noneB P)) ∧ Below u.heap.size u w') := Hid.mk (fun u hu => by rw [hP]; exact none_any t u (h.below hu))
  have CP : Hid (b = true → ∀ u, Below w.heap.size w u → Calls Try.prog 11 #[encN t] u fun e w' => e = .returned (.int .i64 (leaves P : Int)) ∧ Below u.heap.size u w') := Hid.mk (fun h1 u hu => by
    rw [hP]
    refine rPlaces_any t u ?_ (h.below hu)
    rw [hb, hP] at h1
    simp only [mayP, Bool.and_eq_true, decide_eq_true_eq] at h1
    omega)
  have HB := Hid.mk hb
  obtain ⟨k, wd, v, l⟩ := t
  dsimp only at hv hkl
  subst hv
  obtain ⟨n, hn⟩ : ∃ n, n = l.length := ⟨_, rfl⟩
  rw [← hn] at CF CM CO CN CP hkl ⊢
  clear h hP hb hn
  show Calls Try.prog _ #[.agg #[.int .i64 k, .string ⟨wd.toArray⟩, .slice ao n cap]] w _
  obtain ⟨o, ho⟩ : ∃ o, o = Obj.cells #[.int .i64 k, .string ⟨wd.toArray⟩, .slice ao n cap] 24 := ⟨_, rfl⟩
  have HOB := Hid.mk ho
  have HC : Hid (∀ wr, Below (w.alloc o).heap.size (w.alloc o) wr → wr.cell? ⟨w.heap.size, 0, none⟩ = some (.int .i64 k) ∧ wr.cell? ⟨w.heap.size, 1, none⟩ = some (.string ⟨wd.toArray⟩) ∧ wr.cell? ⟨w.heap.size, 2, none⟩ = some (.slice ao n cap)) := Hid.mk (fun wr hb => by
    have h := box_keptQ hb
    rw [HOB.out] at h
    exact (three_cells h).1)
  have HB0 : Hid (Below (w.alloc o).heap.size (w.alloc o) (w.alloc (.cells #[.int .i64 k, .string ⟨wd.toArray⟩, .slice ao n cap] 24))) := Hid.mk (by rw [HOB.out]; exact Below.refl _ _)
  clear ho
  go_enter Try.func3, Try.ntmps3
  go_wp2_with fail
  refine (CF.out _ (below_boxQ HB0.out)).mono ?_
  rintro e w1 ⟨⟨fl, rfl⟩, hb1⟩
  have HB1 := Hid.mk (HB0.out.trans (hb1.mono HB0.out.size))
  clear hb1
  cases fl with
  | false =>
    go_wp2_with fail
    refine (awake_any _).mono ?_
    rintro e w2 ⟨rfl, hb2⟩
    have HB2 := Hid.mk (HB1.out.trans (hb2.mono HB1.out.size))
    clear hb2
    go_wp2
    go_ret
    exact ⟨rfl, below_boxQ HB2.out⟩
  | true =>
    obtain ⟨c0, c1, c2⟩ := HC.out _ HB1.out
    cases b with
    | false =>
      go_wp2_with fail
      refine (CM.out _ (below_boxQ HB1.out)).mono ?_
      rintro e w2 ⟨rfl, hb2⟩
      have HB2 := Hid.mk (HB1.out.trans (hb2.mono HB1.out.size))
      clear hb2 c0 c1 c2
      go_wp2_with fail
      refine (awake_any _).mono ?_
      rintro e w3 ⟨rfl, hb3⟩
      have HB3 := Hid.mk (HB2.out.trans (hb3.mono HB2.out.size))
      clear hb3
      go_wp2
      go_ret
      exact ⟨rfl, below_boxQ HB3.out⟩
    | true =>
      have CO2 := Hid.mk (CO.out rfl)
      have CP2 := Hid.mk (CP.out rfl)
      have HMAY : Hid (mayP P = true) := Hid.mk HB.out.symm
      go_wp2_with fail
      refine (CM.out _ (below_boxQ HB1.out)).mono ?_
      rintro e w2 ⟨rfl, hb2⟩
      have HB2 := Hid.mk (HB1.out.trans (hb2.mono HB1.out.size))
      clear hb2 c0 c1 c2
      obtain ⟨c0, c1, c2⟩ := HC.out _ HB2.out
      go_wp2_with fail
      refine (CO2.out _ (below_boxQ HB2.out)).mono ?_
      rintro e w3 ⟨m, rfl, hu3, ha3, hb3⟩
      have HB3 := Hid.mk (HB2.out.trans (hb3.mono HB2.out.size))
      obtain ⟨wa, wc, fa, fc, la, lc, oa, oc, e1, e2, e3, e4⟩ := hu3.slices
      have hacc0 : accB m.au [] = m.em := by
        have hm : mayA m.au = true := by rw [ha3]; exact (auto_will HMAY.out).1
        have hp : isPl m.au (-1) = true := by simp [isPl]; omega
        rw [accB, hm]
        simp [setA, ends_yes hm hp]
        rfl
      have hend0 : endsA m.au (-1) = m.em := by
        have hm : mayA m.au = true := by rw [ha3]; exact (auto_will HMAY.out).1
        have hp : isPl m.au (-1) = true := by simp [isPl]; omega
        rw [ends_yes hm hp, if_pos (by omega)]
        rfl
      have hnone : noneB P = m.em := by
        rw [← auto_none HMAY.out, ← ha3]
        rfl
      have hlen : m.ws.length = leaves P := by
        have : m.au.words.length = leaves P := by rw [ha3]; exact (prt_words P).2
        exact this
      have CA := Hid.mk (fun u (hu : Below w3.heap.size w3 u) => acc_any (hu3.below hu) (SlS.nil (enc := csT) (k := 1) (fun _ => True) u) (by simp))
      have CE := Hid.mk (fun u (hu : Below w3.heap.size w3 u) => ends_any (hu3.below hu) (-1))
      rw [hacc0] at CA
      rw [hend0] at CE
      rw [hnone] at CN
      rw [← hlen] at CP2
      have hwl := hu3.wl
      obtain ⟨mv, mws, mfv, mfs, mlv, mls, mov, mos, mem⟩ := m
      dsimp only at e1 e2 e3 e4 CA CE CN CP2 hwl
      subst e1 e2 e3 e4
      clear hu3 ha3 hb3 c0 c1 c2 hacc0 hend0 hnone hlen
      obtain ⟨nw, hnw⟩ : ∃ n, n = mws.length := ⟨_, rfl⟩
      rw [← hnw] at CA CE CP2 hwl ⊢
      obtain ⟨o2, ho2⟩ : ∃ o, o = Obj.cells #[.slice wa nw wc, .slice fa mfs.length fc, .slice la mls.length lc, .slice oa mos.length oc, .bool mem] 31 := ⟨_, rfl⟩
      have HO2 := Hid.mk ho2
      have KC : Hid (∀ u, Below (w3.alloc o2).heap.size (w3.alloc o2) u → (u.cell? ⟨w3.heap.size, 0, none⟩ = some (.slice wa nw wc) ∧ u.cell? ⟨w3.heap.size, 1, none⟩ = some (.slice fa mfs.length fc) ∧ u.cell? ⟨w3.heap.size, 2, none⟩ = some (.slice la mls.length lc) ∧ u.cell? ⟨w3.heap.size, 3, none⟩ = some (.slice oa mos.length oc) ∧ u.cell? ⟨w3.heap.size, 4, none⟩ = some (.bool mem)) ∧ (u.cell? ⟨w.heap.size, 0, none⟩ = some (.int .i64 k) ∧ u.cell? ⟨w.heap.size, 1, none⟩ = some (.string ⟨wd.toArray⟩) ∧ u.cell? ⟨w.heap.size, 2, none⟩ = some (.slice ao n cap))) := Hid.mk (fun u hu => by
        have h := box_keptQ hu
        rw [HO2.out] at h
        exact ⟨cells5 h, HC.out u (HB3.out.trans ((below_boxQ hu).mono HB3.out.size))⟩)
      have KB : Hid (∀ u, Below (w3.alloc o2).heap.size (w3.alloc o2) u → Below w3.heap.size w3 u ∧ Below w.heap.size w u) := Hid.mk (fun u hu => ⟨below_boxQ hu, below_boxQ (HB3.out.trans ((below_boxQ hu).mono HB3.out.size))⟩)
      have HD : Hid (Below (w3.alloc o2).heap.size (w3.alloc o2) (w3.alloc (.cells #[.slice wa nw wc, .slice fa mfs.length fc, .slice la mls.length lc, .slice oa mos.length oc, .bool mem] 31)).drew) := Hid.mk (by rw [HO2.out]; exact (Below.refl _ _).drew)
      clear ho2 hnw
      go_wp2_with fail
      go_region_held3 (fun u => (u.cell? ⟨w3.heap.size, 0, none⟩ = some (.slice wa nw wc) ∧ u.cell? ⟨w3.heap.size, 1, none⟩ = some (.slice fa mfs.length fc) ∧ u.cell? ⟨w3.heap.size, 2, none⟩ = some (.slice la mls.length lc) ∧ u.cell? ⟨w3.heap.size, 3, none⟩ = some (.slice oa mos.length oc) ∧ u.cell? ⟨w3.heap.size, 4, none⟩ = some (.bool mem)) ∧ (u.cell? ⟨w.heap.size, 0, none⟩ = some (.int .i64 k) ∧ u.cell? ⟨w.heap.size, 1, none⟩ = some (.string ⟨wd.toArray⟩) ∧ u.cell? ⟨w.heap.size, 2, none⟩ = some (.slice ao n cap)))
        (first | with_reducible exact KC.out _ HD.out | with_reducible exact KC.out _ h8 | with_reducible exact KC.out _ h7 | with_reducible exact KC.out _ h6 | with_reducible exact KC.out _ h5 | with_reducible exact KC.out _ h4)
        (first
          | (go_at_call 8; refine (CA.out _ (KB.out _ HD.out).1).mono ?_; rintro e w4 ⟨rfl, hb4⟩; have h4 := HD.out.trans (hb4.mono HD.out.size))
          | (go_at_call 9; refine (CE.out _ (KB.out _ h4).1).mono ?_; rintro e w5 ⟨rfl, hb5⟩; have h5 := h4.trans (hb5.mono h4.size))
          | (go_at_call 10; refine (CN.out _ (KB.out _ h5).2).mono ?_; rintro e w6 ⟨rfl, hb6⟩; have h6 := h5.trans (hb6.mono h5.size))
          | (go_at_call 11; refine (CP2.out _ (KB.out _ h6).2).mono ?_; rintro e w7 ⟨rfl, hb7⟩; have h7 := h6.trans (hb7.mono h6.size))
          | (go_at_call 6; refine (awake_any _).mono ?_; rintro e w8 ⟨rfl, hb8⟩; have h8 := h7.trans (hb8.mono h7.size)))
      have H8 := Hid.mk h8
      clear h4 h5 h6 h7 h8 hb4 hb5 hb6 hb7 hb8
      go_wp2
      go_ret
      exact ⟨rfl, (KB.out _ H8.out).2⟩
end Go.Proofs.Ythdnpddfdlhlaab
