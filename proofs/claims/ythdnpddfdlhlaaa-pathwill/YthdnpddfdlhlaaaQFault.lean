/- Contains of texts; queryFault, batchFault of the program. -/
import Derived.Test.YthdnpddfdlhlaaaQPlaces
import Derived.Test.YthdnpddfdlhlaaaQNames
namespace Go.Proofs.Ythdnpddfdlhlaaa
open Go.RowKit

theorem getT {w : World} {g o : Nat} {s : List UInt8} (h : ∀ (c : Nat) u, (csT s)[c]? = some u → w.cell? ⟨g, o + c, none⟩ = some u) : w.cell? ⟨g, o, none⟩ = some (.string ⟨s.toArray⟩) := h 0 _ rfl

set_option maxRecDepth 100000 in
set_option maxHeartbeats 2000000 in
theorem index_any {S : Nat → Prop} {w : World} {v : Value} {L : List (List UInt8)} (h : TxtS S w v L) (hl : L.length ≤ 9223372036854775806) (s : List UInt8) :
    Calls Try.prog 78 #[v, .string ⟨s.toArray⟩] w fun e w' => (∃ z : Int, e = .returned (.int .i64 z) ∧ decide (0 ≤ z) = decide (s ∈ L)) ∧ w' = w := by
  obtain ⟨ao, cap, rfl⟩ := h.slice
  have H := Hid.mk h
  obtain ⟨n, hn⟩ : ∃ n, n = L.length := ⟨_, rfl⟩
  rw [← hn] at hl H ⊢
  have HN := Hid.mk hn
  obtain ⟨ans, hans⟩ : ∃ a, a = decide (s ∈ L) := ⟨_, rfl⟩
  rw [← hans]
  have HA := Hid.mk hans
  clear h hn hans
  go_enter Try.func78, Try.ntmps78
  go_wp2_with fail
  go_loopw [8] (fun c wr => ∃ i : Nat, i ≤ n ∧ c = .int .i64 i ∧ s ∉ L.take i ∧ wr = w) (fun c _ => n - (intOf c).toNat)
  case atStart => exact ⟨0, Nat.zero_le _, rfl, by simp, rfl⟩
  case round =>
    obtain ⟨i, hi, rfl, hall, rfl⟩ := hrel
    have HAll := Hid.mk hall
    clear hall
    by_cases hlt : i < n
    · have hltI : (i : Int) < (n : Int) := by omega
      obtain ⟨x, hx⟩ : ∃ x, L[i]? = some x := ⟨_, List.getElem?_eq_getElem (by rw [← HN.out]; exact hlt)⟩
      obtain ⟨g, off, rfl, _, _, hcell⟩ := H.out.get hx
      have q0 := getT hcell
      rw [Nat.mul_one] at q0
      have HX := Hid.mk hx
      clear hx hcell
      by_cases e : s = x
      · subst e
        have HT : Hid (ans = true) := Hid.mk (by rw [HA.out]; exact decide_eq_true (List.mem_of_getElem? HX.out))
        go_wp2
        go_ret
        exact ⟨⟨_, rfl, by rw [HT.out]; simp⟩, rfl⟩
      · have e1 : (s == x) = false := by simpa using e
        have HA2 : Hid (s ∉ L.take (i + 1)) := Hid.mk (by
          rw [List.take_add_one, HX.out]
          intro h
          rcases List.mem_append.1 h with h | h
          · exact HAll.out h
          · simp at h; exact e h)
        go_wp2
        go_roundw
        case rel => exact ⟨i + 1, by omega, by go_num, HA2.out, by trivial⟩
        case measure => simp [intOf]; omega
    · have hltI : ¬ (i : Int) < (n : Int) := by omega
      have HF : Hid (ans = false) := Hid.mk (by
        rw [HA.out]
        refine decide_eq_false (fun h => HAll.out ?_)
        rw [List.take_of_length_le (by rw [← HN.out]; omega)]
        exact h)
      go_wp2
      go_ret
      exact ⟨⟨_, rfl, by rw [HF.out]; rfl⟩, rfl⟩

set_option maxRecDepth 100000 in
set_option maxHeartbeats 2000000 in
theorem contains_any {S : Nat → Prop} {w : World} {v : Value} {L : List (List UInt8)} (h : TxtS S w v L) (hl : L.length ≤ 9223372036854775806) (s : List UInt8) :
    Calls Try.prog 76 #[v, .string ⟨s.toArray⟩] w fun e w' => e = .returned (.bool (decide (s ∈ L))) ∧ w' = w := by
  have C := Hid.mk (index_any h hl s)
  obtain ⟨ans, hans⟩ : ∃ a, a = decide (s ∈ L) := ⟨_, rfl⟩
  rw [← hans] at C ⊢
  clear h hl hans
  go_enter Try.func76, Try.ntmps76
  go_wp2_with fail
  refine C.out.mono ?_
  rintro e w1 ⟨⟨z, rfl, hz⟩, rfl⟩
  have HZ := Hid.mk hz
  clear hz
  go_wp2
  go_ret
  exact ⟨by rw [← HZ.out]; rfl, rfl⟩

theorem batchFault_any (w : World) (ao : Option Addr) (n cap : Nat) (hn : n ≤ 9223372036854775807) :
    Calls Try.prog 73 #[.slice ao n cap] w fun e w' => e = .returned (.int .i64 (if 64 < n then 2 else 0)) ∧ w' = w := by
  by_cases h : 64 < n
  · have hI : (64 : Int) < (n : Int) := by omega
    rw [if_pos h]
    go_enter Try.func73, Try.ntmps73
    go_wp2
    go_ret
    exact ⟨rfl, rfl⟩
  · have hI : ¬ (64 : Int) < (n : Int) := by omega
    rw [if_neg h]
    go_enter Try.func73, Try.ntmps73
    go_wp2
    go_ret
    exact ⟨rfl, rfl⟩

theorem all_may {l : List Am} {i : Nat} {a : Am} (h : l[i]? = some a) (ha : ∀ x ∈ l.take i, mayP x.2.1.pt = true) (hm : mayP a.2.1.pt = true) : ∀ x ∈ l.take (i + 1), mayP x.2.1.pt = true := by
  intro y hy
  rw [List.take_add_one, h] at hy
  rcases List.mem_append.1 hy with hy | hy
  · exact ha y hy
  · simp at hy; subst hy; exact hm
theorem why_bad {vars : List (List UInt8)} {l : List Am} {a : Am} (ha : a ∈ l) (hm : mayP a.2.1.pt = false) : whyQ vars (l.map Am.pa) = 100 := by
  rw [whyQ, if_pos ⟨a.pa, List.mem_map_of_mem ha, hm⟩]
theorem not_bad {l : List Am} (h : ∀ x ∈ l, mayP x.2.1.pt = true) : ¬ ∃ a ∈ l.map Am.pa, mayP a.2.1 = false := by
  rintro ⟨a, ha, hm⟩
  obtain ⟨x, hx, rfl⟩ := List.mem_map.1 ha
  have := h x hx
  rw [show (Am.pa x).2.1 = x.2.1.pt from rfl, this] at hm
  cases hm
theorem nodup_snoc {l : List (List UInt8)} {i : Nat} {x : List UInt8} (h : l[i]? = some x) (hd : (l.take i).Nodup) (hm : x ∉ l.take i) : (l.take (i + 1)).Nodup := by
  rw [List.take_add_one, h]
  simp only [Option.toList_some]
  rw [List.nodup_append]
  exact ⟨hd, by simp, by intro a ha b hb e; simp at hb; subst hb; subst e; exact hm ha⟩
theorem not_nodup {l : List (List UInt8)} {i : Nat} {x : List UInt8} (h : l[i]? = some x) (hm : x ∈ l.take i) : ¬ l.Nodup := by
  intro hd
  have e : l = l.take i ++ l.drop i := (List.take_append_drop i l).symm
  rw [e] at hd
  have h2 : x ∈ l.drop i := List.mem_of_getElem? (i := 0) (by rw [List.getElem?_drop]; simpa using h)
  exact (List.nodup_append.1 hd).2.2 x hm x h2 rfl
theorem txt_cut {S : Nat → Prop} {w : World} {ao : Option Addr} {n cap cap2 i : Nat} {L : List (List UInt8)} (h : TxtS S w (.slice ao n cap) L) (hi : i ≤ L.length) : TxtS S w (.slice ao i cap2) (L.take i) := by
  obtain ⟨a, c, e, h⟩ := h
  injection e with e1 e2 e3
  subst e1
  refine ⟨ao, cap2, by rw [List.length_take]; congr 1; omega, ?_⟩
  rcases h with rfl | ⟨g, off, e1, hs, hl, hc⟩
  · left; simp
  · refine .inr ⟨g, off, e1, hs, hl, fun j x hx c u hu => hc j x ?_ c u hu⟩
    rw [List.getElem?_take] at hx
    split at hx
    · exact hx
    · cases hx

set_option maxRecDepth 100000 in
set_option maxHeartbeats 8000000 in
theorem queryFault_any {S : Nat → Prop} {w : World} {q : Qm} (h : QOk S w q) :
    Calls Try.prog 72 #[encQ q] w fun e w' => e = .returned (.int .i64 (whyQ q.vars (q.atoms.map Am.pa) : Int)) ∧ Below w.heap.size w w' := by
  obtain ⟨va, vc, hvv, hvc⟩ := h.vcap
  obtain ⟨ao, cap, hv⟩ := h.ats.slice
  have hvl := h.vl
  have hal := h.al
  have HNM := Hid.mk (fun u (hu : Below w.heap.size w u) (ha : q.atoms.length ≤ 1000000000) => names_any (h.below hu) ha)
  obtain ⟨vv, vars, av, atoms⟩ := q
  dsimp only at hvv hvc hv hvl hal HNM ⊢
  subst hvv hv
  have H := Hid.mk h
  obtain ⟨ans, hans⟩ : ∃ a, a = whyQ vars (atoms.map Am.pa) := ⟨_, rfl⟩
  rw [← hans]
  have HA := Hid.mk hans
  obtain ⟨n, hn⟩ : ∃ n, n = atoms.length := ⟨_, rfl⟩
  rw [← hn] at hal H HNM ⊢
  have HN := Hid.mk hn
  obtain ⟨nv, hnv⟩ : ∃ nv, nv = vars.length := ⟨_, rfl⟩
  rw [← hnv] at hvl hvc H HNM ⊢
  have HNV := Hid.mk hnv
  obtain ⟨o, ho⟩ : ∃ o, o = Obj.cells #[.slice va nv vc, .slice ao n cap] 54 := ⟨_, rfl⟩
  have HO := Hid.mk ho
  have HC : Hid (∀ wr, Below (w.alloc o).heap.size (w.alloc o) wr → wr.cell? ⟨w.heap.size, 0, none⟩ = some (.slice va nv vc) ∧ wr.cell? ⟨w.heap.size, 1, none⟩ = some (.slice ao n cap)) := Hid.mk (fun wr hb => by
    have h := box_keptQ hb
    rw [HO.out] at h
    exact ⟨by simp [World.cell?, h], by simp [World.cell?, h]⟩)
  clear h hn hnv ho hans
  go_enter Try.func72, Try.ntmps72
  go_wp2_with fail
  go_loopw [13] (fun c wr => ∃ i : Nat, i ≤ n ∧ c = .int .i64 i ∧ (∀ x ∈ atoms.take i, mayP x.2.1.pt = true) ∧ Below (w.alloc o).heap.size (w.alloc o) wr) (fun c _ => n - (intOf c).toNat)
  case atStart => exact ⟨0, Nat.zero_le _, rfl, by simp, by rw [HO.out]; exact Below.refl _ _⟩
  case round =>
    obtain ⟨i, hi, rfl, hall, hbq⟩ := hrel
    have HAll := Hid.mk hall
    have HBQ := Hid.mk hbq
    clear hall hbq
    by_cases hlt : i < n
    · have hltI : (i : Int) < (n : Int) := by omega
      obtain ⟨a, ha⟩ : ∃ a, atoms[i]? = some a := ⟨_, List.getElem?_eq_getElem (by rw [← HN.out]; exact hlt)⟩
      obtain ⟨g, off, rfl, _, _, hcell⟩ := (H.out.ats.below (below_boxQ HBQ.out)).get ha
      obtain ⟨q0, q1, q2, q3, q4, q5, q6⟩ := getA hcell
      have hmem := List.mem_of_getElem? ha
      have HOK := H.out.ok a hmem
      obtain ⟨xa, xc, hxv⟩ := HOK.parts.1.slice
      obtain ⟨wx, hwx⟩ : ∃ wx, wx = wr := ⟨_, rfl⟩
      subst hwx
      have HP := Hid.mk (fun u (hu : Below w.heap.size w u) => pathMayBe_any (HOK.below hu))
      have HBa : Hid (∀ ob : Obj, Below (w.alloc o).heap.size (w.alloc o) (wx.alloc ob)) := Hid.mk (fun ob => HBQ.out.alloc HBQ.out.size _)
      obtain ⟨m, hm⟩ : ∃ m, m = mayP a.2.1.pt := ⟨_, rfl⟩
      rw [← hm] at HP
      have HM := Hid.mk hm
      have HX := Hid.mk ha
      have HXM := Hid.mk hmem
      obtain ⟨nx, hnx⟩ : ∃ nx, nx = a.2.1.kids.length := ⟨_, rfl⟩
      rw [← hnx] at hxv
      clear ha hcell hm hmem HOK hnx
      cases m with
      | false =>
        have HF : Hid (ans = 100) := Hid.mk (by rw [HA.out]; exact why_bad HXM.out HM.out.symm)
        obtain ⟨⟨b1, n1⟩, ⟨xk, xw, xv, xl⟩, ⟨b2, n2⟩⟩ := a
        dsimp only at q0 q1 q2 q3 q4 q5 q6 hxv HP
        subst hxv
        go_wp2_with fail
        refine (HP.out _ (below_boxQ (HBa.out _))).mono ?_
        rintro e w2 ⟨rfl, hb2⟩
        have HB2 := Hid.mk ((HBa.out _).trans (hb2.mono (HBa.out _).size))
        clear hb2
        go_wp2
        go_ret
        exact ⟨by rw [HF.out]; rfl, below_boxQ HB2.out⟩
      | true =>
        have HA2 := Hid.mk (all_may HX.out HAll.out HM.out.symm)
        obtain ⟨⟨b1, n1⟩, ⟨xk, xw, xv, xl⟩, ⟨b2, n2⟩⟩ := a
        dsimp only at q0 q1 q2 q3 q4 q5 q6 hxv HP
        subst hxv
        go_wp2_with fail
        refine (HP.out _ (below_boxQ (HBa.out _))).mono ?_
        rintro e w2 ⟨rfl, hb2⟩
        have HB2 := Hid.mk ((HBa.out _).trans (hb2.mono (HBa.out _).size))
        clear hb2
        go_wp2
        go_roundw
        case rel => exact ⟨i + 1, by omega, by go_num, HA2.out, HB2.out⟩
        case measure => simp [intOf]; omega
    · have hltI : ¬ (i : Int) < (n : Int) := by omega
      have HAM : Hid (¬ ∃ a ∈ atoms.map Am.pa, mayP a.2.1 = false) := Hid.mk (not_bad (fun x hx => HAll.out x (by rw [List.take_of_length_le (by rw [← HN.out]; omega)]; exact hx)))
      obtain ⟨c0, c1⟩ := HC.out _ HBQ.out
      have HWR := Hid.mk (below_boxQ HBQ.out)
      obtain ⟨wx, hwx⟩ : ∃ wx, wx = wr := ⟨_, rfl⟩
      subst hwx
      by_cases h6 : 6 < nv
      · have h6I : (6 : Int) < (nv : Int) := by omega
        have HF : Hid (ans = 2) := Hid.mk (by rw [HA.out, whyQ, if_neg HAM.out, if_pos (.inl (by rw [← HNV.out]; exact h6))])
        go_wp2
        go_ret
        exact ⟨by rw [HF.out]; rfl, HWR.out⟩
      · have h6I : ¬ (6 : Int) < (nv : Int) := by omega
        by_cases h7 : 6 < n
        · have h7I : (6 : Int) < (n : Int) := by omega
          have HF : Hid (ans = 2) := Hid.mk (by rw [HA.out, whyQ, if_neg HAM.out, if_pos (.inr (.inl (by rw [List.length_map, ← HN.out]; exact h7)))])
          go_wp2
          go_ret
          exact ⟨by rw [HF.out]; rfl, HWR.out⟩
        · have h7I : ¬ (6 : Int) < (n : Int) := by omega
          obtain ⟨NL, hNL⟩ : ∃ NL, NL = namesP (atoms.map Am.pa) := ⟨_, rfl⟩
          have HNL := Hid.mk hNL
          have HNM2 := Hid.mk (HNM.out _ HWR.out (by omega))
          rw [← hNL] at HNM2
          clear hNL
          go_wp2_with fail
          refine HNM2.out.mono ?_
          rintro e w2 ⟨v2, rfl, hrow2, hb2⟩
          obtain ⟨xa, xc, hx2⟩ := own_slice hrow2
          subst hx2
          have HT2 : Hid (TxtS (fun _ => True) w2 (.slice xa NL.length xc) NL) := Hid.mk ((own_sl (enc := csT) (fun _ => rfl) hrow2 rfl).sub (fun _ _ _ => trivial))
          have HB2 := Hid.mk (HBQ.out.trans (hb2.mono HBQ.out.size))
          have HW2 := Hid.mk (below_boxQ HB2.out)
          obtain ⟨nn, hnn⟩ : ∃ nn, nn = NL.length := ⟨_, rfl⟩
          rw [← hnn] at HT2 ⊢
          have HNN := Hid.mk hnn
          have hnb : nn ≤ 2000000000 := by
            have := names_len (atoms.map Am.pa)
            rw [← HNL.out, ← hnn, List.length_map, ← HN.out] at this
            omega
          clear hrow2 hb2 hnn c0 c1
          obtain ⟨c0, c1⟩ := HC.out _ HB2.out
          by_cases h8 : 6 < nn
          · have h8I : (6 : Int) < (nn : Int) := by omega
            have HF : Hid (ans = 2) := Hid.mk (by rw [HA.out, whyQ, if_neg HAM.out, if_pos (.inr (.inr (by rw [← HNL.out, ← HNN.out]; exact h8)))])
            go_wp2
            go_ret
            exact ⟨by rw [HF.out]; rfl, HW2.out⟩
          · have h8I : ¬ (6 : Int) < (nn : Int) := by omega
            have HS6 : Hid (¬ (6 < vars.length ∨ 6 < (atoms.map Am.pa).length ∨ 6 < (namesP (atoms.map Am.pa)).length)) := Hid.mk (by
              rw [← HNV.out, List.length_map, ← HN.out, ← HNL.out, ← HNN.out]; omega)
            have HV2 := Hid.mk (H.out.vs.below HW2.out)
            go_wp2_with fail
            go_loopw [40] (fun c wr => ∃ i : Nat, i ≤ nv ∧ c = .int .i64 i ∧ (vars.take i).Nodup ∧ wr = w2) (fun c _ => nv - (intOf c).toNat)
            case atStart => exact ⟨0, Nat.zero_le _, rfl, by simp, rfl⟩
            case round =>
              obtain ⟨k, hk, rfl, hnd, hwr⟩ := hrel
              subst hwr
              obtain ⟨w2, hw2⟩ : ∃ w2, w2 = wr := ⟨_, rfl⟩
              subst hw2
              have HND := Hid.mk hnd
              clear hnd
              by_cases hlk : k < nv
              · have hlkI : (k : Int) < (nv : Int) := by omega
                obtain ⟨x, hx⟩ : ∃ x, vars[k]? = some x := ⟨_, List.getElem?_eq_getElem (by rw [← HNV.out]; exact hlk)⟩
                obtain ⟨g, off, rfl, _, _, hcell⟩ := HV2.out.get hx
                have q0 := getT hcell
                rw [Nat.mul_one] at q0
                have HX := Hid.mk hx
                have hkc : (k : Int) ≤ (vc : Int) := by omega
                have HCT := Hid.mk (fun c => contains_any (txt_cut (cap2 := c) (i := k) HV2.out (by rw [← HNV.out]; omega)) (by rw [List.length_take]; omega) x)
                obtain ⟨m, hm⟩ : ∃ m, m = decide (x ∈ vars.take k) := ⟨_, rfl⟩
                rw [← hm] at HCT
                have HM := Hid.mk hm
                clear hx hcell hm
                cases m with
                | true =>
                  have HF : Hid (ans = 1) := Hid.mk (by
                    rw [HA.out, whyQ, if_neg HAM.out, if_neg HS6.out, if_pos (not_nodup HX.out (of_decide_eq_true HM.out.symm))])
                  go_wp2_with fail
                  refine (HCT.out _).mono ?_
                  rintro e w3 ⟨rfl, rfl⟩
                  go_wp2
                  go_ret
                  exact ⟨by rw [HF.out]; rfl, HW2.out⟩
                | false =>
                  have HND2 := Hid.mk (nodup_snoc HX.out HND.out (of_decide_eq_false HM.out.symm))
                  go_wp2_with fail
                  refine (HCT.out _).mono ?_
                  rintro e w3 ⟨rfl, rfl⟩
                  go_wp2
                  go_roundw
                  case rel => exact ⟨k + 1, by omega, by go_num, HND2.out, by trivial⟩
                  case measure => simp [intOf]; omega
              · have hlkI : ¬ (k : Int) < (nv : Int) := by omega
                have HN2 : Hid (¬ ¬ vars.Nodup) := Hid.mk (fun hn => hn (by
                  have := HND.out
                  rwa [List.take_of_length_le (by rw [← HNV.out]; omega)] at this))
                go_wp2_with fail
                go_loopw [55] (fun c wr => ∃ i : Nat, i ≤ nv ∧ c = .int .i64 i ∧ (∀ v ∈ vars.take i, v ∈ NL) ∧ wr = w2) (fun c _ => nv - (intOf c).toNat)
                case atStart => exact ⟨0, Nat.zero_le _, rfl, by simp, rfl⟩
                case round =>
                  obtain ⟨j, hj, rfl, hin, hwr⟩ := hrel
                  subst hwr
                  have HIN := Hid.mk hin
                  clear hin
                  by_cases hlj : j < nv
                  · have hljI : (j : Int) < (nv : Int) := by omega
                    obtain ⟨x, hx⟩ : ∃ x, vars[j]? = some x := ⟨_, List.getElem?_eq_getElem (by rw [← HNV.out]; exact hlj)⟩
                    obtain ⟨g, off, rfl, _, _, hcell⟩ := HV2.out.get hx
                    have q0 := getT hcell
                    rw [Nat.mul_one] at q0
                    have HX := Hid.mk hx
                    have HCT := Hid.mk (contains_any HT2.out (by have := HNN.out; omega) x)
                    obtain ⟨m, hm⟩ : ∃ m, m = decide (x ∈ NL) := ⟨_, rfl⟩
                    rw [← hm] at HCT
                    have HM := Hid.mk hm
                    clear hx hcell hm
                    cases m with
                    | false =>
                      have HF : Hid (ans = 91) := Hid.mk (by
                        rw [HA.out, whyQ, if_neg HAM.out, if_neg HS6.out, if_neg HN2.out, if_pos ⟨x, List.mem_of_getElem? HX.out, by rw [← HNL.out]; exact of_decide_eq_false HM.out.symm⟩])
                      go_wp2_with fail
                      refine HCT.out.mono ?_
                      rintro e w3 ⟨rfl, rfl⟩
                      go_wp2
                      go_ret
                      exact ⟨by rw [HF.out]; rfl, HW2.out⟩
                    | true =>
                      have HIN2 : Hid (∀ v ∈ vars.take (j + 1), v ∈ NL) := Hid.mk (by
                        intro v hv
                        rw [List.take_add_one, HX.out] at hv
                        rcases List.mem_append.1 hv with hv | hv
                        · exact HIN.out v hv
                        · simp at hv; subst hv; exact of_decide_eq_true HM.out.symm)
                      go_wp2_with fail
                      refine HCT.out.mono ?_
                      rintro e w3 ⟨rfl, rfl⟩
                      go_wp2
                      go_roundw
                      case rel => exact ⟨j + 1, by omega, by go_num, HIN2.out, by trivial⟩
                      case measure => simp [intOf]; omega
                  · have hljI : ¬ (j : Int) < (nv : Int) := by omega
                    have HF : Hid (ans = 0) := Hid.mk (by
                      rw [HA.out, whyQ, if_neg HAM.out, if_neg HS6.out, if_neg HN2.out, if_neg]
                      rintro ⟨v, hv, hn⟩
                      rw [← HNL.out] at hn
                      refine hn (HIN.out v ?_)
                      rw [List.take_of_length_le (by rw [← HNV.out]; omega)]
                      exact hv)
                    go_wp2
                    go_ret
                    exact ⟨by rw [HF.out]; rfl, HW2.out⟩
end Go.Proofs.Ythdnpddfdlhlaaa
