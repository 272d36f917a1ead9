/- What matches some words is all facts that do. -/
import Derived.Test.YtiabnjjdeikefaaSLike
namespace Go.Proofs.Ytiabnjjdeikefaa
open Go.RowKit

/-- All ways to leave words of a fact out. -/
def likesT (t : Tri) : List Tri := [(t.1, [], []), ([], t.2.1, []), ([], [], t.2.2), (t.1, t.2.1, []), ([], t.2.1, t.2.2), (t.1, [], t.2.2), t, ([], [], [])]
theorem likesT_like {t lk : Tri} (h : lk ∈ likesT t) : likeT lk t = true := by
  simp only [likesT, List.mem_cons, List.not_mem_nil, or_false] at h
  rcases h with rfl | rfl | rfl | rfl | rfl | rfl | rfl | rfl <;> simp [likeT]

set_option maxHeartbeats 16000000 in
set_option maxRecDepth 100000 in
theorem storeMatch_walk (v1 : Value) (b1 : List Chg) (w : World) (h1 : ChgsA w v1 b1) :
    Calls Try.prog 6 #[v1] w fun e w' => e = .returned (.bool true) ∧ Below w.heap.size w w' := by
  obtain ⟨a1, c1, hv1⟩ := h1.1.slice
  subst hv1
  have H1 := Hid.mk h1
  obtain ⟨n1, hn1⟩ : ∃ n, n = b1.length := ⟨_, rfl⟩
  rw [← hn1] at H1 ⊢
  clear hn1 h1
  have C0 := Hid.mk (live_new w)
  go_enter Try.func6, Try.ntmps6
  go_wp2_with fail
  refine C0.out.mono ?_
  rintro e w1 ⟨b, rfl, hl1⟩
  have C1 := Hid.mk (hl1.apply (hl1.chgs H1.out).1 H1.out.len 1 (by decide))
  clear hl1 C0
  rcases apE_cases0 [[]] 1 b1 with hE1 | hE1
  · obtain ⟨G, hG⟩ : ∃ G, G = doneT [] b1 := ⟨_, rfl⟩
    have eA : apA [[]] 1 b1 = [[], G] := by unfold apA; rw [if_pos hE1, hG]; rfl
    rw [hE1, eA] at C1
    clear hE1 eA hG
    go_wp2_with fail
    refine C1.out.mono ?_
    rintro e w2 ⟨rfl, hl2, _⟩
    have CF := Hid.mk (hl2.facts (by simp) 1)
    rw [show (verO [[], G] 1).getD [] = G from rfl, show maE [[], G] 1 = 0 from rfl] at CF
    have hGl : G.length ≤ 4096 := by
      obtain ⟨ts, hh⟩ := hl2.hist
      exact hh.few G (by simp)
    clear hl2 C1
    go_wp2_with fail
    refine CF.out.mono ?_
    rintro e w3 ⟨a3, k3, rfl, ht3, hl3, _⟩
    have L3 := Hid.mk hl3
    have T3 := Hid.mk ht3
    clear hl3 ht3 CF
    obtain ⟨n, hn⟩ : ∃ n, n = G.length := ⟨_, rfl⟩
    rw [← hn] at T3 hGl ⊢
    have HN := Hid.mk hn
    clear hn
    go_wp2_with fail
    go_loopw [6] (fun c wr => ∃ (i : Nat) (S : Nat → Prop), i ≤ n ∧ c = .int .i64 i ∧ Live w wr S b [[], G] ∧ TrisS S wr (.slice a3 n k3) G) (fun c _ => n - (intOf c).toNat)
    case atStart => exact ⟨0, _, Nat.zero_le _, rfl, L3.out, T3.out⟩
    case round =>
      obtain ⟨i, S4, hi, rfl, hl4, ht4⟩ := hrel
      have L4 := Hid.mk hl4
      have T4 := Hid.mk ht4
      clear hl4 ht4
      by_cases hlt : i < n
      · have hltI : (i : Int) < (n : Int) := by omega
        obtain ⟨t, ht⟩ : ∃ t, G[i]? = some t := ⟨_, List.getElem?_eq_getElem (by rw [← HN.out]; exact hlt)⟩
        obtain ⟨g, off, hao, _, hgb, hcell⟩ := T4.out.get ht
        subst hao
        obtain ⟨q0, q1, q2⟩ := get3 hcell
        have HTM := Hid.mk (List.mem_of_getElem? ht)
        clear ht hcell
        obtain ⟨W5, hW5⟩ : ∃ W5, W5 = wr.alloc (.cells #[strV t.1, strV t.2.1, strV t.2.2] 25) := ⟨_, rfl⟩
        obtain ⟨W6, hW6⟩ : ∃ W6, W6 = W5.alloc (.cells ((likesT t).flatMap cs3).toArray 25) := ⟨_, rfl⟩
        have hz5 : W5.heap.size = wr.heap.size + 1 := by rw [hW5]; simp
        have hB5 : Below wr.heap.size wr W5 := by rw [hW5]; exact (Below.refl _ _).alloc (Nat.le_refl _) _
        have hB6 : Below W5.heap.size W5 W6 := by rw [hW6]; exact (Below.refl _ _).alloc (Nat.le_refl _) _
        have hB46 : Below wr.heap.size wr W6 := hB5.trans (hB6.mono hB5.size)
        have hbt : W6.heap[wr.heap.size]? = some (.cells #[strV t.1, strV t.2.1, strV t.2.2] 25) := (hB6.block _ (by rw [hz5]; exact Nat.lt_succ_self _)).trans (by rw [hW5]; exact box_at wr _)
        have hsl6 : TrisS (fun _ => True) W6 (.slice (some ⟨W5.heap.size, 0, none⟩) 8 8) (likesT t) := by rw [hW6]; exact sl_new cs3_len W5 (likesT t) 25 8 8 rfl
        rw [hz5] at hsl6
        have HSL := Hid.mk hsl6
        have HBT := Hid.mk hbt
        have L6 := Hid.mk (L4.out.plus hB46)
        have T6 := Hid.mk (T4.out.plus hB46)
        have HW6 : Hid (W6 = (wr.alloc (.cells #[strV t.1, strV t.2.1, strV t.2.2] 25)).alloc (.cells #[strV t.1, strV [], strV [], strV [], strV t.2.1, strV [], strV [], strV [], strV t.2.2, strV t.1, strV t.2.1, strV [], strV [], strV t.2.1, strV t.2.2, strV t.1, strV [], strV t.2.2, strV t.1, strV t.2.1, strV t.2.2, strV [], strV [], strV []] 25)) := Hid.mk (by rw [hW6, hW5]; rfl)
        have HW5 := Hid.mk hW5
        have htb : wr.heap.size < W6.heap.size := lt_of_block hbt
        clear hW5 hW6 hB5 hB6 hB46 hbt hsl6 hz5
        obtain ⟨tb, htbx⟩ : ∃ tb, tb = wr.heap.size := ⟨_, rfl⟩
        go_wp2_with fail
        rw [← HW6.out]
        rw [← htbx] at HSL HBT htb L6 T6 ⊢
        clear htbx HW6 HW5 q0 q1 q2
        obtain ⟨wx, hwx⟩ : ∃ wx, wx = W6 := ⟨_, rfl⟩
        subst hwx
        go_loopw [9] (fun c wr => ∃ (k : Nat), k ≤ 8 ∧ c = .int .i64 k ∧ Below wx.heap.size wx wr) (fun c _ => 8 - (intOf c).toNat)
        case atStart => exact ⟨0, by omega, rfl, Below.refl _ _⟩
        case round =>
          obtain ⟨k, hk, rfl, hbx⟩ := hrel
          have HBX := Hid.mk hbx
          clear hbx
          by_cases hk8 : k < 8
          · have hkI : (k : Int) < 8 := by omega
            obtain ⟨lk, hlk⟩ : ∃ lk, (likesT t)[k]? = some lk := ⟨_, List.getElem?_eq_getElem (by simpa [likesT] using hk8)⟩
            obtain ⟨g', off', hao', _, hgl, hcell'⟩ := HSL.out.get hlk
            injection hao' with hao'
            injection hao' with hg' ho' _
            subst hg' ho'
            have HLK : Hid (∀ u, Below wx.heap.size wx u → u.cell? ⟨tb + 1, 0 + k * 3, none⟩ = some (strV lk.1) ∧ u.cell? ⟨tb + 1, 0 + k * 3 + 1, none⟩ = some (strV lk.2.1) ∧ u.cell? ⟨tb + 1, 0 + k * 3 + 2, none⟩ = some (strV lk.2.2)) := Hid.mk (fun u hu => by
              obtain ⟨z0, z1, z2⟩ := get3 hcell'
              exact ⟨(hu.cell (p := ⟨tb + 1, 0 + k * 3, none⟩) hgl).trans z0, (hu.cell (p := ⟨tb + 1, 0 + k * 3 + 1, none⟩) hgl).trans z1, (hu.cell (p := ⟨tb + 1, 0 + k * 3 + 2, none⟩) hgl).trans z2⟩)
            rw [Nat.zero_add] at HLK
            have HLL := Hid.mk (likesT_like (List.mem_of_getElem? hlk))
            obtain ⟨l0, l1, l2⟩ := HLK.out wr HBX.out
            have L7 := Hid.mk (L6.out.below HBX.out)
            have CM := Hid.mk (L7.out.match (by simp) 1 lk)
            rw [show maL [[], G] 1 lk = matchT G lk from rfl, show maE [[], G] 1 = 0 from rfl] at CM
            clear hlk hcell' hgl
            obtain ⟨M, hM⟩ : ∃ M, M = matchT G lk := ⟨_, rfl⟩
            rw [← hM] at CM
            have HMt : Hid (t ∈ M) := Hid.mk (by rw [hM, matchT, List.mem_filter]; exact ⟨HTM.out, HLL.out⟩)
            have HMl : Hid (∀ x ∈ M, likeT lk x = true) := Hid.mk (fun x hx => by rw [hM, matchT, List.mem_filter] at hx; exact hx.2)
            have hMl : M.length ≤ 4096 := by
              rw [hM]
              have := List.length_filter_le (likeT lk) G
              have := HN.out
              simp only [matchT]
              omega
            clear hM
            obtain ⟨ml, hml⟩ : ∃ n, n = M.length := ⟨_, rfl⟩
            rw [← hml] at CM hMl
            have HML := Hid.mk hml
            clear hml
            go_wp2_with fail
            refine CM.out.mono ?_
            rintro e w8 ⟨a8, k8, rfl, ht8, _, hb8⟩
            have T8 := Hid.mk ht8
            have HB8 := Hid.mk (HBX.out.trans (hb8.mono HBX.out.size))
            clear ht8 hb8 CM l0 l1 l2
            go_wp2_with fail
            obtain ⟨wy, hwy⟩ : ∃ wy, wy = w8 := ⟨_, rfl⟩
            subst hwy
            go_loopw [12, 13] (fun s12 s13 wr => ∃ (j : Nat), j ≤ ml ∧ s12 = .bool (decide (t ∈ M.take j)) ∧ s13 = .int .i64 j ∧ Below wy.heap.size wy wr) (fun _ s13 _ => ml - (intOf s13).toNat)
            case atStart => exact ⟨0, Nat.zero_le _, by simp, rfl, Below.refl _ _⟩
            case round =>
              obtain ⟨j, hj, hs12, rfl, hby⟩ := hrel
              have HBY := Hid.mk hby
              have HXY := Hid.mk (HB8.out.trans (hby.mono HB8.out.size))
              clear hby
              obtain ⟨fd, hfd⟩ : ∃ f, f = decide (t ∈ M.take j) := ⟨_, rfl⟩
              rw [← hfd] at hs12
              subst hs12
              have HFD := Hid.mk hfd
              clear hfd
              by_cases hjm : j < ml
              · have hjI : (j : Int) < (ml : Int) := by omega
                obtain ⟨x, hx⟩ : ∃ x, M[j]? = some x := ⟨_, List.getElem?_eq_getElem (by rw [← HML.out]; exact hjm)⟩
                obtain ⟨g8, o8, hao8, _, hgl8, hcell8⟩ := T8.out.get hx
                subst hao8
                have HM8 : Hid (∀ u, Below wy.heap.size wy u → u.cell? ⟨g8, o8 + j * 3, none⟩ = some (strV x.1) ∧ u.cell? ⟨g8, o8 + j * 3 + 1, none⟩ = some (strV x.2.1) ∧ u.cell? ⟨g8, o8 + j * 3 + 2, none⟩ = some (strV x.2.2)) := Hid.mk (fun u hu => by
                  obtain ⟨z0, z1, z2⟩ := get3 hcell8
                  exact ⟨(hu.cell (p := ⟨g8, o8 + j * 3, none⟩) hgl8).trans z0, (hu.cell (p := ⟨g8, o8 + j * 3 + 1, none⟩) hgl8).trans z1, (hu.cell (p := ⟨g8, o8 + j * 3 + 2, none⟩) hgl8).trans z2⟩)
                obtain ⟨m0, m1, m2⟩ := HM8.out wr HBY.out
                obtain ⟨⟨b0, b1', b2⟩, _⟩ := box3 ((HXY.out.block _ htb).trans HBT.out)
                have HD1 : Hid (Below wr.heap.size wr wr.drew) := Hid.mk (Below.refl _ _).drew
                have HD2 : Hid (Below wr.heap.size wr wr.drew.drew) := Hid.mk (Below.refl _ _).drew.drew
                have HCL : Hid (Calls Try.prog 26 #[encT x, encT lk] wr.drew.drew fun e w' => e = .returned (.bool true) ∧ Below wr.drew.drew.heap.size wr.drew.drew w') := Hid.mk (by
                  have := like_any x lk wr.drew.drew
                  rw [HMl.out x (List.mem_of_getElem? hx)] at this
                  exact this)
                have HKK : Hid (∀ u, Below wr.drew.drew.heap.size wr.drew.drew u → (u.cell? ⟨g8, o8 + j * 3, none⟩ = some (strV x.1) ∧ u.cell? ⟨g8, o8 + j * 3 + 1, none⟩ = some (strV x.2.1) ∧ u.cell? ⟨g8, o8 + j * 3 + 2, none⟩ = some (strV x.2.2)) ∧ (u.cell? ⟨tb + 1, k * 3, none⟩ = some (strV lk.1) ∧ u.cell? ⟨tb + 1, k * 3 + 1, none⟩ = some (strV lk.2.1) ∧ u.cell? ⟨tb + 1, k * 3 + 2, none⟩ = some (strV lk.2.2))) := Hid.mk (fun u hu => by
                  have hu2 : Below wr.heap.size wr u := HD2.out.trans (hu.mono HD2.out.size)
                  exact ⟨HM8.out u (HBY.out.trans (hu2.mono HBY.out.size)), HLK.out u (HXY.out.trans (hu2.mono HXY.out.size))⟩)
                obtain ⟨l0, l1, l2⟩ := HLK.out wr HXY.out
                have heq := eqT x t
                have HTK : Hid (decide (t ∈ M.take (j + 1)) = (fd || decide (x = t))) := Hid.mk (by
                  rw [List.take_add_one, hx, HFD.out]
                  by_cases e1 : t ∈ M.take j <;> by_cases e2 : x = t <;> simp [e1, e2]
                  exact fun h => e2 h.symm)
                clear hx hcell8
                cases fd with
                | true =>
                  go_wp2_with fail
                  go_region
                  go_wp2_with fail
                  go_region_held3 (fun w' => (w'.cell? ⟨g8, o8 + j * 3, none⟩ = some (strV x.1) ∧ w'.cell? ⟨g8, o8 + j * 3 + 1, none⟩ = some (strV x.2.1) ∧ w'.cell? ⟨g8, o8 + j * 3 + 2, none⟩ = some (strV x.2.2)) ∧ (w'.cell? ⟨tb + 1, k * 3, none⟩ = some (strV lk.1) ∧ w'.cell? ⟨tb + 1, k * 3 + 1, none⟩ = some (strV lk.2.1) ∧ w'.cell? ⟨tb + 1, k * 3 + 2, none⟩ = some (strV lk.2.2)))
                    (first | exact ⟨⟨m0, m1, m2⟩, ⟨l0, l1, l2⟩⟩ | exact ⟨⟨by assumption, by assumption, by assumption⟩, ⟨by assumption, by assumption, by assumption⟩⟩)
                    (first | (go_at_call 26; refine HCL.out.mono ?_; rintro e w9 ⟨rfl, hb9⟩; obtain ⟨⟨r0, r1, r2⟩, ⟨r3, r4, r5⟩⟩ := HKK.out w9 hb9; have HB9 := Hid.mk (HD2.out.trans (hb9.mono HD2.out.size)); clear hb9))
                  go_wp2
                  go_roundw
                  case rel => exact ⟨j + 1, by omega, by rw [HTK.out]; rfl, by go_num, HBY.out.trans (HB9.out.mono HBY.out.size)⟩
                  case measure => simp [intOf]; omega
                | false =>
                  by_cases hxt : x = t
                  · rw [decide_eq_true hxt] at heq HTK
                    clear hxt
                    go_wp2_with fail
                    go_region
                    go_wp2_with fail
                    go_region_held3 (fun w' => (w'.cell? ⟨g8, o8 + j * 3, none⟩ = some (strV x.1) ∧ w'.cell? ⟨g8, o8 + j * 3 + 1, none⟩ = some (strV x.2.1) ∧ w'.cell? ⟨g8, o8 + j * 3 + 2, none⟩ = some (strV x.2.2)) ∧ (w'.cell? ⟨tb + 1, k * 3, none⟩ = some (strV lk.1) ∧ w'.cell? ⟨tb + 1, k * 3 + 1, none⟩ = some (strV lk.2.1) ∧ w'.cell? ⟨tb + 1, k * 3 + 2, none⟩ = some (strV lk.2.2)))
                      (first | exact ⟨⟨m0, m1, m2⟩, ⟨l0, l1, l2⟩⟩ | exact ⟨⟨by assumption, by assumption, by assumption⟩, ⟨by assumption, by assumption, by assumption⟩⟩)
                      (first | (go_at_call 26; refine HCL.out.mono ?_; rintro e w9 ⟨rfl, hb9⟩; obtain ⟨⟨r0, r1, r2⟩, ⟨r3, r4, r5⟩⟩ := HKK.out w9 hb9; have HB9 := Hid.mk (HD2.out.trans (hb9.mono HD2.out.size)); clear hb9))
                    go_wp2
                    go_roundw
                    case rel => exact ⟨j + 1, by omega, by rw [HTK.out]; rfl, by go_num, HBY.out.trans (HB9.out.mono HBY.out.size)⟩
                    case measure => simp [intOf]; omega
                  · rw [decide_eq_false hxt] at heq HTK
                    clear hxt
                    go_wp2_with fail
                    go_region
                    go_wp2_with fail
                    go_region_held3 (fun w' => (w'.cell? ⟨g8, o8 + j * 3, none⟩ = some (strV x.1) ∧ w'.cell? ⟨g8, o8 + j * 3 + 1, none⟩ = some (strV x.2.1) ∧ w'.cell? ⟨g8, o8 + j * 3 + 2, none⟩ = some (strV x.2.2)) ∧ (w'.cell? ⟨tb + 1, k * 3, none⟩ = some (strV lk.1) ∧ w'.cell? ⟨tb + 1, k * 3 + 1, none⟩ = some (strV lk.2.1) ∧ w'.cell? ⟨tb + 1, k * 3 + 2, none⟩ = some (strV lk.2.2)))
                      (first | exact ⟨⟨m0, m1, m2⟩, ⟨l0, l1, l2⟩⟩ | exact ⟨⟨by assumption, by assumption, by assumption⟩, ⟨by assumption, by assumption, by assumption⟩⟩)
                      (first | (go_at_call 26; refine HCL.out.mono ?_; rintro e w9 ⟨rfl, hb9⟩; obtain ⟨⟨r0, r1, r2⟩, ⟨r3, r4, r5⟩⟩ := HKK.out w9 hb9; have HB9 := Hid.mk (HD2.out.trans (hb9.mono HD2.out.size)); clear hb9))
                    go_wp2
                    go_roundw
                    case rel => exact ⟨j + 1, by omega, by rw [HTK.out]; rfl, by go_num, HBY.out.trans (HB9.out.mono HBY.out.size)⟩
                    case measure => simp [intOf]; omega
              · have hjI : ¬ (j : Int) < (ml : Int) := by omega
                have hfd : fd = true := by
                  rw [HFD.out]
                  refine decide_eq_true ?_
                  rw [List.take_of_length_le (by have := HML.out; omega)]
                  exact HMt.out
                subst hfd
                go_wp2
                go_roundw
                case rel => exact ⟨k + 1, by omega, by go_num, HXY.out⟩
                case measure => simp [intOf]; omega
          · have hkI : ¬ (k : Int) < 8 := by omega
            have L7 := Hid.mk (L6.out.below HBX.out)
            have T7 := Hid.mk (T6.out.below HBX.out)
            go_wp2
            go_roundw
            case rel => exact ⟨i + 1, _, by omega, by go_num, L7.out, T7.out⟩
            case measure => simp [intOf]; omega
      · have hltI : ¬ (i : Int) < (n : Int) := by omega
        have CX := Hid.mk L4.out.awake
        go_wp2_with fail
        refine CX.out.mono ?_
        rintro e w9 ⟨rfl, hb9⟩
        go_wp2
        go_ret
        exact ⟨rfl, hb9⟩
  · obtain ⟨hA1, hle1⟩ := apE_not hE1
    obtain ⟨er1, her1⟩ : ∃ er, er = apE [[]] 1 b1 := ⟨_, rfl⟩
    rw [hA1, ← her1] at C1
    rw [← her1] at hE1 hle1
    have hne1 : ((er1 : Int) != 0) = true := by simp; omega
    have hne2 : ¬ (er1 : Int) = 0 := by omega
    clear her1 hA1
    go_wp2_with fail
    refine C1.out.mono ?_
    rintro e w2 ⟨rfl, hl2, _⟩
    have CX := Hid.mk hl2.awake
    clear hl2 C1
    go_wp2_with fail
    refine CX.out.mono ?_
    rintro e w9 ⟨rfl, hb9⟩
    go_wp2
    go_ret
    exact ⟨rfl, hb9⟩
end Go.Proofs.Ytiabnjjdeikefaa
