/- A batch is done wholly or not. -/
import Derived.Test.YtiabnjjdeikefaaSLive
namespace Go.Proofs.Ytiabnjjdeikefaa
open Go.RowKit

/-- What a version has of a fact. -/
theorem likeT_self (t : Tri) : likeT t t = true := by simp [likeT]
theorem likeT_word {a t : Tri} (ha : isTW a = true) (h : likeT a t = true) : a = t := by
  obtain ⟨h1, h2, h3⟩ := isTW_parts ha
  have e : ∀ s : List UInt8, isW s = true → s ≠ [] := fun s hs e => by subst e; have := isW_len hs; simp at this
  simp only [likeT, Bool.and_eq_true, Bool.or_eq_true, decide_eq_true_eq] at h
  obtain ⟨⟨q1, q2⟩, q3⟩ := h
  exact Prod.ext (q1.resolve_left (e _ h1)) (Prod.ext (q2.resolve_left (e _ h2)) (q3.resolve_left (e _ h3)))
/-- A fact of words is matched by itself alone. -/
theorem matchT_one {F : List Tri} (hF : Rise F) {a : Tri} (ha : isTW a = true) : (matchT F a).length = if a ∈ F then 1 else 0 := by
  by_cases h : a ∈ F
  · rw [if_pos h, len_same (l2 := [a]) ((hF.like a).nodup) (by simp) (fun t => ?_)]
    · rfl
    · rw [matchT, List.mem_filter, List.mem_singleton]
      constructor
      · rintro ⟨_, h2⟩; exact (likeT_word ha h2).symm
      · rintro rfl; exact ⟨h, likeT_self t⟩
  · rw [if_neg h, List.length_eq_zero_iff, matchT, List.filter_eq_nil_iff]
    intro t ht h2
    exact h (by rw [likeT_word ha h2]; exact ht)
/-- The last change of a fact decides. -/
theorem last_says {l : List Tri} {bt : List Chg} {i : Nat} {c : Chg} (hc : bt[i]? = some c) (h : ∀ (k : Nat) x, i < k → bt[k]? = some x → x.2 ≠ c.2) : c.2 ∈ doneT l bt ↔ c.1 = false := by
  have hlt := (List.getElem?_eq_some_iff.1 hc).1
  have e : bt = bt.take i ++ [c] ++ bt.drop (i + 1) := by
    have h1 := List.take_append_drop i bt
    rw [List.drop_eq_getElem_cons hlt] at h1
    rw [List.getElem?_eq_getElem hlt] at hc
    rw [Option.some.inj hc] at h1
    rw [List.append_assoc]
    exact h1.symm
  have e2 : doneT l bt = doneT (doneT l (bt.take i ++ [c])) (bt.drop (i + 1)) := by
    conv => lhs; rw [e]
    simp [doneT, List.foldl_append]
  rw [e2, doneT_same _ (fun x hx => ?_), doneT_snoc, mem_stepT_same]
  obtain ⟨j, hj, e3⟩ := List.getElem_of_mem hx
  refine h (i + 1 + j) x (by omega) ?_
  rw [List.length_drop] at hj
  rw [← e3, List.getElem_drop]
  exact List.getElem?_eq_getElem _

set_option maxHeartbeats 16000000 in
set_option maxRecDepth 100000 in
theorem storeWhole_walk (v1 : Value) (b1 : List Chg) (v2 : Value) (b2 : List Chg) (w : World) (h1 : ChgsA w v1 b1) (h2 : ChgsA w v2 b2) :
    Calls Try.prog 5 #[v1, v2] w fun e w' => e = .returned (.bool true) ∧ Below w.heap.size w w' := by
  obtain ⟨a1, c1, hv1⟩ := h1.1.slice
  obtain ⟨a2, c2, hv2⟩ := h2.1.slice
  subst hv1 hv2
  have H1 := Hid.mk h1
  have H2 := Hid.mk h2
  obtain ⟨n1, hn1⟩ : ∃ n, n = b1.length := ⟨_, rfl⟩
  obtain ⟨n2, hn2⟩ : ∃ n, n = b2.length := ⟨_, rfl⟩
  rw [← hn1] at H1 ⊢
  rw [← hn2] at H2 ⊢
  have HN2 := Hid.mk hn2
  clear hn1 hn2 h1 h2
  have C0 := Hid.mk (live_new w)
  go_enter Try.func5, Try.ntmps5
  go_wp2_with fail
  refine C0.out.mono ?_
  rintro e w1 ⟨b, rfl, hl1⟩
  have C1 := Hid.mk (hl1.apply (hl1.chgs H1.out).1 H1.out.len 1 (by decide))
  clear hl1 C0
  rcases apE_cases0 [[]] 1 b1 with hE1 | hE1
  · obtain ⟨F0, hF0⟩ : ∃ F0, F0 = doneT [] b1 := ⟨_, rfl⟩
    have eA : apA [[]] 1 b1 = [[], F0] := by unfold apA; rw [if_pos hE1, hF0]; rfl
    rw [hE1, eA] at C1
    clear hE1 eA hF0
    go_wp2_with fail
    refine C1.out.mono ?_
    rintro e w2 ⟨rfl, hl2', _⟩
    have L2 := Hid.mk hl2'
    clear hl2' C1
    have CW := Hid.mk (L2.out.facts (by simp) 1)
    rw [show (verO [[], F0] 1).getD [] = F0 from rfl, show maE [[], F0] 1 = 0 from rfl] at CW
    have hFl : (F0).length ≤ 4096 := by
      obtain ⟨ts, hh⟩ := L2.out.hist
      exact hh.few (F0) (by simp)
    have HFr : Hid (Rise (F0)) := Hid.mk (by
      obtain ⟨ts, hh⟩ := L2.out.hist
      exact hh.rise (F0) (by simp))
    go_wp2_with fail
    refine CW.out.mono ?_
    rintro e w3 ⟨a3, k3, rfl, ht3, hl3, _⟩
    have T3 := Hid.mk ht3
    have CA := Hid.mk (hl3.apply (hl3.chgs H2.out).1 H2.out.len 2 (by simp))
    clear ht3 hl3 CW L2
    obtain ⟨lw, hlw⟩ : ∃ n, n = (F0).length := ⟨_, rfl⟩
    rw [← hlw] at T3 hFl ⊢
    have HLW := Hid.mk hlw
    clear hlw
    rcases apE_cases0 [[], F0] 2 b2 with hE | hE
    · obtain ⟨hm, hvv, hgl, hA⟩ := apE_may hE
      clear hvv
      obtain ⟨G, hG⟩ : ∃ G, G = doneT (F0) b2 := ⟨_, rfl⟩
      have hG2 : apA [[], F0] 2 b2 = [[], F0, G] := by rw [hA, hG]; rfl
      rw [hE, hG2] at CA
      have hgl2 : G.length ≤ 4096 := by rw [hG]; exact hgl
      have HGr : Hid (Rise G) := Hid.mk (by rw [hG]; exact HFr.out.done b2)
      have HGl : Hid (G.length ≤ lw + n2) := Hid.mk (by rw [hG, HLW.out, HN2.out]; exact doneT_len b2 _)
      have HM := Hid.mk hm
      have hb64 : n2 ≤ 64 := by rw [HN2.out]; exact mayT_len hm
      have HG := Hid.mk hG
      clear hm hgl hA hG2 hE hG
      go_wp2_with fail
      refine CA.out.mono ?_
      rintro e w4 ⟨rfl, hl4, _⟩
      have CF := Hid.mk (hl4.facts (by simp) 2)
      rw [show (verO [[], F0, G] 2).getD [] = G from rfl, show maE [[], F0, G] 2 = 0 from rfl] at CF
      clear hl4 CA
      obtain ⟨lg, hlg⟩ : ∃ n, n = G.length := ⟨_, rfl⟩
      rw [← hlg] at CF hgl2 HGl
      clear hlg
      go_wp2_with fail
      refine CF.out.mono ?_
      rintro e w5 ⟨a5, k5, rfl, _, hl5, _⟩
      have L5 := Hid.mk hl5
      clear hl5 CF T3
      go_wp2_with fail
      go_loopw [14] (fun c wr => ∃ (i : Nat) (S : Nat → Prop), i ≤ n2 ∧ c = .int .i64 i ∧ Live w wr S b [[], F0, G]) (fun c _ => n2 - (intOf c).toNat)
      case atStart => exact ⟨0, _, Nat.zero_le _, rfl, L5.out⟩
      case round =>
        obtain ⟨i, S6, hi, rfl, hl6⟩ := hrel
        have L6 := Hid.mk hl6
        clear hl6
        by_cases hlt : i < n2
        · have hltI : (i : Int) < (n2 : Int) := by omega
          obtain ⟨c, hc⟩ : ∃ c, b2[i]? = some c := ⟨_, List.getElem?_eq_getElem (by rw [← HN2.out]; exact hlt)⟩
          have HC := Hid.mk hc
          have HCW := Hid.mk (mayT_word HM.out (List.mem_of_getElem? hc))
          obtain ⟨wx, hwx⟩ : ∃ wx, wx = wr := ⟨_, rfl⟩
          subst hwx
          obtain ⟨g, off, hao, _, hgb, hcell⟩ := (L6.out.chgs H2.out).1.get hc
          subst hao
          have HCI := Hid.mk (get4 hcell)
          clear hc hcell
          go_wp2_with fail
          go_loopw [15, 16] (fun s15 s16 wr => ∃ (k : Nat) (last : Bool), s15 = .bool last ∧ s16 = .int .i64 k ∧ i + 1 ≤ k ∧ k ≤ n2 ∧ (last = true → ∀ (j : Nat) x, i < j → j < k → b2[j]? = some x → x.2 ≠ c.2) ∧ Below wx.heap.size wx wr) (fun _ s16 _ => n2 - (intOf s16).toNat)
          case atStart => exact ⟨i + 1, true, rfl, by go_num, Nat.le_refl _, by omega, fun _ j x h1 h2 => absurd h1 (by omega), Below.refl _ _⟩
          case round =>
            obtain ⟨k, last, rfl, rfl, hik, hk, hlast, hBx⟩ := hrel
            have HLs := Hid.mk hlast
            have HBX := Hid.mk hBx
            have L7 := Hid.mk (L6.out.below hBx)
            clear hlast hBx
            obtain ⟨q0, q1, q2, q3⟩ : wr.cell? ⟨g, off + i * 4, none⟩ = some (.bool c.1) ∧ wr.cell? ⟨g, off + i * 4 + 1, none⟩ = some (strV c.2.1) ∧ wr.cell? ⟨g, off + i * 4 + 2, none⟩ = some (strV c.2.2.1) ∧ wr.cell? ⟨g, off + i * 4 + 3, none⟩ = some (strV c.2.2.2) :=
              ⟨(HBX.out.cell (p := ⟨g, off + i * 4, none⟩) hgb).trans HCI.out.1, (HBX.out.cell (p := ⟨g, off + i * 4 + 1, none⟩) hgb).trans HCI.out.2.1, (HBX.out.cell (p := ⟨g, off + i * 4 + 2, none⟩) hgb).trans HCI.out.2.2.1, (HBX.out.cell (p := ⟨g, off + i * 4 + 3, none⟩) hgb).trans HCI.out.2.2.2⟩
            by_cases hkn : k < n2
            · have hknI : (k : Int) < (n2 : Int) := by omega
              cases last with
              | false =>
                go_wp2_with fail
                go_region
                go_wp2
                go_roundw
                case rel => exact ⟨k + 1, false, rfl, by go_num, by omega, by omega, (fun h => by cases h), HBX.out.drew⟩
                case measure => simp [intOf]; omega
              | true =>
                obtain ⟨d, hd⟩ : ∃ d, b2[k]? = some d := ⟨_, List.getElem?_eq_getElem (by rw [← HN2.out]; exact hkn)⟩
                obtain ⟨g', off', hao', _, _, hcell'⟩ := (L7.out.chgs H2.out).1.get hd
                injection hao' with hao'
                injection hao' with hg' ho' _
                subst hg' ho'
                obtain ⟨p0, p1, p2, p3⟩ := get4 hcell'
                have heq := eqT d.2 c.2
                by_cases hdc : d.2 = c.2
                · rw [decide_eq_true hdc] at heq
                  clear hd hdc hcell'
                  go_wp2_with fail
                  go_region
                  go_wp2
                  go_roundw
                  case rel => exact ⟨k + 1, false, rfl, by go_num, by omega, by omega, (fun h => by cases h), HBX.out.drew⟩
                  case measure => simp [intOf]; omega
                · have HNx : Hid (∀ (j : Nat) x, i < j → j < k + 1 → b2[j]? = some x → x.2 ≠ c.2) := Hid.mk (fun j x h1 h2 hx => by
                    by_cases e : j = k
                    · subst e
                      rw [hd] at hx
                      rw [← Option.some.inj hx]; exact hdc
                    · exact HLs.out rfl j x h1 (by omega) hx)
                  rw [decide_eq_false hdc] at heq
                  clear hd hdc hcell'
                  go_wp2_with fail
                  go_region
                  go_wp2
                  go_roundw
                  case rel => exact ⟨k + 1, true, rfl, by go_num, by omega, by omega, fun _ => HNx.out, HBX.out.drew⟩
                  case measure => simp [intOf]; omega
            · have hknI : ¬ (k : Int) < (n2 : Int) := by omega
              have CM := Hid.mk (L7.out.match (by simp) 2 c.2)
              rw [show maL [[], F0, G] 2 c.2 = matchT G c.2 from rfl, show maE [[], F0, G] 2 = 0 from rfl] at CM
              have hml := matchT_one HGr.out HCW.out
              have hsay : last = true → (c.2 ∈ G ↔ c.1 = false) := fun h => by
                rw [HG.out]
                exact last_says HC.out (fun j x h1 hx => HLs.out h j x h1 (by have := (List.getElem?_eq_some_iff.1 hx).1; have := HN2.out; omega) hx)
              obtain ⟨ml, hmlx⟩ : ∃ n, n = (matchT G c.2).length := ⟨_, rfl⟩
              rw [← hmlx] at CM hml
              clear hmlx
              obtain ⟨gn, hgn⟩ : ∃ g, g = c.1 := ⟨_, rfl⟩
              rw [← hgn] at q0 hsay HCI
              clear hgn
              cases last with
              | false =>
                clear hml hsay
                go_wp2_with fail
                refine CM.out.mono ?_
                rintro e w8 ⟨a8, k8, rfl, _, hl8, _⟩
                have L8 := Hid.mk hl8
                clear hl8 CM
                go_wp2
                go_roundw
                case rel => exact ⟨i + 1, _, by omega, by go_num, L8.out⟩
                case measure => simp [intOf]; omega
              | true =>
                have hsay := hsay rfl
                cases gn with
                | true =>
                  have hml0 : ml = 0 := by rw [hml, if_neg (fun h => by have := hsay.1 h; cases this)]
                  subst hml0
                  clear hml hsay
                  go_wp2_with fail
                  refine CM.out.mono ?_
                  rintro e w8 ⟨a8, k8, rfl, _, hl8, hb8⟩
                  have L8 := Hid.mk hl8
                  have r0 := (hb8.cell (p := ⟨g, off + i * 4, none⟩) (Nat.lt_of_lt_of_le hgb HBX.out.size)).trans q0
                  clear hl8 CM q0 q1 q2 q3 hb8
                  go_wp2
                  go_roundw
                  case rel => exact ⟨i + 1, _, by omega, by go_num, L8.out⟩
                  case measure => simp [intOf]; omega
                | false =>
                  have hml1 : ml = 1 := by rw [hml, if_pos (hsay.2 rfl)]
                  subst hml1
                  clear hml hsay
                  go_wp2_with fail
                  refine CM.out.mono ?_
                  rintro e w8 ⟨a8, k8, rfl, _, hl8, hb8⟩
                  have L8 := Hid.mk hl8
                  have r0 := (hb8.cell (p := ⟨g, off + i * 4, none⟩) (Nat.lt_of_lt_of_le hgb HBX.out.size)).trans q0
                  clear hl8 CM q0 q1 q2 q3 hb8
                  go_wp2
                  go_roundw
                  case rel => exact ⟨i + 1, _, by omega, by go_num, L8.out⟩
                  case measure => simp [intOf]; omega
        · have hltI : ¬ (i : Int) < (n2 : Int) := by omega
          have CX := Hid.mk L6.out.awake
          have hsum : (lg : Int) ≤ (lw : Int) + (n2 : Int) := by have := HGl.out; omega
          go_wp2_with fail
          refine CX.out.mono ?_
          rintro e w9 ⟨rfl, hb9⟩
          go_wp2
          go_ret
          exact ⟨rfl, hb9⟩
    · obtain ⟨hA, hle⟩ := apE_not hE
      obtain ⟨er, her⟩ : ∃ er, er = apE [[], F0] 2 b2 := ⟨_, rfl⟩
      rw [hA, ← her] at CA
      rw [← her] at hE hle
      have hneI : ((er : Int) != 0) = true := by simp; omega
      have hneI2 : ¬ (er : Int) = 0 := by omega
      clear her hA
      go_wp2_with fail
      refine CA.out.mono ?_
      rintro e w4 ⟨rfl, hl4, hf4⟩
      have T4 := Hid.mk (T3.out.fr hf4)
      have CF := Hid.mk (hl4.facts (by simp) 1)
      rw [show (verO [[], F0] 1).getD [] = F0 from rfl, show maE [[], F0] 1 = 0 from rfl, ← HLW.out] at CF
      clear hl4 hf4 CA T3
      go_wp2_with fail
      refine CF.out.mono ?_
      rintro e w5 ⟨a5, k5, rfl, ht5, hl5, hb5⟩
      have T5 := Hid.mk (T4.out.plus hb5)
      have CS := Hid.mk (same_any T5.out ht5 (by rw [← HLW.out]; omega))
      rw [decide_eq_true rfl] at CS
      have L5 := Hid.mk hl5
      clear ht5 hl5 hb5 CF T4
      go_wp2_with fail
      refine CS.out.mono ?_
      rintro e w6 ⟨rfl, hb6⟩
      have L6 := Hid.mk (L5.out.below hb6)
      have CV := Hid.mk (version_any L6.out.q)
      rw [show (([[], F0] : List (List Tri)).length - 1 : Nat) = 1 from rfl] at CV
      clear hb6 CS
      go_wp2_with fail
      refine CV.out.mono ?_
      rintro e w7 ⟨rfl, hw7⟩
      have hw7 := hw7.symm
      subst hw7
      have CX := Hid.mk L6.out.awake
      go_wp2_with fail
      refine CX.out.mono ?_
      rintro e w8 ⟨rfl, hb8⟩
      go_wp2
      go_ret
      exact ⟨rfl, hb8⟩
  · obtain ⟨hA1, hle1⟩ := apE_not hE1
    obtain ⟨er1, her1⟩ : ∃ er, er = apE [[]] 1 b1 := ⟨_, rfl⟩
    rw [hA1, ← her1] at C1
    rw [← her1] at hE1 hle1
    have hne1 : ((er1 : Int) != 0) = true := by simp; omega
    have hne2 : ¬ (er1 : Int) = 0 := by omega
    clear her1 hA1
    go_wp2_with fail
    refine C1.out.mono ?_
    rintro e w2 ⟨rfl, hl2', _⟩
    have L2 := Hid.mk hl2'
    clear hl2' C1
    have CW := Hid.mk (L2.out.facts (by simp) 0)
    rw [show (verO [[]] 0).getD [] = ([] : List Tri) from rfl, show maE [[]] 0 = 0 from rfl] at CW
    have hFl : (([] : List Tri)).length ≤ 4096 := by
      obtain ⟨ts, hh⟩ := L2.out.hist
      exact hh.few (([] : List Tri)) (by simp)
    have HFr : Hid (Rise (([] : List Tri))) := Hid.mk (by
      obtain ⟨ts, hh⟩ := L2.out.hist
      exact hh.rise (([] : List Tri)) (by simp))
    go_wp2_with fail
    refine CW.out.mono ?_
    rintro e w3 ⟨a3, k3, rfl, ht3, hl3, _⟩
    have T3 := Hid.mk ht3
    have CA := Hid.mk (hl3.apply (hl3.chgs H2.out).1 H2.out.len 1 (by simp))
    clear ht3 hl3 CW L2
    obtain ⟨lw, hlw⟩ : ∃ n, n = (([] : List Tri)).length := ⟨_, rfl⟩
    rw [← hlw] at T3 hFl ⊢
    have HLW := Hid.mk hlw
    clear hlw
    rcases apE_cases0 [[]] 1 b2 with hE | hE
    · obtain ⟨hm, hvv, hgl, hA⟩ := apE_may hE
      clear hvv
      obtain ⟨G, hG⟩ : ∃ G, G = doneT (([] : List Tri)) b2 := ⟨_, rfl⟩
      have hG2 : apA [[]] 1 b2 = [[], G] := by rw [hA, hG]; rfl
      rw [hE, hG2] at CA
      have hgl2 : G.length ≤ 4096 := by rw [hG]; exact hgl
      have HGr : Hid (Rise G) := Hid.mk (by rw [hG]; exact HFr.out.done b2)
      have HGl : Hid (G.length ≤ lw + n2) := Hid.mk (by rw [hG, HLW.out, HN2.out]; exact doneT_len b2 _)
      have HM := Hid.mk hm
      have hb64 : n2 ≤ 64 := by rw [HN2.out]; exact mayT_len hm
      have HG := Hid.mk hG
      clear hm hgl hA hG2 hE hG
      go_wp2_with fail
      refine CA.out.mono ?_
      rintro e w4 ⟨rfl, hl4, _⟩
      have CF := Hid.mk (hl4.facts (by simp) 1)
      rw [show (verO [[], G] 1).getD [] = G from rfl, show maE [[], G] 1 = 0 from rfl] at CF
      clear hl4 CA
      obtain ⟨lg, hlg⟩ : ∃ n, n = G.length := ⟨_, rfl⟩
      rw [← hlg] at CF hgl2 HGl
      clear hlg
      go_wp2_with fail
      refine CF.out.mono ?_
      rintro e w5 ⟨a5, k5, rfl, _, hl5, _⟩
      have L5 := Hid.mk hl5
      clear hl5 CF T3
      go_wp2_with fail
      go_loopw [14] (fun c wr => ∃ (i : Nat) (S : Nat → Prop), i ≤ n2 ∧ c = .int .i64 i ∧ Live w wr S b [[], G]) (fun c _ => n2 - (intOf c).toNat)
      case atStart => exact ⟨0, _, Nat.zero_le _, rfl, L5.out⟩
      case round =>
        obtain ⟨i, S6, hi, rfl, hl6⟩ := hrel
        have L6 := Hid.mk hl6
        clear hl6
        by_cases hlt : i < n2
        · have hltI : (i : Int) < (n2 : Int) := by omega
          obtain ⟨c, hc⟩ : ∃ c, b2[i]? = some c := ⟨_, List.getElem?_eq_getElem (by rw [← HN2.out]; exact hlt)⟩
          have HC := Hid.mk hc
          have HCW := Hid.mk (mayT_word HM.out (List.mem_of_getElem? hc))
          obtain ⟨wx, hwx⟩ : ∃ wx, wx = wr := ⟨_, rfl⟩
          subst hwx
          obtain ⟨g, off, hao, _, hgb, hcell⟩ := (L6.out.chgs H2.out).1.get hc
          subst hao
          have HCI := Hid.mk (get4 hcell)
          clear hc hcell
          go_wp2_with fail
          go_loopw [15, 16] (fun s15 s16 wr => ∃ (k : Nat) (last : Bool), s15 = .bool last ∧ s16 = .int .i64 k ∧ i + 1 ≤ k ∧ k ≤ n2 ∧ (last = true → ∀ (j : Nat) x, i < j → j < k → b2[j]? = some x → x.2 ≠ c.2) ∧ Below wx.heap.size wx wr) (fun _ s16 _ => n2 - (intOf s16).toNat)
          case atStart => exact ⟨i + 1, true, rfl, by go_num, Nat.le_refl _, by omega, fun _ j x h1 h2 => absurd h1 (by omega), Below.refl _ _⟩
          case round =>
            obtain ⟨k, last, rfl, rfl, hik, hk, hlast, hBx⟩ := hrel
            have HLs := Hid.mk hlast
            have HBX := Hid.mk hBx
            have L7 := Hid.mk (L6.out.below hBx)
            clear hlast hBx
            obtain ⟨q0, q1, q2, q3⟩ : wr.cell? ⟨g, off + i * 4, none⟩ = some (.bool c.1) ∧ wr.cell? ⟨g, off + i * 4 + 1, none⟩ = some (strV c.2.1) ∧ wr.cell? ⟨g, off + i * 4 + 2, none⟩ = some (strV c.2.2.1) ∧ wr.cell? ⟨g, off + i * 4 + 3, none⟩ = some (strV c.2.2.2) :=
              ⟨(HBX.out.cell (p := ⟨g, off + i * 4, none⟩) hgb).trans HCI.out.1, (HBX.out.cell (p := ⟨g, off + i * 4 + 1, none⟩) hgb).trans HCI.out.2.1, (HBX.out.cell (p := ⟨g, off + i * 4 + 2, none⟩) hgb).trans HCI.out.2.2.1, (HBX.out.cell (p := ⟨g, off + i * 4 + 3, none⟩) hgb).trans HCI.out.2.2.2⟩
            by_cases hkn : k < n2
            · have hknI : (k : Int) < (n2 : Int) := by omega
              cases last with
              | false =>
                go_wp2_with fail
                go_region
                go_wp2
                go_roundw
                case rel => exact ⟨k + 1, false, rfl, by go_num, by omega, by omega, (fun h => by cases h), HBX.out.drew⟩
                case measure => simp [intOf]; omega
              | true =>
                obtain ⟨d, hd⟩ : ∃ d, b2[k]? = some d := ⟨_, List.getElem?_eq_getElem (by rw [← HN2.out]; exact hkn)⟩
                obtain ⟨g', off', hao', _, _, hcell'⟩ := (L7.out.chgs H2.out).1.get hd
                injection hao' with hao'
                injection hao' with hg' ho' _
                subst hg' ho'
                obtain ⟨p0, p1, p2, p3⟩ := get4 hcell'
                have heq := eqT d.2 c.2
                by_cases hdc : d.2 = c.2
                · rw [decide_eq_true hdc] at heq
                  clear hd hdc hcell'
                  go_wp2_with fail
                  go_region
                  go_wp2
                  go_roundw
                  case rel => exact ⟨k + 1, false, rfl, by go_num, by omega, by omega, (fun h => by cases h), HBX.out.drew⟩
                  case measure => simp [intOf]; omega
                · have HNx : Hid (∀ (j : Nat) x, i < j → j < k + 1 → b2[j]? = some x → x.2 ≠ c.2) := Hid.mk (fun j x h1 h2 hx => by
                    by_cases e : j = k
                    · subst e
                      rw [hd] at hx
                      rw [← Option.some.inj hx]; exact hdc
                    · exact HLs.out rfl j x h1 (by omega) hx)
                  rw [decide_eq_false hdc] at heq
                  clear hd hdc hcell'
                  go_wp2_with fail
                  go_region
                  go_wp2
                  go_roundw
                  case rel => exact ⟨k + 1, true, rfl, by go_num, by omega, by omega, fun _ => HNx.out, HBX.out.drew⟩
                  case measure => simp [intOf]; omega
            · have hknI : ¬ (k : Int) < (n2 : Int) := by omega
              have CM := Hid.mk (L7.out.match (by simp) 1 c.2)
              rw [show maL [[], G] 1 c.2 = matchT G c.2 from rfl, show maE [[], G] 1 = 0 from rfl] at CM
              have hml := matchT_one HGr.out HCW.out
              have hsay : last = true → (c.2 ∈ G ↔ c.1 = false) := fun h => by
                rw [HG.out]
                exact last_says HC.out (fun j x h1 hx => HLs.out h j x h1 (by have := (List.getElem?_eq_some_iff.1 hx).1; have := HN2.out; omega) hx)
              obtain ⟨ml, hmlx⟩ : ∃ n, n = (matchT G c.2).length := ⟨_, rfl⟩
              rw [← hmlx] at CM hml
              clear hmlx
              obtain ⟨gn, hgn⟩ : ∃ g, g = c.1 := ⟨_, rfl⟩
              rw [← hgn] at q0 hsay HCI
              clear hgn
              cases last with
              | false =>
                clear hml hsay
                go_wp2_with fail
                refine CM.out.mono ?_
                rintro e w8 ⟨a8, k8, rfl, _, hl8, _⟩
                have L8 := Hid.mk hl8
                clear hl8 CM
                go_wp2
                go_roundw
                case rel => exact ⟨i + 1, _, by omega, by go_num, L8.out⟩
                case measure => simp [intOf]; omega
              | true =>
                have hsay := hsay rfl
                cases gn with
                | true =>
                  have hml0 : ml = 0 := by rw [hml, if_neg (fun h => by have := hsay.1 h; cases this)]
                  subst hml0
                  clear hml hsay
                  go_wp2_with fail
                  refine CM.out.mono ?_
                  rintro e w8 ⟨a8, k8, rfl, _, hl8, hb8⟩
                  have L8 := Hid.mk hl8
                  have r0 := (hb8.cell (p := ⟨g, off + i * 4, none⟩) (Nat.lt_of_lt_of_le hgb HBX.out.size)).trans q0
                  clear hl8 CM q0 q1 q2 q3 hb8
                  go_wp2
                  go_roundw
                  case rel => exact ⟨i + 1, _, by omega, by go_num, L8.out⟩
                  case measure => simp [intOf]; omega
                | false =>
                  have hml1 : ml = 1 := by rw [hml, if_pos (hsay.2 rfl)]
                  subst hml1
                  clear hml hsay
                  go_wp2_with fail
                  refine CM.out.mono ?_
                  rintro e w8 ⟨a8, k8, rfl, _, hl8, hb8⟩
                  have L8 := Hid.mk hl8
                  have r0 := (hb8.cell (p := ⟨g, off + i * 4, none⟩) (Nat.lt_of_lt_of_le hgb HBX.out.size)).trans q0
                  clear hl8 CM q0 q1 q2 q3 hb8
                  go_wp2
                  go_roundw
                  case rel => exact ⟨i + 1, _, by omega, by go_num, L8.out⟩
                  case measure => simp [intOf]; omega
        · have hltI : ¬ (i : Int) < (n2 : Int) := by omega
          have CX := Hid.mk L6.out.awake
          have hsum : (lg : Int) ≤ (lw : Int) + (n2 : Int) := by have := HGl.out; omega
          go_wp2_with fail
          refine CX.out.mono ?_
          rintro e w9 ⟨rfl, hb9⟩
          go_wp2
          go_ret
          exact ⟨rfl, hb9⟩
    · obtain ⟨hA, hle⟩ := apE_not hE
      obtain ⟨er, her⟩ : ∃ er, er = apE [[]] 1 b2 := ⟨_, rfl⟩
      rw [hA, ← her] at CA
      rw [← her] at hE hle
      have hneI : ((er : Int) != 0) = true := by simp; omega
      have hneI2 : ¬ (er : Int) = 0 := by omega
      clear her hA
      go_wp2_with fail
      refine CA.out.mono ?_
      rintro e w4 ⟨rfl, hl4, hf4⟩
      have T4 := Hid.mk (T3.out.fr hf4)
      have CF := Hid.mk (hl4.facts (by simp) 0)
      rw [show (verO [[]] 0).getD [] = ([] : List Tri) from rfl, show maE [[]] 0 = 0 from rfl, ← HLW.out] at CF
      clear hl4 hf4 CA T3
      go_wp2_with fail
      refine CF.out.mono ?_
      rintro e w5 ⟨a5, k5, rfl, ht5, hl5, hb5⟩
      have T5 := Hid.mk (T4.out.plus hb5)
      have CS := Hid.mk (same_any T5.out ht5 (by rw [← HLW.out]; omega))
      rw [decide_eq_true rfl] at CS
      have L5 := Hid.mk hl5
      clear ht5 hl5 hb5 CF T4
      go_wp2_with fail
      refine CS.out.mono ?_
      rintro e w6 ⟨rfl, hb6⟩
      have L6 := Hid.mk (L5.out.below hb6)
      have CV := Hid.mk (version_any L6.out.q)
      rw [show (([[]] : List (List Tri)).length - 1 : Nat) = 0 from rfl] at CV
      clear hb6 CS
      go_wp2_with fail
      refine CV.out.mono ?_
      rintro e w7 ⟨rfl, hw7⟩
      have hw7 := hw7.symm
      subst hw7
      have CX := Hid.mk L6.out.awake
      go_wp2_with fail
      refine CX.out.mono ?_
      rintro e w8 ⟨rfl, hb8⟩
      go_wp2
      go_ret
      exact ⟨rfl, hb8⟩
end Go.Proofs.Ytiabnjjdeikefaa
