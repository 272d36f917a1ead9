/- Facts that are split by their homes are all facts. -/
import Derived.Test.YtiabnjjdeikefabSSplitM
namespace Go.Proofs.Ytiabnjjdeikefab
open Go.RowKit

set_option maxHeartbeats 16000000 in
set_option maxRecDepth 100000 in
theorem storeSplit_walk (v1 : Value) (bt : List Chg) (workers : Int) (w : World) (h1 : ChgsA w v1 bt) (_ : (Lit.int .i64 workers).wf = true) :
    Calls Try.prog 3 #[v1, .int .i64 workers] w fun e w' => e = .returned (.bool true) ∧ Below w.heap.size w w' := by
  obtain ⟨i0, hi0, hz0, hz1, hz2⟩ := info_parts infoC
  obtain ⟨a1, c1, hv1⟩ := h1.1.slice
  subst hv1
  have H1 := Hid.mk h1
  obtain ⟨n1, hn1⟩ : ∃ n, n = bt.length := ⟨_, rfl⟩
  rw [← hn1] at H1 ⊢
  have HN1 := Hid.mk hn1
  have hn1l : n1 ≤ 9223372036854775807 := by rw [hn1]; exact h1.len
  clear hn1 h1
  have hand := i64_mask7 workers 3 7 8 (by omega) (by decide) (by decide)
  obtain ⟨k0, hk0⟩ : ∃ k : Nat, workers % 8 = (k : Int) := ⟨(workers % 8).toNat, by omega⟩
  have hk7 : k0 ≤ 7 := by omega
  rw [hk0] at hand
  clear hk0
  have C0 := Hid.mk (live_new w)
  go_enter Try.func3, Try.ntmps3
  go_wp2_with fail
  obtain ⟨k, hk⟩ : ∃ k : Nat, k = 1 + k0 := ⟨_, rfl⟩
  have hkk : (1 : Int) + (k0 : Int) = (k : Int) := by omega
  have hk1 : 1 ≤ k := by omega
  have hk8 : k ≤ 8 := by omega
  rw [hkk]
  clear hand hkk hk hk7
  refine C0.out.mono ?_
  rintro e w1 ⟨b, rfl, hl1⟩
  have C1 := Hid.mk (hl1.apply (hl1.chgs H1.out).1 H1.out.len 1 (by decide))
  have L1 := Hid.mk hl1
  clear hl1 C0
  rcases apE_cases0 [[]] 1 bt with hE1 | hE1
  · obtain ⟨hm, hvx, hfw, hA⟩ := apE_may hE1
    obtain ⟨F, hF⟩ : ∃ F, F = doneT [] bt := ⟨_, rfl⟩
    have eA : apA [[]] 1 bt = [[], F] := by unfold apA; rw [if_pos hE1, hF]; rfl
    rw [hE1, eA] at C1
    have HS := Hid.mk (fun q => split_apply hm hfw k q)
    rw [← hF] at HS
    have hFl : F.length ≤ 4096 := by rw [hF]; exact hfw
    have HM := Hid.mk hm
    clear hE1 eA hF hm hvx hfw hA L1
    go_wp2_with fail
    refine C1.out.mono ?_
    rintro e w2 ⟨rfl, hl2, _⟩
    have HFr : Hid (Rise F) := Hid.mk (by
      obtain ⟨ts, hh⟩ := hl2.hist
      exact hh.rise F (by simp))
    have HFw : Hid (∀ t ∈ F, isTW t = true) := Hid.mk (by
      obtain ⟨ts, hh⟩ := hl2.hist
      exact hh.word F (by simp))
    have L2 := Hid.mk hl2
    clear hl2 C1
    go_wp2_with fail
    go_loopw [7, 8] (fun s5 s6 wr => ∃ (q : Nat) (S : Nat → Prop), q ≤ k ∧ s5 = .int .i64 (((F.filter (ltH k q)).length : Nat) : Int) ∧ s6 = .int .i64 q ∧ Live w wr S b [[], F]) (fun _ s6 _ => k - (intOf s6).toNat)
    case atStart => exact ⟨0, _, Nat.zero_le _, by rw [ltH_zero]; rfl, rfl, L2.out⟩
    case round =>
      obtain ⟨q, S2, hq, rfl, rfl, hl3⟩ := hrel
      have L3 := Hid.mk hl3
      clear hl3
      obtain ⟨nn, hnn⟩ : ∃ nn, nn = (F.filter (ltH k q)).length := ⟨_, rfl⟩
      have hnl : nn ≤ 4096 := by rw [hnn]; have := List.length_filter_le (ltH k q) F; omega
      rw [← hnn]
      have HNN := Hid.mk hnn
      clear hnn
      by_cases hqk : q < k
      · have hqI : (q : Int) < (k : Int) := by omega
        obtain ⟨r, hr⟩ : ∃ r, r = (q + 1) % k := ⟨_, rfl⟩
        have hrI : ((q : Int) + 1).tmod (k : Int) = (r : Int) := by
          rw [hr, Int.tmod_eq_emod_of_nonneg (by omega)]; push_cast; rfl
        have hr8 : r < k := by rw [hr]; exact Nat.mod_lt _ (by omega)
        have HR := Hid.mk hr
        clear hr
        go_wp2_with fail
        go_loopw [9, 10] (fun s7 s8 wr => ∃ (i : Nat) (S : Nat → Prop) (vl : Value), vl = s7 ∧ i ≤ n1 ∧ s8 = .int .i64 i ∧ Live w wr S b [[], F] ∧ ChR w wr S vl (ofH k q (bt.take i))) (fun _ s8 _ => n1 - (intOf s8).toNat)
        case atStart => exact ⟨0, _, _, rfl, Nat.zero_le _, rfl, L3.out, ChR.nil _ _ _⟩
        case round =>
          obtain ⟨i, S4, vl, rfl, hi, rfl, hl4, hr4⟩ := hrel
          obtain ⟨av, cv, hvl⟩ := own_slice hr4.row
          subst hvl
          have L4 := Hid.mk hl4
          have R4 := Hid.mk hr4
          clear hl4 hr4
          obtain ⟨nl, hnlx⟩ : ∃ nl, nl = (ofH k q (bt.take i)).length := ⟨_, rfl⟩
          have hll : nl ≤ 64 := by
            rw [hnlx]
            have h1 := List.length_filter_le (fun c : Chg => atH k q c.2) (bt.take i)
            have h2 := mayT_len HM.out
            rw [List.length_take] at h1
            unfold ofH; omega
          rw [← hnlx]
          have NLX := Hid.mk hnlx
          clear hnlx
          by_cases hin : i < n1
          · have hinI : (i : Int) < (n1 : Int) := by omega
            obtain ⟨c, hc⟩ : ∃ c, bt[i]? = some c := ⟨_, List.getElem?_eq_getElem (by rw [← HN1.out]; exact hin)⟩
            have HC := Hid.mk hc
            obtain ⟨g, off, hao, _, hgb, hcell⟩ := (L4.out.chgs H1.out).1.get hc
            subst hao
            obtain ⟨p0, p1, p2, p3⟩ := get4 hcell
            have hwl := isW_len (isTW_parts (mayT_word HM.out (List.mem_of_getElem? hc))).1
            have CH := Hid.mk (fun W => rHome_good ⟨c.2.1.toArray⟩ (k : Int) W (by rw [size_list]; omega) (by omega) (by omega) (by rw [size_list]; omega))
            obtain ⟨hv, hhv⟩ : ∃ hv, hv = sumN c.2.1 % k := ⟨_, rfl⟩
            have eHv : ((sumN (ByteArray.mk c.2.1.toArray).data.toList : Nat) : Int) % (k : Int) = (hv : Int) := by rw [hhv]; push_cast; rfl
            rw [eHv] at CH
            have HHV := Hid.mk hhv
            clear hc hcell hwl eHv hhv
            go_wp2_with fail
            refine (CH.out _).mono ?_
            rintro e w5 ⟨rfl, hb5⟩
            have L5 := Hid.mk (L4.out.plus hb5)
            have R5 := Hid.mk (R4.out.plus hb5)
            have r0 := (hb5.cell (p := ⟨g, off + i * 4, none⟩) hgb).trans p0
            have r1 := (hb5.cell (p := ⟨g, off + i * 4 + 1, none⟩) hgb).trans p1
            have r2 := (hb5.cell (p := ⟨g, off + i * 4 + 2, none⟩) hgb).trans p2
            have r3 := (hb5.cell (p := ⟨g, off + i * 4 + 3, none⟩) hgb).trans p3
            have hs5 : w.heap.size ≤ w5.heap.size := L5.out.bel.size
            clear hb5 p0 p1 p2 p3
            by_cases hhq : hv = q
            · have hhI : ((hv : Int) == (q : Int)) = true := by rw [hhq]; simp
              have HR3 : Hid (w5.ownsRow w.heap.size 33 4 (.slice av nl cv) nl ((ofH k q (bt.take i)).flatMap cs4)) := Hid.mk (by have := R5.out.row; rw [← NLX.out] at this; exact this)
              have HY := Hid.mk (ofH_yes HC.out (HHV.out.symm.trans hhq))
              clear hhq
              go_wp2_with (at_builtin; refine wpList_append_lies _ rfl _ _ _ rfl w.heap.size 33 i0 _ 4 56 Try.underlying22 hi0 hz0 hz1 hz2 rfl (by decide) (.slice av nl cv) _ _ (by rfl) (HR3.out.alloc _) ⟨w5.heap.size, 0, none⟩ 1 1 [.bool c.1, strV c.2.1, strV c.2.2.1, strV c.2.2.2] (by rfl) (by rfl) ?d1 ?d2 (by decide) ?d3 ?d4 ?d5 (w5.heap.size + 1) (by simp) ?_)
              case d1 => exact World.news_of_block (cs := #[.bool c.1, strV c.2.1, strV c.2.2.1, strV c.2.2.2]) (t := 33) (fr := (0, 0)) (heap_alloc_new w5 _)
              case d2 => simp [Value.oneCell']
              case d3 => unfold maxLen; omega
              case d4 => omega
              case d5 => simp; omega
              intro g6 cap6 w6 hown6 hgrow6 hat6 hlt6
              have R6 : Hid (ChR w w6 (Plus (Plus S4 wr.heap.size w5.heap.size) w5.heap.size w6.heap.size) (.slice (some ⟨g6, 0, none⟩) (nl + 1) cap6) (ofH k q (bt.take (i + 1)))) := Hid.mk (by
                rw [HY.out, NLX.out]
                refine R5.out.push ?_ (by rw [← NLX.out]; exact hat6) hlt6
                have h2 := hown6
                rw [NLX.out] at h2
                exact h2)
              have L6 := Hid.mk (L5.out.grown ((World.grownBy_alloc w5 (.cells #[.bool c.1, strV c.2.1, strV c.2.2.1, strV c.2.2.2] 33) _).trans hgrow6) (fun g e => ⟨R5.out.inS g (by rw [← NLX.out]; exact e), (R5.out.row.lt g (by rw [← NLX.out]; exact e)).1⟩))
              clear hown6 hgrow6 hat6 hlt6 R4 L4 R5 L5 hs5 r0 r1 r2 r3
              go_wp2
              go_roundw
              case rel => exact ⟨i + 1, _, _, rfl, by omega, by go_num, L6.out, R6.out⟩
              case measure => simp [intOf]; omega
            · have hhI : ((hv : Int) == (q : Int)) = false := by simp; omega
              have HY := Hid.mk (ofH_no HC.out (fun h => hhq (HHV.out.trans h)))
              have R6 : Hid (ChR w w5 (Plus S4 wr.heap.size w5.heap.size) (.slice av nl cv) (ofH k q (bt.take (i + 1)))) := Hid.mk (by rw [HY.out, NLX.out]; exact R5.out)
              clear r0 r1 r2 r3 hhq
              go_wp2
              go_roundw
              case rel => exact ⟨i + 1, _, _, rfl, by omega, by go_num, L5.out, R6.out⟩
              case measure => simp [intOf]; omega
          · have hinI : ¬ (i : Int) < (n1 : Int) := by omega
            have hi2 : i = n1 := by omega
            have eT : ofH k q (bt.take i) = ofH k q bt := by rw [List.take_of_length_le (by rw [← HN1.out]; omega)]
            have HLC : Hid (ChR w wr S4 (.slice av nl cv) (ofH k q bt)) := Hid.mk (by rw [← eT, NLX.out]; exact R4.out)
            have HNL : Hid (nl = (ofH k q bt).length) := Hid.mk (by rw [← eT]; exact NLX.out)
            clear eT NLX R4 hi2 hi
            obtain ⟨Fq, hFq⟩ : ∃ Fq, Fq = F.filter (atH k q) := ⟨_, rfl⟩
            have hfl : Fq.length ≤ 4096 := by rw [hFq]; have := List.length_filter_le (atH k q) F; omega
            have HSum : Hid (nn + Fq.length = (F.filter (ltH k (q + 1))).length) := Hid.mk (by rw [ltH_succ, HNN.out, hFq])
            have HYes : Hid (homesB [[], Fq] (q : Int) (k : Int) = true) := Hid.mk (by rw [hFq]; exact split_homes hk1 (by omega) q F)
            have HNot : Hid (1 < k → ∀ t ∈ Fq, homesB [[], Fq] (r : Int) (k : Int) = false) := Hid.mk (fun h t ht => by
              rw [hFq] at ht ⊢
              rw [HR.out]
              exact split_not h hqk ht)
            have HIn : Hid (∀ t ∈ Fq, t ∈ F) := Hid.mk (fun t ht => by rw [hFq] at ht; exact (List.mem_filter.1 ht).1)
            obtain ⟨hSe, hSa⟩ := HS.out q
            rw [← hFq] at hSa
            have HSe := Hid.mk hSe
            have HSa := Hid.mk hSa
            clear hFq hSe hSa
            have CN := Hid.mk (live_new wr)
            go_wp2_with fail
            refine CN.out.mono ?_
            rintro e w6 ⟨b', rfl, hl6⟩
            have CA := Hid.mk (hl6.apply (own_sl cs4_len (owns_below HLC.out.row hl6.bel) rfl) (by rw [← HNL.out]; omega) 1 (by decide))
            rw [HSe.out, HSa.out] at CA
            clear hl6 CN
            go_wp2_with fail
            refine CA.out.mono ?_
            rintro e w7 ⟨rfl, hl7, _⟩
            have CH := Hid.mk (homes_any hl7.q (by simp) (q : Int) (k : Int))
            rw [HYes.out] at CH
            have L7 := Hid.mk hl7
            clear hl7 CA
            go_wp2_with fail
            refine CH.out.mono ?_
            rintro e w8 ⟨rfl, hb8⟩
            have CF := Hid.mk ((L7.out.below hb8).facts (by simp) 1)
            rw [show (verO [[], Fq] 1).getD [] = Fq from rfl, show maE [[], Fq] 1 = 0 from rfl] at CF
            clear hb8 CH L7
            obtain ⟨nf, hnf⟩ : ∃ nf, nf = Fq.length := ⟨_, rfl⟩
            rw [← hnf] at CF hfl HSum
            have HNF := Hid.mk hnf
            clear hnf
            go_wp2_with fail
            refine CF.out.mono ?_
            rintro e w9 ⟨a9, k9, rfl, ht9, hl9, _⟩
            have T9 := Hid.mk ht9
            have I9 := Hid.mk hl9
            have L9 := Hid.mk (L4.out.plus hl9.bel)
            clear ht9 hl9 CF
            go_wp2_with fail
            go_loopw [16] (fun c wx => ∃ i : Nat, i ≤ nf ∧ c = .int .i64 i ∧ Below w9.heap.size w9 wx) (fun c _ => nf - (intOf c).toNat)
            case atStart => exact ⟨0, Nat.zero_le _, rfl, Below.refl _ _⟩
            case round =>
              rename_i wx
              obtain ⟨j, hj, rfl, hbx⟩ := hrel
              have HBX := Hid.mk hbx
              by_cases hjn : j < nf
              · have hjI : (j : Int) < (nf : Int) := by omega
                obtain ⟨x, hx⟩ : ∃ x, Fq[j]? = some x := ⟨_, List.getElem?_eq_getElem (by rw [← HNF.out]; exact hjn)⟩
                have hxm := List.mem_of_getElem? hx
                obtain ⟨g, off, hao, _, hgb, hcell⟩ := (T9.out.below hbx).get hx
                subst hao
                obtain ⟨p0, p1, p2⟩ := get3 hcell
                have CM := Hid.mk ((L9.out.below hbx).match (by simp) 1 x)
                rw [show maL [[], F] 1 x = matchT F x from rfl, show maE [[], F] 1 = 0 from rfl, matchS_one HFr.out (HFw.out x (HIn.out x hxm)) (HIn.out x hxm)] at CM
                have HNo : Hid (1 < k → homesB [[], Fq] (r : Int) (k : Int) = false) := Hid.mk (fun h => HNot.out h x hxm)
                clear hcell hx hxm hbx
                go_wp2_with fail
                refine CM.out.mono ?_
                rintro e w10 ⟨a10, k10, rfl, _, _, hb10⟩
                have HB10 := Hid.mk (HBX.out.trans (hb10.mono HBX.out.size))
                clear hb10 CM p0 p1 p2
                by_cases hk2 : 1 < k
                · have hk2I : (1 : Int) < (k : Int) := by omega
                  have CI := Hid.mk (homes_any (I9.out.below HB10.out).q (by simp) (r : Int) (k : Int))
                  rw [HNo.out hk2] at CI
                  go_wp2_with fail
                  refine CI.out.mono ?_
                  rintro e w11 ⟨rfl, hb11⟩
                  have HB11 := Hid.mk (HB10.out.trans (hb11.mono HB10.out.size))
                  clear hb11 CI
                  go_wp2
                  go_roundw
                  case rel => exact ⟨j + 1, by omega, by go_num, HB11.out⟩
                  case measure => simp [intOf]; omega
                · have hk2I : ¬ (1 : Int) < (k : Int) := by omega
                  go_wp2
                  go_roundw
                  case rel => exact ⟨j + 1, by omega, by go_num, HB10.out⟩
                  case measure => simp [intOf]; omega
              · have hjI : ¬ (j : Int) < (nf : Int) := by omega
                have L12 := Hid.mk (L9.out.below hbx)
                have HS2 : Hid ((nn : Int) + (nf : Int) = (((F.filter (ltH k (q + 1))).length : Nat) : Int)) := Hid.mk (by rw [← HSum.out]; push_cast; rfl)
                clear hbx
                go_wp2
                go_roundw
                case rel => exact ⟨q + 1, _, by omega, by rw [← HS2.out], by go_num, L12.out⟩
                case measure => simp [intOf]; omega
      · have hqI : ¬ (q : Int) < (k : Int) := by omega
        have hq2 : q = k := by omega
        have HNF : Hid (nn = F.length) := Hid.mk (by rw [HNN.out, hq2, ltH_all (by omega)])
        clear HNN hq2
        have CF := Hid.mk (L3.out.facts (by simp) 1)
        rw [show (verO [[], F] 1).getD [] = F from rfl, show maE [[], F] 1 = 0 from rfl, ← HNF.out] at CF
        go_wp2_with fail
        refine CF.out.mono ?_
        rintro e w4 ⟨a4, k4, rfl, _, hl4, _⟩
        have CX := Hid.mk hl4.awake
        clear hl4 CF
        go_wp2_with fail
        refine CX.out.mono ?_
        rintro e w5 ⟨rfl, hb5⟩
        go_wp2
        go_ret
        exact ⟨rfl, hb5⟩
  · obtain ⟨eA, hle⟩ := apE_not hE1
    rw [eA] at C1
    obtain ⟨er, her⟩ : ∃ er, er = apE [[]] 1 bt := ⟨_, rfl⟩
    rw [← her] at C1 hE1 hle
    have herI : ((er : Int) != 0) = true := by simp; omega
    clear her eA hle hE1 L1
    go_wp2_with fail
    refine C1.out.mono ?_
    rintro e w2 ⟨rfl, hl2, _⟩
    have CX := Hid.mk hl2.awake
    clear hl2 C1
    go_wp2_with fail
    refine CX.out.mono ?_
    rintro e w3 ⟨rfl, hb3⟩
    go_wp2
    go_ret
    exact ⟨rfl, hb3⟩
end Go.Proofs.Ytiabnjjdeikefab
