/- The cells of some parts, put together variable by variable. -/
import Derived.Test.YtojjepkmnifngaaHPrts
namespace Go.Proofs.Ytojjepkmnifngaa
open Go.RowKit

theorem own_int {w : World} {B : Nat} {v : Value} {L : List Int} {n : Nat} (h : w.ownsRow B 3 1 v n (L.flatMap csZ)) (hn : n = L.length) : IntZ (fun g => v.ownBlock = some g) w v L := own_sl (enc := csZ) (k := 1) (fun _ => rfl) h hn
theorem cells_range {q : List (Int × Int)} (h : ∀ x ∈ q, 1 ≤ x.1) {c : Int} (hc : c ∈ cellsL q) : 0 ≤ c ∧ c < prodI (q.map (·.1)) := by
  rw [cellsL_eq q h] at hc
  obtain ⟨n, hn, rfl⟩ := List.mem_map.1 (List.mem_filter.1 hc).1
  have := List.mem_range.1 hn
  omega
theorem cells_count {q : List (Int × Int)} (h : ∀ x ∈ q, 1 ≤ x.1) : ((cellsL q).length : Int) ≤ prodI (q.map (·.1)) := by
  have hp := prodI_pos (l := q.map (·.1)) (fun y hy => by obtain ⟨x, hx, rfl⟩ := List.mem_map.1 hy; exact h x hx)
  rw [cellsL_eq q h]
  have := List.length_filter_le (cellB q) (rngI (prodI (q.map (·.1))))
  unfold rngI at this ⊢
  rw [List.length_map, List.length_range] at this
  omega
/-- What cells come of one cell, as far as a part. -/
def putP (s b a : Int) (p : Nat) : List Int := ((List.range p).filter (fun (p : Nat) => decide (b = -1) || decide (b = (p : Int)))).map (fun (p : Nat) => a * s + (p : Int))
theorem putP_all (s b a : Int) : putP s b a s.toNat = putC s b a := rfl
theorem putP_succ (s b a : Int) (p : Nat) : putP s b a (p + 1) = if b = -1 ∨ b = (p : Int) then putP s b a p ++ [a * s + (p : Int)] else putP s b a p := by
  unfold putP
  rw [List.range_succ, List.filter_append, List.map_append]
  by_cases h : b = -1 ∨ b = (p : Int)
  · rw [if_pos h]
    have : (decide (b = -1) || decide (b = (p : Int))) = true := by simpa using h
    simp [this]
  · rw [if_neg h]
    have : (decide (b = -1) || decide (b = (p : Int))) = false := by simpa using h
    simp [this]
theorem putP_len (s b a : Int) (p : Nat) : (putP s b a p).length ≤ p := by
  unfold putP
  rw [List.length_map]
  exact Nat.le_trans (List.length_filter_le _ _) (by simp)
theorem flat_le {C : List Int} {s b : Int} {j : Nat} : ((C.take j).flatMap (putC s b)).length ≤ j * s.toNat := by
  induction j with
  | zero => simp
  | succ j ih =>
    rw [List.take_add_one, List.flatMap_append, List.length_append, Nat.succ_mul]
    have : (C[j]?.toList.flatMap (putC s b)).length ≤ s.toNat := by
      cases C[j]? with
      | none => simp
      | some x => simp only [Option.toList_some, List.flatMap_cons, List.flatMap_nil, List.append_nil]; exact putP_len s b x s.toNat
    omega
set_option maxHeartbeats 4000000 in
set_option maxRecDepth 100000 in
theorem cellsWith_any {S T : Nat → Prop} {w : World} {v1 v2 : Value} {L Bd : List Int} (h1 : IntZ S w v1 L) (h2 : IntZ T w v2 Bd) (hL : okL L = true) (hl : Bd.length = L.length) :
    Calls Try.prog 22 #[v1, v2] w fun e w' => ∃ v, e = .returned v ∧ IntZ (fun k => w.heap.size ≤ k) w' v (cellsL (L.zip Bd)) ∧ Below w.heap.size w w' := by
  obtain ⟨i0, hi0, hz0, hz1, hz2⟩ := info_parts infoZ
  obtain ⟨a1, c1, rfl⟩ := h1.slice
  obtain ⟨a2, c2, rfl⟩ := h2.slice
  have H1 := Hid.mk h1
  have H2 := Hid.mk h2
  have HOK := Hid.mk hL
  rw [hl] at H2 ⊢
  obtain ⟨n, hn⟩ : ∃ n, n = L.length := ⟨_, rfl⟩
  rw [← hn] at H1 H2 ⊢
  have hn16 : n ≤ 16 := by rw [hn]; exact (okL_iff.1 hL).1
  have HN := Hid.mk hn
  have HL := Hid.mk hl
  have HZL : Hid ((L.zip Bd).length = n) := Hid.mk (by rw [List.length_zip, hl, hn]; omega)
  have HZ1 : Hid (∀ i, ((L.zip Bd).take i).map (·.1) = L.take i) := Hid.mk (fun i => by rw [List.map_take, List.map_fst_zip (by omega)])
  have HZP : Hid (∀ i, ∀ x ∈ (L.zip Bd).take i, 1 ≤ x.1) := Hid.mk (fun i x hx => (okL_iff.1 hL).2.1 _ (List.of_mem_zip (List.mem_of_mem_take hx)).1)
  clear h1 h2 hL hn hl
  have hst : IntZ (fun k => w.heap.size ≤ k) (w.alloc (.cells #[.int .i64 0] 3)) (.slice (some ⟨w.heap.size, 0, none⟩) 1 1) [0] := (VRow.sl (enc := csZ) (fun _ => rfl) (t := 3) (L := [0]) (heap_alloc_new w _) rfl).sub (fun b hb _ => by rw [hb]; exact Nat.le_refl _)
  have HST := Hid.mk hst
  have HB0 : Hid (Below w.heap.size w (w.alloc (.cells #[.int .i64 0] 3))) := Hid.mk ((Below.refl _ _).alloc (Nat.le_refl _) _)
  clear hst
  go_enter Try.func22, Try.ntmps22
  go_wp2_with fail
  go_loopw [5, 15] (fun vl c wr => ∃ (i : Nat) (u : Value), u = vl ∧ i ≤ n ∧ c = .int .i64 i ∧ IntZ (fun k => w.heap.size ≤ k) wr u (cellsL ((L.zip Bd).take i)) ∧ Below w.heap.size w wr) (fun _ c _ => n - (intOf c).toNat)
  case atStart => exact ⟨0, _, rfl, Nat.zero_le _, rfl, HST.out, HB0.out⟩
  case round =>
    obtain ⟨i, u, rfl, hi, rfl, hcs, hbw⟩ := hrel
    obtain ⟨wx, hwx⟩ : ∃ wx, wx = wr := ⟨_, rfl⟩
    subst hwx
    obtain ⟨ua, uc, rfl⟩ := hcs.slice
    have HCS := Hid.mk hcs
    have HBW := Hid.mk hbw
    clear hcs hbw
    by_cases hlt : i < n
    · have hltI : (i : Int) < (n : Int) := by omega
      obtain ⟨s, hs⟩ : ∃ s, L[i]? = some s := ⟨_, List.getElem?_eq_getElem (by rw [← HN.out]; exact hlt)⟩
      obtain ⟨b, hb⟩ : ∃ b, Bd[i]? = some b := ⟨_, List.getElem?_eq_getElem (by rw [HL.out, ← HN.out]; exact hlt)⟩
      have hz : (L.zip Bd)[i]? = some (s, b) := by
        rw [List.getElem?_zip_eq_some]; exact ⟨hs, hb⟩
      have HSN : Hid (cellsL ((L.zip Bd).take (i + 1)) = (cellsL ((L.zip Bd).take i)).flatMap (putC s b)) := Hid.mk (by rw [take_snoc hz, cellsL_snoc])
      have HRG : Hid (∀ c ∈ cellsL ((L.zip Bd).take i), 0 ≤ c ∧ c < 64) := Hid.mk (fun c hc => by
        have := cells_range (HZP.out i) hc
        rw [HZ1.out] at this
        have := (okL_iff.1 (ok_take i HOK.out)).2.2
        omega)
      have hcl : (cellsL ((L.zip Bd).take i)).length ≤ 64 := by
        have := cells_count (HZP.out i)
        rw [HZ1.out] at this
        have := (okL_iff.1 (ok_take i HOK.out)).2.2
        omega
      obtain ⟨hs1, hs64⟩ := okL_mem HOK.out (List.mem_of_getElem? hs)
      obtain ⟨m, rfl⟩ : ∃ m : Nat, s = (m : Int) := ⟨s.toNat, by omega⟩
      obtain ⟨g1, o1, e1, _, _, d1⟩ := (H1.out.below HBW.out).get hs
      have q1 := getZ d1
      rw [Nat.mul_one] at q1
      obtain ⟨C, hC⟩ : ∃ C, C = cellsL ((L.zip Bd).take i) := ⟨_, rfl⟩
      rw [← hC] at HSN HRG hcl HCS ⊢
      obtain ⟨nc, hnc⟩ : ∃ nc, nc = C.length := ⟨_, rfl⟩
      rw [← hnc] at hcl HCS ⊢
      have HNC := Hid.mk hnc
      have hm64 : m ≤ 64 := by omega
      have HB2 : Hid (∀ W, Below w.heap.size w W → ∃ g2 o2, a2 = some ⟨g2, o2, none⟩ ∧ W.cell? ⟨g2, o2 + i, none⟩ = some (.int .i64 b)) := Hid.mk (fun W hW => by
        obtain ⟨g2, o2, e2, _, _, d2⟩ := (H2.out.below hW).get hb
        have q2 := getZ d2
        rw [Nat.mul_one] at q2
        exact ⟨g2, o2, e2, q2⟩)
      clear hs hb hz d1 hC hnc
      subst e1
      go_wp2_with fail
      go_loopw [8, 22] (fun vl c wr => ∃ (j : Nat) (u : Value), u = vl ∧ j ≤ nc ∧ c = .int .i64 j ∧ wr.ownsRow wx.heap.size 3 1 u ((C.take j).flatMap (putC (m : Int) b)).length (((C.take j).flatMap (putC (m : Int) b)).flatMap csZ) ∧ Below wx.heap.size wx wr) (fun _ c _ => nc - (intOf c).toNat)
      case atStart => exact ⟨0, _, rfl, Nat.zero_le _, rfl, by simpa using World.ownsRow_nil _ _ _ _, Below.refl _ _⟩
      case round =>
        obtain ⟨j, u2, rfl, hj, rfl, hrow, hbx⟩ := hrel
        obtain ⟨wy, hwy⟩ : ∃ wy, wy = wr := ⟨_, rfl⟩
        subst hwy
        have HROW := Hid.mk hrow
        have HBX := Hid.mk hbx
        clear hrow hbx
        by_cases hltj : j < nc
        · have hltjI : (j : Int) < (nc : Int) := by omega
          obtain ⟨a, ha⟩ : ∃ a, C[j]? = some a := ⟨_, List.getElem?_eq_getElem (by rw [← HNC.out]; exact hltj)⟩
          obtain ⟨ha0, ha64⟩ := HRG.out a (List.mem_of_getElem? ha)
          obtain ⟨g3, o3, e3, _, _, d3⟩ := (HCS.out.below HBX.out).get ha
          have q3 := getZ d3
          rw [Nat.mul_one] at q3
          have HJS : Hid ((C.take (j + 1)).flatMap (putC (m : Int) b) = (C.take j).flatMap (putC (m : Int) b) ++ putC (m : Int) b a) := Hid.mk (by rw [take_snoc ha, List.flatMap_append]; simp)
          have hPl : ((C.take j).flatMap (putC (m : Int) b)).length ≤ 64 * 64 := by
            have h1 := flat_le (C := C) (s := (m : Int)) (b := b) (j := j)
            have h2 : j * (m : Int).toNat ≤ 64 * 64 := Nat.mul_le_mul (by omega) (by omega)
            omega
          obtain ⟨P, hP⟩ : ∃ P, P = (C.take j).flatMap (putC (m : Int) b) := ⟨_, rfl⟩
          rw [← hP] at HROW HJS hPl
          clear ha d3 hP
          subst e3
          go_wp2_with fail
          go_loopw [8, 27] (fun vl c wr => ∃ (p : Nat) (u : Value), u = vl ∧ p ≤ m ∧ c = .int .i64 p ∧ wr.ownsRow wx.heap.size 3 1 u (P ++ putP (m : Int) b a p).length ((P ++ putP (m : Int) b a p).flatMap csZ) ∧ Below wx.heap.size wx wr) (fun _ c _ => m - (intOf c).toNat)
          case atStart => exact ⟨0, _, rfl, Nat.zero_le _, rfl, by simpa [putP] using HROW.out, HBX.out⟩
          case round =>
            obtain ⟨p, u3, rfl, hp, rfl, hrow, hbx⟩ := hrel
            obtain ⟨wz, hwz⟩ : ∃ wz, wz = wr := ⟨_, rfl⟩
            subst hwz
            have hplen := putP_len (m : Int) b a p
            have HPS := Hid.mk (putP_succ (m : Int) b a p)
            have hlen : (P ++ putP (m : Int) b a p).length ≤ 8192 := by rw [List.length_append]; omega
            obtain ⟨Q, hQ⟩ : ∃ Q, Q = P ++ putP (m : Int) b a p := ⟨_, rfl⟩
            have HQ := Hid.mk hQ
            rw [← hQ] at hrow hlen
            obtain ⟨ub, uc3, hu⟩ := own_slice hrow
            obtain ⟨nq, hnq⟩ : ∃ nq, nq = Q.length := ⟨_, rfl⟩
            rw [← hnq] at hrow hu hlen
            subst hu
            have HNQ := Hid.mk hnq
            have HROW3 := Hid.mk hrow
            have HBX3 := Hid.mk hbx
            have HBWZ : Hid (Below w.heap.size w wz) := Hid.mk (HBW.out.trans (hbx.mono HBW.out.size))
            clear hrow hbx hQ hnq hplen
            by_cases hltp : p < m
            · have hltpI : (p : Int) < (m : Int) := by omega
              obtain ⟨g2, o2, e2, q2⟩ := HB2.out wz HBWZ.out
              subst e2
              have hiN : i < n := hlt
              have hmul : 0 ≤ a * (m : Int) ∧ a * (m : Int) ≤ 64 * 64 := ⟨Int.mul_nonneg ha0 (by omega), Int.mul_le_mul (by omega) (by omega) (by omega) (by omega)⟩
              obtain ⟨hm0, hm1⟩ := hmul
              obtain ⟨am, ham⟩ : ∃ am, am = a * (m : Int) := ⟨_, rfl⟩
              have HAM := Hid.mk ham
              by_cases hyes : b = -1 ∨ b = (p : Int)
              · have HQ2 : Hid (P ++ putP (m : Int) b a (p + 1) = Q ++ [a * (m : Int) + (p : Int)]) := Hid.mk (by rw [HPS.out, if_pos hyes, HQ.out, List.append_assoc])
                by_cases hf : b = -1
                · subst hf
                  clear hyes
                  clear ham
                  go_wp2_with (at_builtin; refine wpList_append_lies _ rfl _ _ _ rfl wx.heap.size 3 i0 _ 1 8 Try.underlying24 hi0 hz0 hz1 hz2 rfl (by decide) (.slice ub nq uc3) _ _ (by rfl) (HROW3.out.alloc _) ⟨wz.heap.size, 0, none⟩ 1 1 (csZ (a * (m : Int) + (p : Int))) (by rfl) (by rfl) (World.news_of_block (cs := #[.int .i64 (a * (m : Int) + (p : Int))]) (t := 3) (fr := (0, 0)) (heap_alloc_new wz _)) (by simp [Value.oneCell']) (by decide) (by unfold maxLen; omega) (by omega) (by simp; have := HBX3.out.size; omega) (wz.heap.size + 1) (by simp) ?_)
                  intro gg cap2 w9 hown9 hgrow9 _ _
                  have HB9 : Hid (Below wx.heap.size wx w9) := Hid.mk ((HBX3.out.alloc HBX3.out.size _).grown hgrow9 (by simp; have := HBX3.out.size; omega) (fun k e => (HROW3.out.lt k e).1))
                  have HR9 : Hid (w9.ownsRow wx.heap.size 3 1 (.slice (some ⟨gg, 0, none⟩) (nq + 1) cap2) (P ++ putP (m : Int) (-1) a (p + 1)).length ((P ++ putP (m : Int) (-1) a (p + 1)).flatMap csZ)) := Hid.mk (by
                    rw [HQ2.out, List.length_append, ← HNQ.out, List.flatMap_append]
                    exact hown9)
                  clear hown9 hgrow9
                  go_wp2
                  go_roundw
                  case rel => exact ⟨p + 1, _, rfl, by omega, by go_num, HR9.out, HB9.out⟩
                  case measure => simp [intOf]; omega
                · obtain rfl : b = (p : Int) := by omega
                  obtain ⟨f1, f2⟩ := not_both hf
                  clear hyes hf
                  clear ham
                  go_wp2_with (at_builtin; refine wpList_append_lies _ rfl _ _ _ rfl wx.heap.size 3 i0 _ 1 8 Try.underlying24 hi0 hz0 hz1 hz2 rfl (by decide) (.slice ub nq uc3) _ _ (by rfl) (HROW3.out.alloc _) ⟨wz.heap.size, 0, none⟩ 1 1 (csZ (a * (m : Int) + (p : Int))) (by rfl) (by rfl) (World.news_of_block (cs := #[.int .i64 (a * (m : Int) + (p : Int))]) (t := 3) (fr := (0, 0)) (heap_alloc_new wz _)) (by simp [Value.oneCell']) (by decide) (by unfold maxLen; omega) (by omega) (by simp; have := HBX3.out.size; omega) (wz.heap.size + 1) (by simp) ?_)
                  intro gg cap2 w9 hown9 hgrow9 _ _
                  have HB9 : Hid (Below wx.heap.size wx w9) := Hid.mk ((HBX3.out.alloc HBX3.out.size _).grown hgrow9 (by simp; have := HBX3.out.size; omega) (fun k e => (HROW3.out.lt k e).1))
                  have HR9 : Hid (w9.ownsRow wx.heap.size 3 1 (.slice (some ⟨gg, 0, none⟩) (nq + 1) cap2) (P ++ putP (m : Int) (p : Int) a (p + 1)).length ((P ++ putP (m : Int) (p : Int) a (p + 1)).flatMap csZ)) := Hid.mk (by
                    rw [HQ2.out, List.length_append, ← HNQ.out, List.flatMap_append]
                    exact hown9)
                  clear hown9 hgrow9
                  go_wp2
                  go_roundw
                  case rel => exact ⟨p + 1, _, rfl, by omega, by go_num, HR9.out, HB9.out⟩
                  case measure => simp [intOf]; omega
              · have HR9 : Hid (wz.ownsRow wx.heap.size 3 1 (.slice ub nq uc3) (P ++ putP (m : Int) b a (p + 1)).length ((P ++ putP (m : Int) b a (p + 1)).flatMap csZ)) := Hid.mk (by
                  rw [HPS.out, if_neg hyes, ← HQ.out, ← HNQ.out]
                  exact HROW3.out)
                obtain ⟨f1, f2⟩ := not_both (fun e => hyes (.inl e))
                obtain ⟨f3, f4⟩ := not_both (fun e => hyes (.inr e))
                clear hyes ham
                go_wp2
                go_roundw
                case rel => exact ⟨p + 1, _, rfl, by omega, by go_num, HR9.out, HBX3.out⟩
                case measure => simp [intOf]; omega
            · have hltpI : ¬ (p : Int) < (m : Int) := by omega
              have HR9 : Hid (wz.ownsRow wx.heap.size 3 1 (.slice ub nq uc3) ((C.take (j + 1)).flatMap (putC (m : Int) b)).length (((C.take (j + 1)).flatMap (putC (m : Int) b)).flatMap csZ)) := Hid.mk (by
                have e : p = (m : Int).toNat := by omega
                rw [HJS.out, ← putP_all, ← e, ← HQ.out, ← HNQ.out]
                exact HROW3.out)
              go_wp2
              go_roundw
              case rel => exact ⟨j + 1, _, rfl, by omega, by go_num, HR9.out, HBX3.out⟩
              case measure => simp [intOf]; omega
        · have hltjI : ¬ (j : Int) < (nc : Int) := by omega
          have HCS2 : Hid (IntZ (fun k => w.heap.size ≤ k) wy u2 (cellsL ((L.zip Bd).take (i + 1)))) := Hid.mk (by
            have h := HROW.out
            rw [List.take_of_length_le (by rw [← HNC.out]; omega), ← HSN.out] at h
            refine (own_int h rfl).sub (fun g hg _ => ?_)
            have := (h.lt g hg).1
            have := HBW.out.size
            omega)
          have HBWY : Hid (Below w.heap.size w wy) := Hid.mk (HBW.out.trans (HBX.out.mono HBW.out.size))
          go_wp2
          go_roundw
          case rel => exact ⟨i + 1, _, rfl, by omega, by go_num, HCS2.out, HBWY.out⟩
          case measure => simp [intOf]; omega
    · have hltI : ¬ (i : Int) < (n : Int) := by omega
      have HE : Hid ((L.zip Bd).take i = L.zip Bd) := Hid.mk (List.take_of_length_le (by rw [HZL.out]; omega))
      have HFIN : Hid (IntZ (fun k => w.heap.size ≤ k) wx (.slice ua (cellsL ((L.zip Bd).take i)).length uc) (cellsL (L.zip Bd))) := Hid.mk (by
        rw [show cellsL (L.zip Bd) = cellsL ((L.zip Bd).take i) by rw [HE.out]]
        exact HCS.out)
      go_wp2
      go_ret
      exact ⟨_, rfl, HFIN.out, HBW.out⟩
end Go.Proofs.Ytojjepkmnifngaa
