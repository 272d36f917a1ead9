/- The statement of two orders. -/
import Derived.Test.YtfocpjplokabgaaPOpen
namespace Go.Proofs.Ytfocpjplokabgaa
open Go.RowKit

theorem i64_and65535 (n : Int) : bits .and .i64 n 65535 = n % 65536 := by
  have hm : (BitVec.ofInt 64 65535).toNat = 2 ^ 16 - 1 := by decide
  have key : (BitVec.ofInt 64 n &&& BitVec.ofInt 64 65535).toNat = (n % ((2 ^ 64 : Nat) : Int)).toNat % 2 ^ 16 := by
    rw [BitVec.toNat_and, BitVec.toNat_ofInt, hm, Nat.and_two_pow_sub_one_eq_mod]
  show IntKind.i64.wrap ((BitVec.ofInt 64 n &&& BitVec.ofInt 64 65535).toNat : Nat) = n % 65536
  rw [key, IntKind.wrap_i64]
  omega
/-- A place among six, out of a number. -/
theorem six (n : Int) : ∃ q K : Nat, bits .and .i64 n 65535 = (q : Int) ∧ (q : Int).tmod 6 = (K : Int) ∧ K < 6 ∧ IntKind.i64.wrap (K : Int) = (K : Int) := by
  have h : 0 ≤ n % 65536 := by omega
  refine ⟨(n % 65536).toNat, ((n % 65536).toNat) % 6, by rw [i64_and65535]; omega, ?_, by omega, by rw [IntKind.wrap_i64]; omega⟩
  rw [Int.tmod_eq_emod_of_nonneg (by omega)]
  omega
/-- The six orders, as the statements list them. -/
def ods : List Od := [⟨0, 1, 2⟩, ⟨1, 2, 0⟩, ⟨2, 0, 1⟩, ⟨0, 2, 1⟩, ⟨1, 0, 2⟩, ⟨2, 1, 0⟩]
theorem ods_ok {K : Nat} {o : Od} (h : ods[K]? = some o) : o.ok := by
  have hm := List.mem_of_getElem? h
  simp only [ods, List.mem_cons, List.not_mem_nil, or_false] at hm
  rcases hm with rfl | rfl | rfl | rfl | rfl | rfl <;> (unfold Od.ok; decide)
def odCs : Array Value := #[.int .i64 0, .int .i64 1, .int .i64 2, .int .i64 1, .int .i64 2, .int .i64 0, .int .i64 2, .int .i64 0, .int .i64 1, .int .i64 0, .int .i64 2, .int .i64 1, .int .i64 1, .int .i64 0, .int .i64 2, .int .i64 2, .int .i64 1, .int .i64 0]
theorem ods_at {w : World} {g K : Nat} {o : Od} (h : w.heap[g]? = some (.cells odCs 23 (0, 0))) (hk : ods[K]? = some o) : RowAt w g (K * 3) o.r3 := by
  match K with
  | 0 => obtain rfl := Option.some.inj hk; refine ⟨?_, ?_, ?_⟩ <;> simp [World.cell?, h, odCs, Od.r3]
  | 1 => obtain rfl := Option.some.inj hk; refine ⟨?_, ?_, ?_⟩ <;> simp [World.cell?, h, odCs, Od.r3]
  | 2 => obtain rfl := Option.some.inj hk; refine ⟨?_, ?_, ?_⟩ <;> simp [World.cell?, h, odCs, Od.r3]
  | 3 => obtain rfl := Option.some.inj hk; refine ⟨?_, ?_, ?_⟩ <;> simp [World.cell?, h, odCs, Od.r3]
  | 4 => obtain rfl := Option.some.inj hk; refine ⟨?_, ?_, ?_⟩ <;> simp [World.cell?, h, odCs, Od.r3]
  | 5 => obtain rfl := Option.some.inj hk; refine ⟨?_, ?_, ?_⟩ <;> simp [World.cell?, h, odCs, Od.r3]
  | K + 6 => simp [ods] at hk
theorem nodup_at {l : List R3} (h : l.Nodup) {i j : Nat} {r : R3} (hi : l[i]? = some r) (hj : l[j]? = some r) : i = j := by
  obtain ⟨a1, a2⟩ := List.getElem?_eq_some_iff.1 hi
  obtain ⟨b1, b2⟩ := List.getElem?_eq_some_iff.1 hj
  rcases Nat.lt_trichotomy i j with h1 | h1 | h1
  · have := List.pairwise_iff_getElem.1 h i j a1 b1 h1
    rw [a2, b2] at this; exact absurd rfl this
  · exact h1
  · have := List.pairwise_iff_getElem.1 h j i b1 a1 h1
    rw [a2, b2] at this; exact absurd rfl this
theorem idx_len {o p : Od} {rows l m : List R3} (h1 : IdxOf o rows l) (h2 : IdxOf p rows m) : l.length = m.length :=
  Nat.le_antisymm (nodup_sub_len l m h1.strict.nodup (fun r hr => (h2.mem r).2 ((h1.mem r).1 hr))) (nodup_sub_len m l h2.strict.nodup (fun r hr => (h1.mem r).2 ((h2.mem r).1 hr)))

set_option maxHeartbeats 8000000 in
set_option maxRecDepth 100000 in
theorem permOrders_walk (v : Value) (rs : List R3) (one two : Int) (w : World) (hv : RowsAt w v rs) (_h1 : (Lit.int .i64 one).wf = true) (_h2 : (Lit.int .i64 two).wf = true) :
    Calls Try.prog 6 #[v, .int .i64 one, .int .i64 two] w fun e w' => e = .returned (.bool true) ∧ Below w.heap.size w w' := by
  obtain ⟨W1, hW1⟩ : ∃ W1, W1 = w.alloc (.cells odCs 23) := ⟨_, rfl⟩
  have hb1 : Below w.heap.size w W1 := by rw [hW1]; exact (Below.refl _ _).alloc (Nat.le_refl _) _
  have hblk : W1.heap[w.heap.size]? = some (.cells odCs 23 (0, 0)) := by rw [hW1]; exact box_at w _
  obtain ⟨q1, K1, hq1, hk1, hK1, hkw1⟩ := six one
  obtain ⟨q2, K2, hq2, hk2, hK2, hkw2⟩ := six two
  obtain ⟨o1, ho1⟩ : ∃ o, ods[K1]? = some o := ⟨_, List.getElem?_eq_getElem (by simpa [ods] using hK1)⟩
  obtain ⟨o2, ho2⟩ : ∃ o, ods[K2]? = some o := ⟨_, List.getElem?_eq_getElem (by simpa [ods] using hK2)⟩
  have hr1 := hv.below hb1
  have HV := Hid.mk hr1
  have HO1 := Hid.mk (ods_ok ho1)
  have HO2 := Hid.mk (ods_ok ho2)
  obtain ⟨a0, a1, a2⟩ := ods_at hblk ho1
  have HR2 := Hid.mk (ods_at hblk ho2)
  have HB1 := Hid.mk hb1
  have hlt1 : w.heap.size < W1.heap.size := lt_of_block hblk
  have HW1 : Hid (W1 = w.alloc (.cells #[.int .i64 0, .int .i64 1, .int .i64 2, .int .i64 1, .int .i64 2, .int .i64 0, .int .i64 2, .int .i64 0, .int .i64 1, .int .i64 0, .int .i64 2, .int .i64 1, .int .i64 1, .int .i64 0, .int .i64 2, .int .i64 2, .int .i64 1, .int .i64 0] 23)) := Hid.mk hW1
  obtain ⟨_, _, ao, cap, rfl, _⟩ := hv
  have hK1I : (K1 : Int) < 6 := by omega
  have hK2I : (K2 : Int) < 6 := by omega
  obtain ⟨N, hN⟩ : ∃ N, N = rs.length := ⟨_, rfl⟩
  have HN := Hid.mk hN
  rw [← hN] at HV ⊢
  clear ho1 ho2 hblk hb1 hW1 hr1 hN
  by_cases hbig : 100 < N
  · have hbigI : (100 : Int) < (N : Int) := by omega
    go_enter Try.func6, Try.ntmps6
    go_wp2_with fail
    rw [← HW1.out]
    refine (awake_any _).mono ?_
    rintro e w2 ⟨rfl, hb2⟩
    have HF : Hid (Below w.heap.size w w2) := Hid.mk (HB1.out.trans (hb2.mono HB1.out.size))
    clear hb2
    go_wp2
    go_ret
    exact ⟨rfl, HF.out⟩
  · have hbigI : ¬ (100 : Int) < (N : Int) := by omega
    have C1 := Hid.mk (indx_new HO1.out HV.out HB1.out)
    have q0 := a0
    have q1' := a1
    have q2' := a2
    rw [HW1.out] at q0 q1' q2'
    go_enter Try.func6, Try.ntmps6
    go_wp2_with fail
    rw [← HW1.out]
    refine C1.out.mono ?_
    rintro e w2 ⟨xa, va, La, rfl, hia, hda, hb2⟩
    obtain ⟨b0, b1, b2⟩ := HR2.out.key (hb2.block w.heap.size hlt1)
    have HIA := Hid.mk hia
    have HDA := Hid.mk hda
    have C2 := Hid.mk (indx_new (w := w) HO2.out (HV.out.below hb2) hia.2)
    clear hia hda hb2 a0 a1 a2 q0 q1' q2' C1
    go_wp2_with fail
    refine C2.out.mono ?_
    rintro e w3 ⟨xb, vb, Lb, rfl, hib, hdb, hb3⟩
    have HIA3 := Hid.mk (HIA.out.below hb3)
    have HIB := Hid.mk hib
    have HDB := Hid.mk hdb
    have hla : La.length ≤ 100 := by have := HDA.out.len; rw [← HN.out] at this; omega
    obtain ⟨M, hM⟩ : ∃ M, M = La.length := ⟨_, rfl⟩
    have hMb : Lb.length = M := by rw [hM]; exact (idx_len HDA.out hdb).symm
    have CLA := Hid.mk HIA3.out.len
    have CLB := Hid.mk HIB.out.len
    rw [← hM] at hla CLA
    rw [hMb] at CLB
    have HMA : Hid (La.length = M) := Hid.mk hM.symm
    have HMB := Hid.mk hMb
    clear hib hdb hb3 C2 HIA b0 b1 b2 hM hMb
    go_wp2_with fail
    refine CLA.out.mono ?_
    rintro e w4 ⟨rfl, hw⟩
    subst hw
    go_wp2_with fail
    refine CLB.out.mono ?_
    rintro e w4 ⟨rfl, hw⟩
    subst hw
    go_wp2_with fail
    refine HIA3.out.rows.mono ?_
    rintro e w5 ⟨aa, ca, rfl, hra, hia5, hb5⟩
    have HRA := Hid.mk hra
    have HIB5 := Hid.mk (HIB.out.below hb5)
    rw [HMA.out]
    clear hra hia5 hb5 HIA3 HIB
    go_wp2_with fail
    refine HIB5.out.rows.mono ?_
    rintro e w6 ⟨ab, cb, rfl, hrb, hib6, hb6⟩
    have HRB := Hid.mk hrb
    have HRA6 := Hid.mk (HRA.out.below hb6)
    have HB6 := Hid.mk hib6.2
    rw [HMB.out]
    clear hrb hib6 hb6 HRA HIB5
    go_wp2
    go_loopw [14] (fun c wr => ∃ i q : Nat, i ≤ M ∧ c = .int .i64 i ∧ wr = w6.drewN q) (fun c _ => M - (intOf c).toNat)
    case atStart => exact ⟨0, 0, by omega, rfl, rfl⟩
    case round =>
      obtain ⟨i, q, hi, rfl, rfl⟩ := hrel
      by_cases hlt : i < M
      · have hltI : (i : Int) < (M : Int) := by omega
        obtain ⟨r, hr⟩ : ∃ r, La[i]? = some r := ⟨_, List.getElem?_eq_getElem (by rw [HMA.out]; exact hlt)⟩
        obtain ⟨J, hJ⟩ : ∃ J, Lb[J]? = some r := List.getElem?_of_mem ((HDB.out.mem r).2 ((HDA.out.mem r).1 (List.mem_of_getElem? hr)))
        have HJ := Hid.mk hJ
        have hJM : J < M := by have := (List.getElem?_eq_some_iff.1 hJ).1; rw [HMB.out] at this; exact this
        obtain ⟨_, _, ao1, cap1, e1, hc1⟩ := HRA6.out
        injection e1 with e1 _ e3
        subst e1 e3
        rcases hc1 with h0 | ⟨ga, offa, rfl, _, hga, hca⟩
        · rw [h0] at hr; simp at hr
        obtain ⟨c0, c1, c2⟩ := hca i r hr
        clear hca hr hJ
        go_wp2
        go_loopw [15, 16] (fun s15 s16 wx => ∃ k q2 : Nat, k ≤ M ∧ s16 = .int .i64 k ∧ s15 = .int .i64 (if J < k then 1 else 0) ∧ wx = w6.drewN q2) (fun _ s16 _ => M - (intOf s16).toNat)
        case atStart => exact ⟨0, q, by omega, rfl, by simp, rfl⟩
        case round =>
          obtain ⟨k, q2, hk, rfl, rfl, rfl⟩ := hrel
          by_cases hlt2 : k < M
          · have hlt2I : (k : Int) < (M : Int) := by omega
            obtain ⟨x, hx⟩ : ∃ x, Lb[k]? = some x := ⟨_, List.getElem?_eq_getElem (by rw [HMB.out]; exact hlt2)⟩
            obtain ⟨_, _, ao2, cap2, e1, hc2⟩ := HRB.out
            injection e1 with e1 _ e3
            subst e1 e3
            rcases hc2 with h0 | ⟨gb, offb, rfl, _, hgb, hcb⟩
            · rw [h0] at hx; simp at hx
            obtain ⟨d0, d1, d2⟩ := hcb k x hx
            have heq := eqIn3 r x
            have hJk : r = x ↔ J = k := by
              constructor
              · intro e; subst e; exact nodup_at HDB.out.strict.nodup HJ.out hx
              · intro e; subst e; have := HJ.out; rw [hx] at this; exact (Option.some.inj this).symm
            by_cases hrx : r = x
            · have hJe := hJk.1 hrx
              subst hrx
              rw [decide_eq_true rfl] at heq
              have hv0 : (if J < k then (1 : Int) else 0) = 0 := if_neg (by omega)
              have hv1 : (if J < k + 1 then (1 : Int) else 0) = 1 := if_pos (by omega)
              rw [hv0]
              clear hcb hx hJk hJe
              go_wp2_with fail
              go_region
              go_wp2
              go_roundw
              case rel => exact ⟨k + 1, q2 + 1, by omega, by go_num, by rw [hv1], by simp⟩
              case measure => simp [intOf]; omega
            · have hJe : J ≠ k := fun e => hrx (hJk.2 e)
              rw [decide_eq_false hrx] at heq
              have hv1 : (if J < k + 1 then (1 : Int) else 0) = (if J < k then (1 : Int) else 0) := by
                by_cases h : J < k
                · rw [if_pos h, if_pos (by omega)]
                · rw [if_neg h, if_neg (by omega)]
              obtain ⟨T, hT⟩ : ∃ T : Int, T = (if J < k then (1 : Int) else 0) := ⟨_, rfl⟩
              rw [← hT] at hv1 ⊢
              have HV1 := Hid.mk hv1
              clear hcb hx hJk hJe hT hv1
              go_wp2_with fail
              go_region
              go_wp2
              go_roundw
              case rel => exact ⟨k + 1, q2 + 1, by omega, by go_num, by rw [HV1.out], by simp⟩
              case measure => simp [intOf]; omega
          · have hn2 : ¬ (k : Int) < (M : Int) := by omega
            have hv1 : (if J < k then (1 : Int) else 0) = 1 := if_pos (by omega)
            rw [hv1]
            go_wp2
            go_roundw
            case rel => exact ⟨i + 1, q2, by omega, by go_num, by rfl⟩
            case measure => simp [intOf]; omega
      · have hnI : ¬ (i : Int) < (M : Int) := by omega
        go_wp2_with fail
        refine (awake_any _).mono ?_
        rintro e w7 ⟨rfl, hb7⟩
        have HF : Hid (Below w.heap.size w w7) := Hid.mk (by
          have h8 := below_drewN HB6.out q
          exact h8.trans (hb7.mono h8.size))
        clear hb7
        go_wp2
        go_ret
        exact ⟨rfl, HF.out⟩
end Go.Proofs.Ytfocpjplokabgaa
