/- The statement of an index of an index's rows. -/
import Derived.Test.YtfocpjplokabgabPSame
import Derived.Test.YtfocpjplokabgabPOrders
namespace Go.Proofs.Ytfocpjplokabgab
open Go.RowKit Go.Shelf

/-- Three places, from one on. -/
theorem three (n : Int) : ∃ (q : Nat) (o : Od), bits .and .i64 n 65535 = (q : Int) ∧ q < 65536 ∧ o.ok ∧ (q : Int).tmod 3 = (o.x : Int) ∧ ((q : Int) + 1).tmod 3 = (o.y : Int) ∧ ((q : Int) + 2).tmod 3 = (o.z : Int) := by
  refine ⟨(n % 65536).toNat, ⟨(n % 65536).toNat % 3, ((n % 65536).toNat + 1) % 3, ((n % 65536).toNat + 2) % 3⟩, by rw [i64_and65535]; omega, by omega, ?_, ?_, ?_, ?_⟩
  · unfold Od.ok
    simp only
    omega
  · rw [Int.tmod_eq_emod_of_nonneg (by omega)]; simp only; omega
  · rw [Int.tmod_eq_emod_of_nonneg (by omega)]; simp only; omega
  · rw [Int.tmod_eq_emod_of_nonneg (by omega)]; simp only; omega
theorem i64_and255 (n : Int) : bits .and .i64 n 255 = n % 256 := by
  have hm : (BitVec.ofInt 64 255).toNat = 2 ^ 8 - 1 := by decide
  have key : (BitVec.ofInt 64 n &&& BitVec.ofInt 64 255).toNat = (n % ((2 ^ 64 : Nat) : Int)).toNat % 2 ^ 8 := by
    rw [BitVec.toNat_and, BitVec.toNat_ofInt, hm, Nat.and_two_pow_sub_one_eq_mod]
  show IntKind.i64.wrap ((BitVec.ofInt 64 n &&& BitVec.ofInt 64 255).toNat : Nat) = n % 256
  rw [key, IntKind.wrap_i64]
  omega

/-- Rows from one on, round and round. -/
def turned (rs : List R3) (c i : Nat) : List R3 := (List.range i).map (fun k => rs.getD ((k + c) % rs.length) default)
theorem turned_len (rs : List R3) (c i : Nat) : (turned rs c i).length = i := by simp [turned]
theorem turned_succ {rs : List R3} {c i : Nat} {r : R3} (h : rs[(i + c) % rs.length]? = some r) : turned rs c (i + 1) = turned rs c i ++ [r] := by
  unfold turned
  rw [List.range_succ, List.map_append, List.map_singleton, List.getD, h]
  rfl
theorem turned_mem (rs : List R3) (c : Nat) (r : R3) : r ∈ turned rs c (2 * rs.length) ↔ r ∈ rs := by
  unfold turned
  rw [List.mem_map]
  constructor
  · rintro ⟨k, hk, rfl⟩
    have hk := List.mem_range.1 hk
    have hlt : (k + c) % rs.length < rs.length := Nat.mod_lt _ (by omega)
    rw [List.getD, List.getElem?_eq_getElem hlt]
    exact List.getElem_mem hlt
  · intro hr
    obtain ⟨j, hj⟩ := List.getElem?_of_mem hr
    have hjl := (List.getElem?_eq_some_iff.1 hj).1
    have hcl : c % rs.length < rs.length := Nat.mod_lt _ (by omega)
    have hcd := Nat.div_add_mod c rs.length
    refine ⟨j + rs.length - c % rs.length, List.mem_range.2 (by omega), ?_⟩
    have e : (j + rs.length - c % rs.length + c) % rs.length = j := by
      have e2 : j + rs.length - c % rs.length + c = j + rs.length * (c / rs.length + 1) := by
        rw [Nat.mul_add, Nat.mul_one]
        generalize rs.length * (c / rs.length) = X at *
        omega
      rw [e2, Nat.add_mul_mod_self_left, Nat.mod_eq_of_lt hjl]
    rw [e, List.getD, hj]
    rfl

set_option maxHeartbeats 8000000 in
set_option maxRecDepth 100000 in
theorem permTwice_walk (v : Value) (rs : List R3) (turn : Int) (w : World) (hv : RowsAt w v rs) (_h2 : (Lit.int .i64 turn).wf = true) :
    Calls Try.prog 3 #[v, .int .i64 turn] w fun e w' => e = .returned (.bool true) ∧ Below w.heap.size w w' := by
  obtain ⟨q, o, hq, hq2, ho, t0, t1, t2⟩ := three turn
  obtain ⟨W1, hW1⟩ : ∃ W1, W1 = w.alloc (.cells #[.int .i64 (o.x : Int), .int .i64 (o.y : Int), .int .i64 (o.z : Int)] 24) := ⟨_, rfl⟩
  have hb1 : Below w.heap.size w W1 := by rw [hW1]; exact (Below.refl _ _).alloc (Nat.le_refl _) _
  have hblk : RowB W1 w.heap.size o.r3 := by rw [hW1]; exact box_at w _
  have HV0 := Hid.mk hv
  have HV := Hid.mk (hv.below hb1)
  have C1 := Hid.mk (indx_new (w := w) ho HV.out hb1)
  have HRB := Hid.mk hblk
  have HW1 := Hid.mk hW1
  have HB1 := Hid.mk hb1
  have HO := Hid.mk ho
  obtain ⟨_, hwf, ao, cap, rfl, _⟩ := hv
  have HWF := Hid.mk hwf
  obtain ⟨N, hN⟩ : ∃ N, N = rs.length := ⟨_, rfl⟩
  have HN := Hid.mk hN
  rw [← hN] at C1 HV HV0 ⊢
  clear hN hwf hb1 hblk hW1 ho
  by_cases hbig : 60 < N
  · have hbigI : (60 : Int) < (N : Int) := by omega
    go_enter Try.func3, Try.ntmps3
    go_wp2_with fail
    refine (awake_any _).mono ?_
    rintro e w3 ⟨rfl, hb3⟩
    have HF := Hid.mk hb3
    clear hb3
    go_wp2
    go_ret
    exact ⟨rfl, HF.out⟩
  · have hbigI : ¬ (60 : Int) < (N : Int) := by omega
    have hx3 : (o.x : Int) < 3 := by have := HO.out.1.1; omega
    have hy3 : (o.y : Int) < 3 := by have := HO.out.1.2.1; omega
    have hz3 : (o.z : Int) < 3 := by have := HO.out.1.2.2; omega
    have wx : IntKind.i64.wrap (o.x : Int) = (o.x : Int) := by rw [IntKind.wrap_i64]; omega
    have wy : IntKind.i64.wrap (o.y : Int) = (o.y : Int) := by rw [IntKind.wrap_i64]; omega
    have wz : IntKind.i64.wrap (o.z : Int) = (o.z : Int) := by rw [IntKind.wrap_i64]; omega
    have wq1 : IntKind.i64.wrap ((q : Int) + 1) = (q : Int) + 1 := by rw [IntKind.wrap_i64]; omega
    have wq2 : IntKind.i64.wrap ((q : Int) + 2) = (q : Int) + 2 := by rw [IntKind.wrap_i64]; omega
    go_enter Try.func3, Try.ntmps3
    go_wp2_with fail
    rw [← HW1.out]
    refine C1.out.mono ?_
    rintro e w2 ⟨xx, vx, L, rfl, hix, hdx, hb2⟩
    have HIX := Hid.mk hix
    have HDX := Hid.mk hdx
    have HRB2 := Hid.mk (HRB.out.below hb2)
    have HV2 := Hid.mk (HV.out.below hb2)
    clear hix hdx hb2 C1 t0 t1 t2 wq1 wq2
    have HC : Hid (∀ w5, RowB w5 w.heap.size o.r3 → w5.cell? ⟨w.heap.size, 0, none⟩ = some (.int .i64 (o.x : Int)) ∧ w5.cell? ⟨w.heap.size, 1, none⟩ = some (.int .i64 (o.y : Int)) ∧ w5.cell? ⟨w.heap.size, 2, none⟩ = some (.int .i64 (o.z : Int))) := Hid.mk (fun w5 h5 => ⟨(h5.cell (p := 0) (by omega)).1, (h5.cell (p := 1) (by omega)).1, (h5.cell (p := 2) (by omega)).1⟩)
    obtain ⟨k0, k1, k2⟩ := HC.out w2 HRB2.out
    have hD2 : Below w2.heap.size w2 w2.drew := (Below.refl _ _).drew
    have CR := Hid.mk (HIX.out.below hD2).rows
    have HD2 := Hid.mk hD2
    clear hD2
    go_wp2_with fail
    go_region_held3 (fun w' => w'.cell? ⟨w.heap.size, 0, none⟩ = some (.int .i64 (o.x : Int)) ∧ w'.cell? ⟨w.heap.size, 1, none⟩ = some (.int .i64 (o.y : Int)) ∧ w'.cell? ⟨w.heap.size, 2, none⟩ = some (.int .i64 (o.z : Int)))
      (first | exact ⟨k0, k1, k2⟩ | (exact ⟨by assumption, by assumption, by assumption⟩))
      (first
        | (go_at_call 6; refine CR.out.mono ?_; rintro e w3 ⟨a3, c3, rfl, hra, hix3, hb3⟩; have HRB3 := Hid.mk ((HRB2.out.below HD2.out).below hb3); obtain ⟨m0, m1, m2⟩ := HC.out w3 HRB3.out; have HRA3 := Hid.mk hra; have HIX3 := Hid.mk hix3; have HV3 := Hid.mk ((HV2.out.below HD2.out).below hb3); clear hra hix3 hb3)
        | (go_at_call 5; refine (indx_new (w := w) HO.out HRA3.out HIX3.out.2).mono ?_; rintro e w4 ⟨xy, vy, Ly, rfl, hiy, hdy, hb4⟩; have HRB4 := Hid.mk (HRB3.out.below hb4); obtain ⟨l0, l1, l2⟩ := HC.out w4 HRB4.out; have HIY := Hid.mk hiy; have HDY := Hid.mk hdy; have HIX4 := Hid.mk (HIX3.out.below hb4); have HV4 := Hid.mk (HV3.out.below hb4); clear hiy hdy hb4))
    have HLY : Hid (Ly = L) := Hid.mk (HDY.out.unique HDX.out (fun r => HDX.out.mem r))
    have HB4 := Hid.mk HIY.out.2
    clear k0 k1 k2 m0 m1 m2 l0 l1 l2 CR
    obtain ⟨c, hc⟩ : ∃ c : Nat, bits .and .i64 (turn / 16) 255 = (c : Int) ∧ c < 256 := ⟨(turn / 16 % 256).toNat, by rw [i64_and255]; omega, by omega⟩
    obtain ⟨hc, hc2⟩ := hc
    obtain ⟨i0, hi0, hz0, hz1, hz2⟩ := info_parts infoR
    go_wp2
    obtain ⟨W, hW⟩ : ∃ W, W = w4 := ⟨_, rfl⟩
    subst hW
    go_loopw [10, 11] (fun s10 s11 wr => ∃ (i : Nat) (d : List R3), s11 = .int .i64 i ∧ i ≤ 2 * N ∧ d = turned rs c i ∧ wr.ownsRow W.heap.size 24 3 s10 i (rowCs d) ∧ Below W.heap.size W wr) (fun _ s11 _ => 2 * N - (intOf s11).toNat)
    case atStart => exact ⟨0, [], rfl, by omega, rfl, World.ownsRow_nil _ W.heap.size _ _, Below.refl _ _⟩
    case round =>
      obtain ⟨i, d, rfl, hi, hd, hown, hbw⟩ := hrel
      obtain ⟨a5, c5, rfl⟩ := own_slice hown
      have HOWN := Hid.mk hown
      have HBW := Hid.mk hbw
      have HD := Hid.mk hd
      clear hown hbw hd
      by_cases hlt : i < 2 * N
      · have hltI : (i : Int) < 2 * (N : Int) := by omega
        have hN0 : 0 < N := by omega
        obtain ⟨J, hJ⟩ : ∃ J, J = (i + c) % N := ⟨_, rfl⟩
        have hJN : J < N := by rw [hJ]; exact Nat.mod_lt _ hN0
        have hrem : ((i : Int) + (c : Int)).tmod (N : Int) = (J : Int) := by
          rw [Int.tmod_eq_emod_of_nonneg (by omega), hJ]
          exact (Int.natCast_emod (i + c) N).symm
        have hrem2 : ((i : Int) + (c : Int)) % (N : Int) = (J : Int) := by
          rw [hJ]
          exact (Int.natCast_emod (i + c) N).symm
        have hN0I : ¬ (N : Int) = 0 := by omega
        have hJI : (J : Int) < (N : Int) := by omega
        have wJ : IntKind.i64.wrap (J : Int) = (J : Int) := by rw [IntKind.wrap_i64]; omega
        obtain ⟨r, hr⟩ : ∃ r, rs[J]? = some r := ⟨_, List.getElem?_eq_getElem (by rw [← HN.out]; exact hJN)⟩
        obtain ⟨_, _, ao6, cap6, e1, hc6⟩ := HV4.out
        injection e1 with e1 e2 e3
        subst e1 e3
        clear e2
        rcases hc6 with h0 | ⟨g6, off6, rfl, _, hg6, hcs6⟩
        · rw [h0] at hr; simp at hr
        obtain ⟨x0, x1, x2⟩ := hcs6 J r hr
        have y0 := (HBW.out.cell (p := ⟨g6, off6 + J * 3, none⟩) hg6).trans x0
        have y1 := (HBW.out.cell (p := ⟨g6, off6 + J * 3 + 1, none⟩) hg6).trans x1
        have y2 := (HBW.out.cell (p := ⟨g6, off6 + J * 3 + 2, none⟩) hg6).trans x2
        have HT : Hid (turned rs c (i + 1) = d ++ [r]) := Hid.mk (by
          rw [turned_succ (r := r) (by rw [← HN.out, ← hJ]; exact hr), HD.out])
        clear hr hcs6 x0 x1 x2 hJ
        go_wp2_with (at_builtin; refine wpList_append_lies _ rfl _ _ _ rfl W.heap.size 24 i0 _ 3 24 Try.underlying22 hi0 hz0 hz1 hz2 rfl (by decide) (.slice a5 i c5) _ _ (by rfl) (HOWN.out.alloc _) ⟨wr.heap.size, 0, none⟩ 1 1 (enc3 r) (by rfl) (by rfl) ?d1 ?d2 (by decide) ?d3 ?d4 ?d5 (wr.heap.size + 1) (by simp) ?_)
        case d1 => exact World.news_of_block (cs := #[.int .i64 r.a, .int .i64 r.b, .int .i64 r.c]) (t := 24) (fr := (0, 0)) (heap_alloc_new wr _)
        case d2 => intro u hu; simp [enc3] at hu; rcases hu with rfl | rfl | rfl <;> rfl
        case d3 => unfold maxLen; omega
        case d4 => omega
        case d5 => have := HBW.out.size; simp; omega
        intro gg cap7 w7 hown7 hgrow7 _ _
        have HB7 : Hid (Below W.heap.size W w7) := Hid.mk ((HBW.out.alloc HBW.out.size _).grown hgrow7 (by have := HBW.out.size; simp; omega) (fun k hk => (HOWN.out.lt k hk).1))
        have HO7 := Hid.mk hown7
        clear hown7 hgrow7
        go_wp2
        go_roundw
        case rel => exact ⟨i + 1, d ++ [r], by go_num, by omega, HT.out.symm, by rw [rowCs_snoc]; exact HO7.out, HB7.out⟩
        case measure => simp [intOf]; omega
      · have hnI : ¬ (i : Int) < 2 * (N : Int) := by omega
        have hie : i = 2 * N := by omega
        have hdl : d.length = i := by rw [HD.out, turned_len]
        have hmem : ∀ r, r ∈ d ↔ r ∈ rs := by rw [HD.out, hie, HN.out]; exact turned_mem rs c
        have HMEM := Hid.mk hmem
        have HRD : Hid (RowsAt wr (.slice a5 i c5) d) := Hid.mk (own_rows (by rw [hdl]; exact HOWN.out) (by omega) (fun r hr => HWF.out r ((hmem r).1 hr)))
        have HIX5 := Hid.mk (HIX4.out.below HBW.out)
        have HIY5 := Hid.mk (HIY.out.below HBW.out)
        have HRB5 := Hid.mk (HRB4.out.below HBW.out)
        obtain ⟨k0, k1, k2⟩ := HC.out wr HRB5.out
        have C8 := Hid.mk (indx_new (w := w) HO.out HRD.out HIX5.out.2)
        clear hmem hdl hie HIX4 HIY HIX3 HIX
        go_wp2_with fail
        refine C8.out.mono ?_
        rintro e w8 ⟨xz, vz, Lz, rfl, hiz, hdz, hb8⟩
        have HLZ : Hid (Lz = L) := Hid.mk (hdz.unique HDX.out HMEM.out)
        have X8 := Hid.mk (HIX5.out.below hb8)
        have Y8 := Hid.mk (HIY5.out.below hb8)
        rw [HLY.out] at Y8
        rw [HLZ.out] at hiz
        have Z8 := Hid.mk hiz
        have hLN : L.length ≤ N := by have := HDX.out.len; rw [← HN.out] at this; exact this
        clear hiz hdz hb8 C8 k0 k1 k2
        obtain ⟨M, hM⟩ : ∃ M, M = L.length := ⟨_, rfl⟩
        have HM := Hid.mk hM
        rw [← hM] at hLN
        clear hM
        have hLNI : (M : Int) ≤ (N : Int) := by omega
        go_wp2_with fail
        refine X8.out.rows.mono ?_
        rintro e w9 ⟨a9, c9, rfl, hr9, hx9, hb9⟩
        have X9 := Hid.mk hx9
        have R9 := Hid.mk hr9
        have Y9 := Hid.mk (Y8.out.below hb9)
        have Z9 := Hid.mk (Z8.out.below hb9)
        clear hr9 hx9 hb9 X8 Y8 Z8
        rw [← HM.out] at R9 ⊢
        go_wp2_with fail
        refine Y9.out.rows.mono ?_
        rintro e w10 ⟨a10, c10, rfl, hr10, hy10, hb10⟩
        have R10 := Hid.mk hr10
        have R9' := Hid.mk (R9.out.below hb10)
        have X10 := Hid.mk (X9.out.below hb10)
        have Z10 := Hid.mk (Z9.out.below hb10)
        rw [← HM.out] at R10 ⊢
        clear hr10 hy10 hb10 X9 Y9 Z9 R9
        go_wp2_with fail
        refine (same_any R9'.out R10.out).mono ?_
        rintro e w11 ⟨rfl, hb11⟩
        have X11 := Hid.mk (X10.out.below hb11)
        have Z11 := Hid.mk (Z10.out.below hb11)
        clear hb11 X10 Z10 R9' R10
        go_wp2_with fail
        refine X11.out.rows.mono ?_
        rintro e w12 ⟨a12, c12, rfl, hr12, hx12, hb12⟩
        have X12 := Hid.mk hx12
        have R12 := Hid.mk hr12
        have Z12 := Hid.mk (Z11.out.below hb12)
        rw [← HM.out] at R12 ⊢
        clear hr12 hx12 hb12 X11 Z11
        go_wp2_with fail
        refine Z12.out.rows.mono ?_
        rintro e w13 ⟨a13, c13, rfl, hr13, hz13, hb13⟩
        have R13 := Hid.mk hr13
        have R12' := Hid.mk (R12.out.below hb13)
        have X13 := Hid.mk (X12.out.below hb13)
        rw [← HM.out] at R13 ⊢
        clear hr13 hz13 hb13 X12 Z12 R12
        go_wp2_with fail
        refine (same_any R12'.out R13.out).mono ?_
        rintro e w14 ⟨rfl, hb14⟩
        have X14 := Hid.mk (X13.out.below hb14)
        clear hb14 X13 R12' R13
        have CL := Hid.mk X14.out.len
        rw [← HM.out] at CL
        go_wp2_with fail
        refine CL.out.mono ?_
        rintro e w15 ⟨rfl, hw⟩
        subst hw
        go_wp2_with fail
        refine (awake_any _).mono ?_
        rintro e w16 ⟨rfl, hb16⟩
        have HF : Hid (Below w.heap.size w w16) := Hid.mk (X14.out.2.trans (hb16.mono X14.out.2.size))
        clear hb16
        go_wp2
        go_ret
        exact ⟨rfl, HF.out⟩
end Go.Proofs.Ytfocpjplokabgab
