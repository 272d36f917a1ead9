/- ModelNames: the walk. (Written by a program.) -/
import Derived.Test.YtkbgmcmcpbegjaaGreatDoorNNameM
import Derived.Test.YtkbgmcmcpbegjaaGreatDoorMG50
import Derived.Test.YtkbgmcmcpbegjaaGreatDoorMG10
import Derived.Test.YtkbgmcmcpbegjaaGreatDoorMG41
import Derived.Test.YtkbgmcmcpbegjaaGreatDoorMG35
import Derived.Test.YtkbgmcmcpbegjaaGreatDoorMG53
import Derived.Test.YtkbgmcmcpbegjaaGreatDoorMG38
import Derived.Test.YtkbgmcmcpbegjaaGreatDoorMG39
import Derived.Test.YtkbgmcmcpbegjaaGreatDoorMG45
import Derived.Test.YtkbgmcmcpbegjaaGreatDoorMG29
import Derived.Test.YtkbgmcmcpbegjaaGreatDoorMG0
namespace Go.Proofs.YtkbgmcmcpbegjaaGreatDoor
open Go.RowKit Go.Shelf

theorem infoAN : (Tryz.prog.info? 55).map (fun i => (i.zero, i.size, i.bytes)) = some (some (.agg #[.bool false, .string ⟨#[]⟩, .int .i64 0, .string ⟨#[]⟩, .slice none 0 0, .bool false, .string ⟨#[]⟩]), 7, 96) := by kernel_rfl
theorem cells2N {w : World} {b : Nat} {c0 c1 : Value} {t : TypeId} (h : w.heap[b]? = some (.cells #[c0, c1] t (0, 0))) :
    (w.cell? ⟨b, 0, none⟩ = some c0 ∧ w.cell? ⟨b, 1, none⟩ = some c1) ∧ (w.frozen? ⟨b, 0, none⟩ = false ∧ w.frozen? ⟨b, 1, none⟩ = false) := by
  simp [World.cell?, World.frozen?, h]
theorem set2N {w : World} {b : Nat} {c0 c1 v : Value} {t : TypeId} (h : w.heap[b]? = some (.cells #[c0, c1] t (0, 0))) : (w.setCell ⟨b, 1, none⟩ v).heap[b]? = some (.cells #[c0, v] t (0, 0)) := by
  simp [World.setCell, Array.getElem?_modify, h]
theorem set2N0 {w : World} {b : Nat} {c0 c1 v : Value} {t : TypeId} (h : w.heap[b]? = some (.cells #[c0, c1] t (0, 0))) : (w.setCell ⟨b, 0, none⟩ v).heap[b]? = some (.cells #[v, c1] t (0, 0)) := by
  simp [World.setCell, Array.getElem?_modify, h]
theorem cat_kN (s : Wd) : (⟨#[122, 57]⟩ : ByteArray) ++ ⟨s.toArray⟩ = ⟨(kN s).toArray⟩ := by
  apply ByteArray.ext
  simp [kN]
/-- An atom whose variables are called otherwise. -/
def reM (a : Am) : Am := (reT kN a.1, a.2.1, reT kN a.2.2)
theorem reM_pa (a : Am) : (reM a).pa = reA kN a.pa := rfl
/-- The rows of a query of other names, as a contract. -/
theorem rows_named {w : World} {vf ex ey : Value} {fs : List Fa} {q : Qm} (hq : QOk (fun _ => True) w q) (hf : FasS (fun _ => True) w vf fs) (hfl : fs.length ≤ 1000) (hw : ∀ f ∈ fs, f.1.length ≤ 140737488351232 ∧ f.2.1.length ≤ 140737488351232 ∧ f.2.2.length ≤ 140737488351232) (hT : TabG w)
    (hm : mayQ q.vars (q.atoms.map Am.pa) = true) (hl : ∀ a ∈ q.atoms, a.1.2.length ≤ 12 ∧ a.2.2.2.length ≤ 12) (hlv : ∀ v ∈ q.vars, v.length ≤ 12) (hv : TxtS (fun _ => True) w ex (q.vars.map kN)) (hc : CapS ex (q.vars.map kN).length) (ha : AtsS (fun _ => True) w ey (q.atoms.map reM)) :
    Calls Tryz.prog 19 #[vf, .agg #[ex, ey]] w fun e w' => ∃ v, e = .returned (.tuple #[v, .int .i64 (rowsEW fs q.vars (q.atoms.map Am.pa))]) ∧ RowsM w' v (rowsAW fs q.vars (q.atoms.map Am.pa)) ∧ Below w.heap.size w w' := by
  have hre : ∀ (t : Tm), t.2.length ≤ 12 → (reT kN t).2.length ≤ 140737488351232 := fun t ht => by
    obtain ⟨b, s⟩ := t
    dsimp only at ht
    cases b
    · show s.length ≤ _
      omega
    · show (kN s).length ≤ _
      simp [kN]
      omega
  have hq2 : QOk (fun _ => True) w ⟨ex, q.vars.map kN, ey, q.atoms.map reM⟩ := ⟨hv, fun s hs => by
      obtain ⟨v, hv, rfl⟩ := List.mem_map.1 hs
      have := hlv v hv
      simp [kN]
      omega, by show (q.vars.map kN).length ≤ _; rw [List.length_map]; exact hq.vl, hc, ha, fun a h => by
      obtain ⟨b, hb, rfl⟩ := List.mem_map.1 h
      exact hq.ok b hb, fun a h => by
      obtain ⟨b, hb, rfl⟩ := List.mem_map.1 h
      exact ⟨hre _ (hl b hb).1, hre _ (hl b hb).2⟩, by show (q.atoms.map reM).length ≤ _; rw [List.length_map]; exact hq.al⟩
  have h := rowsM_any hf hfl hw hq2 hT
  have e1 : (q.atoms.map reM).map Am.pa = (q.atoms.map Am.pa).map (reA kN) := by
    rw [List.map_map, List.map_map]
    exact List.map_congr_left (fun a _ => reM_pa a)
  obtain ⟨k1, k2⟩ := rows_kN fs hm (fun a ha => by
    obtain ⟨b, hb, rfl⟩ := List.mem_map.1 ha
    exact hl b hb)
  unfold RwE at h
  dsimp only at h
  rw [e1, k1, k2] at h
  exact h
set_option maxHeartbeats 16000000 in
set_option maxRecDepth 100000 in
theorem modelNames_walk (vf : Value) (fs : List Fa) (q : Qm) (w : World) (hf : FasS (fun _ => True) w vf fs) (hs : FinF vf fs) (hq : QOk (fun _ => True) w q) (hc : CapS q.av q.atoms.length ∧ q.atoms.length ≤ 1500000000000) (hT : TabG w) :
    Calls Tryz.prog 8 #[vf, encQ q] w fun e w' => e = .returned (.bool true) ∧ Below w.heap.size w w' := by
  obtain ⟨hlf, hw, _⟩ := hs
  obtain ⟨fa, fc, rfl⟩ := hf.slice
  have hz0 : 0 < w.heap.size := World.block_lt_of_cell? _ _ (hT 0 (by decide))
  obtain ⟨n, hn⟩ : ∃ n, n = fs.length := ⟨_, rfl⟩
  obtain ⟨na, hna⟩ : ∃ n, n = q.atoms.length := ⟨_, rfl⟩
  obtain ⟨nv, hnv⟩ : ∃ n, n = q.vars.length := ⟨_, rfl⟩
  obtain ⟨M, hM⟩ : ∃ M, M = mayQ q.vars (q.atoms.map Am.pa) := ⟨_, rfl⟩
  have HV : Hid (∀ u, Below w.heap.size w u → QOk (fun _ => True) u q) := zA (fun u hu => hq.below hu)
  have HF : Hid (∀ u, Below w.heap.size w u → FasS (fun _ => True) u (.slice fa n fc) fs) := zA (fun u hu => hn ▸ hf.below hu)
  have HT : Hid (∀ u, Below w.heap.size w u → TabG u) := zA (fun u hu => hT.below hz0 hu)
  obtain ⟨E, hE⟩ : ∃ E : Int, E = rowsEW fs q.vars (q.atoms.map Am.pa) := ⟨_, rfl⟩
  obtain ⟨L, hL⟩ : ∃ L : List Rw, L = rowsAW fs q.vars (q.atoms.map Am.pa) := ⟨_, rfl⟩
  have CS : Hid (∀ u, Below w.heap.size w u → Calls Tryz.prog 17 #[.slice fa n fc, encQ q] u fun e w' => FewB fs e ∧ Below u.heap.size u w') := zA (fun u hu => rSmall_any (HF.out u hu) (HV.out u hu) hc.2 hlf)
  have CF : Hid (∀ u, Below w.heap.size w u → Calls Tryz.prog 18 #[.agg #[.int .i64 0, q.vv, q.av, .slice none 0 0]] u fun e w' => FlatQ na nv e ∧ Below u.heap.size u w') := zA (fun u hu => by rw [hna, hnv]; exact rFlatQ_any (HV.out u hu))
  have CY : Hid (∀ u, Below w.heap.size w u → Calls Tryz.prog 26 #[.agg #[.int .i64 1, q.vv, q.av, .slice none 0 0]] u fun e w' => e = .returned (.bool M) ∧ Below u.heap.size u w') := zA (fun u hu => by rw [hM]; exact rMayQ_any (HV.out u hu))
  have CM : Hid (∀ u, Below w.heap.size w u → n ≤ 40 → Calls Tryz.prog 19 #[.slice fa n fc, encQ q] u fun e w' => ∃ v, e = .returned (.tuple #[v, .int .i64 E]) ∧ RowsM w' v L ∧ Below u.heap.size u w') := zA (fun u hu hl => by
    have := rowsM_any (HF.out u hu) (by omega) hw (HV.out u hu) (HT.out u hu)
    unfold RwE at this
    rw [← hE, ← hL] at this
    exact this)
  have CM2 : Hid (∀ u ex ey, Below w.heap.size w u → n ≤ 40 → M = true → (∀ a ∈ q.atoms, a.1.2.length ≤ 12 ∧ a.2.2.2.length ≤ 12) → (∀ v ∈ q.vars, v.length ≤ 12) → TxtS (fun _ => True) u ex (q.vars.map kN) → CapS ex nv → AtsS (fun _ => True) u ey (q.atoms.map reM) → Calls Tryz.prog 19 #[.slice fa n fc, .agg #[ex, ey]] u fun e w' => ∃ v, e = .returned (.tuple #[v, .int .i64 E]) ∧ RowsM w' v L ∧ Below u.heap.size u w') := zA (fun u ex ey hu hl hm hla hlv hv hc2 ha => by
    rw [hE, hL]
    exact rows_named (HV.out u hu) (HF.out u hu) (by omega) hw (HT.out u hu) (by rw [← hM]; exact hm) hla hlv hv (by rw [List.length_map, ← hnv]; exact hc2) ha)
  have HLL : Hid (L.length ≤ 1000000000) := zA (by rw [hL]; have := rowsAW_len fs q.vars (q.atoms.map Am.pa); omega)
  have CQ : Hid (∀ u, Below w.heap.size w u → ∀ (K : Ending → World → Prop), (∀ w', Below w.heap.size w w' → K (.returned (.bool true)) w') → Calls Tryz.prog 10 #[] u K) := zA (fun u hu K hK => by
    refine (awake_any (HT.out u hu)).mono ?_
    rintro e w' ⟨rfl, hb⟩
    exact hK w' (hu.trans (hb.mono hu.size)))
  have HFW : Hid (n = fs.length) := zA hn
  have HAW : Hid (AtsS (fun _ => True) w q.av q.atoms ∧ na = q.atoms.length ∧ ∀ a ∈ q.atoms, VOk (fun _ => True) w a.2.1) := zA ⟨hq.ats, hna, hq.ok⟩
  have HVW : Hid (TxtS (fun _ => True) w q.vv q.vars ∧ nv = q.vars.length) := zA ⟨hq.vs, hnv⟩
  rw [← hn]
  obtain ⟨va, vc, ev, _⟩ := hq.vcap
  obtain ⟨aa, ac, ea, _⟩ := hc.1
  clear hL hE HV HF HT hT hq hf hlf hw hz0 hc hM hn
  obtain ⟨vv, vars, av, atoms⟩ := q
  dsimp only at ev ea hna hnv HAW HVW CM2 CF CY
  rw [← hnv] at ev
  subst ev
  rw [← hna] at ea
  subst ea
  dsimp only [encQ] at CS CF CM CM2
  dsimp only [encQ]
  clear hnv hna
  obtain ⟨o, ho⟩ : ∃ o, o = Obj.cells #[.slice va nv vc, .slice aa na ac] 38 (0, 0) := ⟨_, rfl⟩
  have HO := zA ho
  have HK : Hid (∀ u, Below (w.alloc o).heap.size (w.alloc o) u → Below w.heap.size w u ∧ u.cell? ⟨w.heap.size, 0, none⟩ = some (.slice va nv vc) ∧ u.cell? ⟨w.heap.size, 1, none⟩ = some (.slice aa na ac)) := zA (fun u hu => by
    have h := box_keptQ hu
    rw [HO.out] at h
    exact ⟨below_boxQ hu, (cells2N h).1⟩)
  clear ho
  have HSO : Hid ((w.alloc o).heap.size = w.heap.size + 1) := zA (by simp)
  go_enter Tryz.func8, Tryz.ntmps8
  go_wp2_with fail
  refine (CS.out _ ((Below.refl _ _).alloc (Nat.le_refl _) _)).mono ?_
  rintro e w1 ⟨⟨b, rfl, hbn⟩, hb1⟩
  rw [← HO.out] at hb1
  obtain ⟨hB, d0, d1⟩ := HK.out _ hb1
  have HB1 := zA hb1
  have HW1 := zA hB
  clear hb1 hB
  cases b with
  | false =>
    clear hbn
    go_wp2_with fail
    refine CQ.out _ HW1.out _ (fun wq hbq => ?_)
    have HWQ := zA hbq
    clear hbq
    go_wp2_with fail
    refine bodyPost_ret (v := .bool true) ?_ rfl ⟨rfl, HWQ.out⟩
    simp [results, Tryz.results8, go_sem]
  | true =>
    have hn40 := hbn rfl
    rw [← HFW.out] at hn40
    clear hbn
    go_wp2_with fail
    refine (CF.out _ HW1.out).mono ?_
    rintro e w2 ⟨⟨b, rfl, hbq⟩, hb2⟩
    have HB2 := zA (HB1.out.trans (hb2.mono HB1.out.size))
    clear hb2 HB1 HW1 d0 d1
    obtain ⟨hB, d0, d1⟩ := HK.out _ HB2.out
    have HW2 := zA hB
    clear hB
    cases b with
    | false =>
      clear hbq
      go_wp2_with fail
      refine CQ.out _ HW2.out _ (fun wq hbq => ?_)
      have HWQ := zA hbq
      clear hbq
      go_wp2_with fail
      refine bodyPost_ret (v := .bool true) ?_ rfl ⟨rfl, HWQ.out⟩
      simp [results, Tryz.results8, go_sem]
    | true =>
      obtain ⟨hna21, hnv40⟩ := hbq rfl
      clear hbq
      go_wp2_with fail
      refine (CY.out _ HW2.out).mono ?_
      rintro e w3 ⟨rfl, hb3⟩
      have HB3 := zA (HB2.out.trans (hb3.mono HB2.out.size))
      clear hb3 HB2 HW2 d0 d1
      obtain ⟨hB, d0, d1⟩ := HK.out _ HB3.out
      have HW3 := zA hB
      clear hB
      cases M with
      | false =>
        go_wp2_with fail
        refine CQ.out _ HW3.out _ (fun wq hbq => ?_)
        have HWQ := zA hbq
        clear hbq
        go_wp2_with fail
        refine bodyPost_ret (v := .bool true) ?_ rfl ⟨rfl, HWQ.out⟩
        simp [results, Tryz.results8, go_sem]
      | true =>
        obtain ⟨i0, hi0, hz0, hz1, hz2⟩ := info_partsG infoSG
        obtain ⟨i1, hi1, hy0, hy1, hy2⟩ := info_partsG infoAN
        have C2 := zA (fun u ex ey hu => CM2.out u ex ey hu hn40 (by trivial))
        clear CM2
        obtain ⟨pb, hpb⟩ : ∃ b, b = w3.heap.size := ⟨_, rfl⟩
        obtain ⟨wz, hwz⟩ : ∃ W, W = w3.alloc (.cells #[.slice none 0 0, .slice none 0 0] 38) := ⟨_, rfl⟩
        have hb34 : Below w3.heap.size w3 wz := by rw [hwz]; exact (Below.refl _ _).alloc (Nat.le_refl _) _
        have HB4 : Hid (Below (w.alloc o).heap.size (w.alloc o) wz) := zA (HB3.out.trans (hb34.mono HB3.out.size))
        have HP4 : Hid (wz.heap[pb]? = some (.cells #[.slice none 0 0, .slice none 0 0] 38 (0, 0))) := zA (by rw [hwz, hpb]; exact heap_alloc_new _ _)
        have HZ4 : Hid (wz.heap.size = pb + 1 ∧ w.heap.size + 1 ≤ pb) := zA ⟨by rw [hwz, hpb]; simp, by have := HB3.out.size; have := HSO.out; omega⟩
        obtain ⟨_, e0, e1⟩ := HK.out _ HB4.out
        rw [hwz] at e0 e1
        clear hb34 HB3 HW3
        go_wp2_with fail
        rw [← hwz, ← hpb]
        clear hwz hpb d0 d1 e0 e1
        go_loopw [6] (fun s6 wr => ∃ (i : Nat) (ex : Value), i ≤ nv ∧ s6 = .int .i64 i ∧ Hid (wr.heap[pb]? = some (.cells #[ex, .slice none 0 0] 38 (0, 0))) ∧ Hid (wr.ownsRow (pb + 1) 9 1 ex i (((vars.take i).map kN).flatMap csT)) ∧ Hid (Below pb wz wr) ∧ Hid (∀ v ∈ vars.take i, v.length ≤ 12)) (fun s6 _ => nv - (intOf s6).toNat)
        case atStart => exact ⟨0, .slice none 0 0, Nat.zero_le _, rfl, HP4, zA (World.ownsRow_nil _ _ _ _), zA (Below.refl _ _), zA (fun v h => by cases h)⟩
        case round =>
          obtain ⟨k, ex, hi, rfl, HBK, HROW, HBW, HLV⟩ := hrel
          obtain ⟨wx, hwx⟩ : ∃ wx, wx = wr := ⟨_, rfl⟩
          subst hwx
          have HBX : Hid (Below (w.alloc o).heap.size (w.alloc o) wx) := zA (HB4.out.trans (HBW.out.mono (by have := HZ4.out; have := HSO.out; omega)))
          obtain ⟨hBx, d0, d1⟩ := HK.out _ HBX.out
          have HWX := zA hBx
          clear hBx
          by_cases hlt : k < nv
          · have hltI : (k : Int) < (nv : Int) := by omega
            obtain ⟨i, hik⟩ : ∃ i, i = k := ⟨_, rfl⟩
            subst hik
            obtain ⟨x, hx⟩ : ∃ x, vars[i]? = some x := ⟨_, List.getElem?_eq_getElem (by rw [← HVW.out.2]; exact hlt)⟩
            obtain ⟨vg, vo, hva, _, hvg, hcs⟩ := SlS.get HVW.out.1 hx
            subst hva
            have hc0 := hcs 0 _ rfl
            rw [Nat.mul_one, Nat.add_zero] at hc0
            have KS : Hid (∀ u, Below (w.alloc o).heap.size (w.alloc o) u → u.cell? ⟨w.heap.size, 0, none⟩ = some (.slice (some ⟨vg, vo, none⟩) nv vc) ∧ u.cell? ⟨vg, vo + i, none⟩ = some (.string ⟨x.toArray⟩)) := zA (fun u hu => by
              obtain ⟨hb, z0, _⟩ := HK.out u hu
              exact ⟨z0, (hb.cell (p := ⟨vg, vo + i, none⟩) hvg).trans hc0⟩)
            have z2 := (KS.out _ HBX.out).2
            by_cases hx12 : x.length ≤ 12
            rotate_left 1
            · have hxI : (12 : Int) < (x.length : Int) := by omega
              go_wp2_with fail
              refine CQ.out _ HWX.out _ (fun wq hbq => ?_)
              have HWQ := zA hbq
              clear hbq
              go_wp2_with fail
              refine bodyPost_ret (v := .bool true) ?_ rfl ⟨rfl, HWQ.out⟩
              simp [results, Tryz.results8, go_sem]
            have hxI : ¬ (12 : Int) < (x.length : Int) := by omega
            have HLN : Hid (∀ v ∈ vars.take (i + 1), v.length ≤ 12) := zA (fun v hv => by
              rw [List.take_add_one, hx, Option.toList_some] at hv
              rcases List.mem_append.1 hv with h | h
              · exact HLV.out v h
              · rw [List.mem_singleton.1 h]; exact hx12)
            have HT : Hid ((vars.take (i + 1)).map kN = (vars.take i).map kN ++ [kN x]) := zA (by rw [List.take_add_one, hx, Option.toList_some, List.map_append, List.map_singleton])
            obtain ⟨xa, xc, hex⟩ := own_slice HROW.out
            subst hex
            obtain ⟨Y, hY⟩ : ∃ Y, Y = ((vars.take i).map kN).flatMap csT := ⟨_, rfl⟩
            rw [← hY] at HROW
            have HY := zA hY
            have hcat := cat_kN x
            have hxb : ¬ 9223372036854775807 < 2 + x.length := by omega
            have HA1 : Hid (Below (w.alloc o).heap.size (w.alloc o) wx.drew) := zA HBX.out.drew
            have HA2 : Hid (Below (w.alloc o).heap.size (w.alloc o) (wx.drew.alloc (.cells #[.string ⟨(kN x).toArray⟩] 9))) := zA (HBX.out.drew.alloc HBX.out.size _)
            have hbx2 : Below wx.heap.size wx (wx.drew.alloc (.cells #[.string ⟨(kN x).toArray⟩] 9)) := (Below.refl _ _).drew.alloc (Nat.le_refl _) _
            have hcz : wx.cell? ⟨pb, 0, none⟩ = some (.slice xa i xc) := (cells2N HBK.out).1.1
            have HL2 : Hid (wx.drew.cell? ⟨pb, 0, none⟩ = some (.slice xa i xc)) := zA hcz
            have HL3 : Hid ((wx.alloc (.cells #[.string ⟨(kN x).toArray⟩] 9)).cell? ⟨pb, 0, none⟩ = some (.slice xa i xc)) := zA ((hbx2.cell (p := ⟨pb, 0, none⟩) (lt_of_block HBK.out)).trans hcz)
            have HBK2 : Hid ((wx.drew.alloc (.cells #[.string ⟨(kN x).toArray⟩] 9)).heap[pb]? = some (.cells #[.slice xa i xc, .slice none 0 0] 38 (0, 0))) := zA ((hbx2.block pb (lt_of_block HBK.out)).trans HBK.out)
            have HOE2 : Hid ((wx.drew.alloc (.cells #[.string ⟨(kN x).toArray⟩] 9)).ownsRow (pb + 1) 9 1 (.slice xa i xc) i Y) := zA (owns_below HROW.out hbx2)
            have HNW : Hid (∀ (j : Nat) u, ([.string ⟨(kN x).toArray⟩] : List Value)[j]? = some u → (wx.drew.alloc (.cells #[.string ⟨(kN x).toArray⟩] 9)).cell? ((⟨wx.heap.size, 0, none⟩ : Addr).add j) = some u) := zA (World.news_of_block (cs := #[.string ⟨(kN x).toArray⟩]) (t := 9) (fr := (0, 0)) (heap_alloc_new wx.drew _))
            have hszx : pb + 1 ≤ wx.heap.size := by have h1 := HBW.out.size; have h2 := HZ4.out.1; omega
            have HKG : Hid (∀ gg cap2 w9, w9.ownsRow (pb + 1) 9 1 (.slice (some ⟨gg, 0, none⟩) (i + 1) cap2) (i + 1) (Y ++ [.string ⟨(kN x).toArray⟩]) → (wx.drew.alloc (.cells #[.string ⟨(kN x).toArray⟩] 9)).grownBy w9 (Value.slice xa i xc).ownBlock →
                (w9.cell? ⟨w.heap.size, 0, none⟩ = some (.slice (some ⟨vg, vo, none⟩) nv vc) ∧ w9.cell? ⟨vg, vo + i, none⟩ = some (.string ⟨x.toArray⟩)) ∧ ((w9.setCell ⟨pb, 0, none⟩ (.slice (some ⟨gg, 0, none⟩) (i + 1) cap2)).cell? ⟨w.heap.size, 0, none⟩ = some (.slice (some ⟨vg, vo, none⟩) nv vc) ∧ (w9.setCell ⟨pb, 0, none⟩ (.slice (some ⟨gg, 0, none⟩) (i + 1) cap2)).cell? ⟨vg, vo + i, none⟩ = some (.string ⟨x.toArray⟩)) ∧ (w9.cell? ⟨pb, 0, none⟩ = some (.slice xa i xc) ∧ w9.frozen? ⟨pb, 0, none⟩ = false) ∧ Hid ((w9.setCell ⟨pb, 0, none⟩ (.slice (some ⟨gg, 0, none⟩) (i + 1) cap2)).heap[pb]? = some (.cells #[.slice (some ⟨gg, 0, none⟩) (i + 1) cap2, .slice none 0 0] 38 (0, 0))) ∧ Hid ((w9.setCell ⟨pb, 0, none⟩ (.slice (some ⟨gg, 0, none⟩) (i + 1) cap2)).ownsRow (pb + 1) 9 1 (.slice (some ⟨gg, 0, none⟩) (i + 1) cap2) (i + 1) (((vars.take (i + 1)).map kN).flatMap csT)) ∧ Hid (Below pb wz (w9.setCell ⟨pb, 0, none⟩ (.slice (some ⟨gg, 0, none⟩) (i + 1) cap2)))) := zA (fun gg cap2 w9 h1 h2 => by
              have hz := HZ4.out
              have hso := HSO.out
              have hbk9 := blk_grownG HBK2.out h2 (own_neG HOE2.out HBK2.out (by decide))
              have hB9 : Below (w.alloc o).heap.size (w.alloc o) w9 := HA2.out.grown h2 (by have := HBX.out.size; simp at hso ⊢; omega) (fun k e => by have := (HROW.out.lt k e).1; omega)
              have hB10 : Below (w.alloc o).heap.size (w.alloc o) (w9.setCell ⟨pb, 0, none⟩ (.slice (some ⟨gg, 0, none⟩) (i + 1) cap2)) := hB9.setCell (p := ⟨pb, 0, none⟩) (by show (w.alloc o).heap.size ≤ pb; omega) _
              have hset : ∀ b, b ≠ pb → (w9.setCell ⟨pb, 0, none⟩ (.slice (some ⟨gg, 0, none⟩) (i + 1) cap2)).heap[b]? = w9.heap[b]? := fun b hb => Below.heap_setCell _ _ _ _ hb
              obtain ⟨⟨x2, _⟩, ⟨x5, _⟩⟩ := cells2N hbk9
              refine ⟨KS.out _ hB9, KS.out _ hB10, ⟨x2, x5⟩, zA (set2N0 hbk9), zA ?_, zA ?_⟩
              · have h4 : w9.ownsRow (pb + 1) 9 1 (.slice (some ⟨gg, 0, none⟩) (i + 1) cap2) (i + 1) (((vars.take (i + 1)).map kN).flatMap csT) := by
                  rw [HT.out, List.flatMap_append, ← HY.out]
                  exact h1
                exact owns_key h4 (fun g o hg ho => (hset g (fun e => by have := (h4.lt g hg).1; omega)).trans ho)
              · refine Below.setCell (p := ⟨pb, 0, none⟩) ?_ (Nat.le_refl pb) _
                exact (HBW.out.trans (hbx2.mono (by omega))).grown h2 (by simp; omega) (fun k e => by have := (HROW.out.lt k e).1; omega))
            clear hx hcs hc0 hY hcz hbx2
            go_wp2_with fail
            clear d0 d1 z2
            have hl2 : wx.drew.cell? ⟨pb, 0, none⟩ = some (.slice xa i xc) := HL2.out
            have hl3 := HL3.out
            refine wp_region_held_drew (S := fun u => u.cell? ⟨w.heap.size, 0, none⟩ = some (.slice (some ⟨vg, vo, none⟩) nv vc) ∧ u.cell? ⟨vg, vo + i, none⟩ = some (.string ⟨x.toArray⟩)) (by kernel_rfl) ?_ (fun hHeld => ?_)
            · exact KS.out _ HA1.out
            refine wpAnyH_take (i := 0) (oi := { dst := some 46, op := Go.Op.fieldAddr 38 (Go.Operand.tmp 5) 0, type := 0, pos := "law.go:132", after := #[], guard := none }) (v := ?_) rfl (by kernel_rfl) (by kernel_rfl) (by kernel_rfl) (fun _ _ _ h => h) (Or.inl ⟨by rfl, ?_⟩) hHeld ?_
            rotate_left 1
            · intro W hSw
              obtain ⟨l1, l2⟩ := hSw
              go_simp
              try with_reducible rfl
            simp only [Act.put, List.setIfInBounds_toArray, List.set_cons_zero, List.set_cons_succ]
            refine wpAnyH_take (i := 2) (oi := { dst := some 48, op := Go.Op.fieldAddr 38 (Go.Operand.tmp 3) 0, type := 0, pos := "law.go:132", after := #[], guard := none }) (v := ?_) rfl (by kernel_rfl) (by kernel_rfl) (by kernel_rfl) (fun _ _ _ h => h) (Or.inl ⟨by rfl, ?_⟩) hHeld ?_
            rotate_left 1
            · intro W hSw
              obtain ⟨l1, l2⟩ := hSw
              go_simp
              try with_reducible rfl
            simp only [Act.put, List.setIfInBounds_toArray, List.set_cons_zero, List.set_cons_succ]
            refine wpAnyH_take (i := 3) (oi := { dst := some 49, op := Go.Op.load 34 (Go.Operand.tmp 48), type := 34, pos := "law.go:132", after := #[{ on := 2, ground := Go.Ground.data }], guard := none }) (v := ?_) rfl (by kernel_rfl) (by kernel_rfl) (by kernel_rfl) (fun _ _ _ h => h) (Or.inl ⟨by rfl, ?_⟩) hHeld ?_
            rotate_left 1
            · intro W hSw
              obtain ⟨l1, l2⟩ := hSw
              go_simp
              try with_reducible rfl
            simp only [Act.put, List.setIfInBounds_toArray, List.set_cons_zero, List.set_cons_succ]
            refine wpAnyH_take (i := 4) (oi := { dst := some 50, op := Go.Op.move (Go.Operand.tmp 6), type := 3, pos := "law.go:132", after := #[], guard := none }) (v := ?_) rfl (by kernel_rfl) (by kernel_rfl) (by kernel_rfl) (fun _ _ _ h => h) (Or.inl ⟨by rfl, ?_⟩) hHeld ?_
            rotate_left 1
            · intro W hSw
              obtain ⟨l1, l2⟩ := hSw
              go_simp
              try with_reducible rfl
            simp only [Act.put, List.setIfInBounds_toArray, List.set_cons_zero, List.set_cons_succ]
            refine wpAnyH_take (i := 5) (oi := { dst := some 51, op := Go.Op.indexAddr 34 (Go.Operand.tmp 49) (Go.Operand.tmp 50), type := 0, pos := "law.go:132", after := #[{ on := 3, ground := Go.Ground.data }, { on := 4, ground := Go.Ground.data }], guard := none }) (v := ?_) rfl (by kernel_rfl) (by kernel_rfl) (by kernel_rfl) (fun _ _ _ h => h) (Or.inl ⟨by rfl, ?_⟩) hHeld ?_
            rotate_left 1
            · intro W hSw
              obtain ⟨l1, l2⟩ := hSw
              go_simp
              try with_reducible rfl
            simp only [Act.put, List.setIfInBounds_toArray, List.set_cons_zero, List.set_cons_succ]
            refine wpAnyH_take (i := 6) (oi := { dst := some 52, op := Go.Op.load 9 (Go.Operand.tmp 51), type := 9, pos := "law.go:132", after := #[{ on := 5, ground := Go.Ground.data }], guard := none }) (v := ?_) rfl (by kernel_rfl) (by kernel_rfl) (by kernel_rfl) (fun _ _ _ h => h) (Or.inl ⟨by rfl, ?_⟩) hHeld ?_
            rotate_left 1
            · intro W hSw
              obtain ⟨l1, l2⟩ := hSw
              go_simp
              try with_reducible rfl
            simp only [Act.put, List.setIfInBounds_toArray, List.set_cons_zero, List.set_cons_succ]
            refine wpAnyH_take (i := 7) (oi := { dst := some 53, op := Go.Op.binOp Go.BinOp.add 9 (Go.Operand.const (Go.Value.string { data := #[122, 57] })) (Go.Operand.tmp 52) 9, type := 9, pos := "law.go:132", after := #[{ on := 6, ground := Go.Ground.data }], guard := none }) (v := ?_) rfl (by kernel_rfl) (by kernel_rfl) (by kernel_rfl) (fun _ _ _ h => h) (Or.inl ⟨by rfl, ?_⟩) hHeld ?_
            rotate_left 1
            · intro W hSw
              obtain ⟨l1, l2⟩ := hSw
              go_simp
              try with_reducible rfl
            simp only [Act.put, List.setIfInBounds_toArray, List.set_cons_zero, List.set_cons_succ]
            refine wpAnyH_ready (rs := [1, 8]) (by kernel_rfl) (by simp) ?_
            refine AllReadyH.cons (o := { dst := some 47, op := Go.Op.load 34 (Go.Operand.tmp 46), type := 34, pos := "law.go:132", after := #[{ on := 0, ground := Go.Ground.data }], guard := none }) rfl (fun K hK => ?_) (AllReadyH.cons (o := { dst := some 54, op := Go.Op.buildSlice 34 1 #[(0, Go.Operand.tmp 53)], type := 34, pos := "law.go:132", after := #[{ on := 7, ground := Go.Ground.data }], guard := none }) rfl (fun K hK => ?_) AllReadyH.nil)
            · go_simp
              refine hK.out _ _ (KS.out _ HA1.out) (fun hHeld => ?_)
              clear hK K
              refine wpAnyH_ready (rs := [8]) (by kernel_rfl) (by simp) ?_
              refine AllReadyH.cons (o := { dst := some 54, op := Go.Op.buildSlice 34 1 #[(0, Go.Operand.tmp 53)], type := 34, pos := "law.go:132", after := #[{ on := 7, ground := Go.Ground.data }], guard := none }) rfl (fun K hK => ?_) AllReadyH.nil
              go_simp
              refine hK.out _ _ (KS.out _ HA2.out) (fun hHeld => ?_)
              clear hK K
              refine wpAnyH_ready (rs := [9]) (by kernel_rfl) (by simp) ?_
              refine AllReadyH.cons (o := { dst := some 55, op := Go.Op.call { callee := Go.Callee.builtin Go.Builtin.append, args := #[Go.Operand.tmp 47, Go.Operand.tmp 54], argTypes := #[34, 34] }, type := 34, pos := "law.go:132", after := #[{ on := 1, ground := Go.Ground.data }, { on := 8, ground := Go.Ground.data }], guard := none }) rfl (fun K hK => ?_) AllReadyH.nil
              refine step_append_lies _ (by rfl) _ _ _ (by rfl) (pb + 1) 9 i0 _ 1 16 Tryz.underlying34 hi0 hz0 hz1 hz2 rfl (by decide) (.slice xa i xc) _ _ (by rfl) HOE2.out ⟨wx.heap.size, 0, none⟩ 1 1 [.string ⟨(kN x).toArray⟩] (by rfl) (by rfl) HNW.out (by simp [Value.oneCell']) (by decide) (by unfold maxLen; omega) (by omega) (by simp; omega) (wx.heap.size + 1) (by simp) ?_
              intro gg cap2 w9 hown9 hgrow9 hat9 hlt9
              have HW9 := zA (HKG.out gg cap2 w9 hown9 hgrow9)
              refine hK.out _ _ HW9.out.1 (fun hHeld => ?_)
              clear hK K hown9 hgrow9 hat9 hlt9
              obtain ⟨f2, f8⟩ := HW9.out.2.2.1
              refine wpAnyH_take (i := 10) (oi := { dst := some 56, op := Go.Op.fieldAddr 38 (Go.Operand.tmp 5) 0, type := 0, pos := "law.go:132", after := #[{ on := 0, ground := Go.Ground.phase }, { on := 1, ground := Go.Ground.phase }, { on := 2, ground := Go.Ground.phase }, { on := 3, ground := Go.Ground.phase }, { on := 4, ground := Go.Ground.phase }, { on := 5, ground := Go.Ground.phase }, { on := 6, ground := Go.Ground.phase }, { on := 7, ground := Go.Ground.phase }, { on := 8, ground := Go.Ground.phase }, { on := 9, ground := Go.Ground.phase }], guard := none }) (v := ?_) rfl (by kernel_rfl) (by kernel_rfl) (by kernel_rfl) (fun _ _ _ h => h) (Or.inl ⟨by rfl, ?_⟩) hHeld ?_
              rotate_left 1
              · intro W hSw
                obtain ⟨l1, l2⟩ := hSw
                go_simp
                try with_reducible rfl
              simp only [Act.put, List.setIfInBounds_toArray, List.set_cons_zero, List.set_cons_succ]
              refine wpAnyH_ready (rs := [11]) (by kernel_rfl) (by simp) ?_
              refine AllReadyH.cons (o := { dst := none, op := Go.Op.store 34 (Go.Operand.tmp 56) (Go.Operand.tmp 55), type := 0, pos := "law.go:132", after := #[{ on := 10, ground := Go.Ground.data }, { on := 9, ground := Go.Ground.data }, { on := 9, ground := Go.Ground.chain }, { on := 0, ground := Go.Ground.phase }, { on := 1, ground := Go.Ground.phase }, { on := 2, ground := Go.Ground.phase }, { on := 3, ground := Go.Ground.phase }, { on := 4, ground := Go.Ground.phase }, { on := 5, ground := Go.Ground.phase }, { on := 6, ground := Go.Ground.phase }, { on := 7, ground := Go.Ground.phase }, { on := 8, ground := Go.Ground.phase }, { on := 9, ground := Go.Ground.phase }], guard := none }) rfl (fun K hK => ?_) AllReadyH.nil
              go_simp
              refine hK.out _ _ HW9.out.2.1 (fun hHeld => ?_)
              clear hK K f2 f8
              refine wpAnyH_done (by kernel_rfl) ?_ _
              go_wp2
              go_roundw
              case rel => exact ⟨i + 1, _, by omega, by go_num, HW9.out.2.2.2.1, HW9.out.2.2.2.2.1, HW9.out.2.2.2.2.2, HLN⟩
              case measure => simp [intOf]; omega
            · go_simp
              refine hK.out _ _ (KS.out _ HA2.out) (fun hHeld => ?_)
              clear hK K
              refine wpAnyH_ready (rs := [1]) (by kernel_rfl) (by simp) ?_
              refine AllReadyH.cons (o := { dst := some 47, op := Go.Op.load 34 (Go.Operand.tmp 46), type := 34, pos := "law.go:132", after := #[{ on := 0, ground := Go.Ground.data }], guard := none }) rfl (fun K hK => ?_) AllReadyH.nil
              go_simp
              refine hK.out _ _ (KS.out _ HA2.out) (fun hHeld => ?_)
              clear hK K
              refine wpAnyH_ready (rs := [9]) (by kernel_rfl) (by simp) ?_
              refine AllReadyH.cons (o := { dst := some 55, op := Go.Op.call { callee := Go.Callee.builtin Go.Builtin.append, args := #[Go.Operand.tmp 47, Go.Operand.tmp 54], argTypes := #[34, 34] }, type := 34, pos := "law.go:132", after := #[{ on := 1, ground := Go.Ground.data }, { on := 8, ground := Go.Ground.data }], guard := none }) rfl (fun K hK => ?_) AllReadyH.nil
              refine step_append_lies _ (by rfl) _ _ _ (by rfl) (pb + 1) 9 i0 _ 1 16 Tryz.underlying34 hi0 hz0 hz1 hz2 rfl (by decide) (.slice xa i xc) _ _ (by rfl) HOE2.out ⟨wx.heap.size, 0, none⟩ 1 1 [.string ⟨(kN x).toArray⟩] (by rfl) (by rfl) HNW.out (by simp [Value.oneCell']) (by decide) (by unfold maxLen; omega) (by omega) (by simp; omega) (wx.heap.size + 1) (by simp) ?_
              intro gg cap2 w9 hown9 hgrow9 hat9 hlt9
              have HW9 := zA (HKG.out gg cap2 w9 hown9 hgrow9)
              refine hK.out _ _ HW9.out.1 (fun hHeld => ?_)
              clear hK K hown9 hgrow9 hat9 hlt9
              obtain ⟨f2, f8⟩ := HW9.out.2.2.1
              refine wpAnyH_take (i := 10) (oi := { dst := some 56, op := Go.Op.fieldAddr 38 (Go.Operand.tmp 5) 0, type := 0, pos := "law.go:132", after := #[{ on := 0, ground := Go.Ground.phase }, { on := 1, ground := Go.Ground.phase }, { on := 2, ground := Go.Ground.phase }, { on := 3, ground := Go.Ground.phase }, { on := 4, ground := Go.Ground.phase }, { on := 5, ground := Go.Ground.phase }, { on := 6, ground := Go.Ground.phase }, { on := 7, ground := Go.Ground.phase }, { on := 8, ground := Go.Ground.phase }, { on := 9, ground := Go.Ground.phase }], guard := none }) (v := ?_) rfl (by kernel_rfl) (by kernel_rfl) (by kernel_rfl) (fun _ _ _ h => h) (Or.inl ⟨by rfl, ?_⟩) hHeld ?_
              rotate_left 1
              · intro W hSw
                obtain ⟨l1, l2⟩ := hSw
                go_simp
                try with_reducible rfl
              simp only [Act.put, List.setIfInBounds_toArray, List.set_cons_zero, List.set_cons_succ]
              refine wpAnyH_ready (rs := [11]) (by kernel_rfl) (by simp) ?_
              refine AllReadyH.cons (o := { dst := none, op := Go.Op.store 34 (Go.Operand.tmp 56) (Go.Operand.tmp 55), type := 0, pos := "law.go:132", after := #[{ on := 10, ground := Go.Ground.data }, { on := 9, ground := Go.Ground.data }, { on := 9, ground := Go.Ground.chain }, { on := 0, ground := Go.Ground.phase }, { on := 1, ground := Go.Ground.phase }, { on := 2, ground := Go.Ground.phase }, { on := 3, ground := Go.Ground.phase }, { on := 4, ground := Go.Ground.phase }, { on := 5, ground := Go.Ground.phase }, { on := 6, ground := Go.Ground.phase }, { on := 7, ground := Go.Ground.phase }, { on := 8, ground := Go.Ground.phase }, { on := 9, ground := Go.Ground.phase }], guard := none }) rfl (fun K hK => ?_) AllReadyH.nil
              go_simp
              refine hK.out _ _ HW9.out.2.1 (fun hHeld => ?_)
              clear hK K f2 f8
              refine wpAnyH_done (by kernel_rfl) ?_ _
              go_wp2
              go_roundw
              case rel => exact ⟨i + 1, _, by omega, by go_num, HW9.out.2.2.2.1, HW9.out.2.2.2.2.1, HW9.out.2.2.2.2.2, HLN⟩
              case measure => simp [intOf]; omega
          · have hltI : ¬ (k : Int) < (nv : Int) := by omega
            have hkn : k = nv := by omega
            subst hkn
            have HLA : Hid (vars.take k = vars) := zA (List.take_of_length_le (by rw [← HVW.out.2]; exact Nat.le_refl _))
            have HLVA : Hid (∀ v ∈ vars, v.length ≤ 12) := zA (by have := HLV.out; rw [HLA.out] at this; exact this)
            have HEX : Hid (wx.ownsRow (pb + 1) 9 1 ex k ((vars.map kN).flatMap csT)) := zA (by have := HROW.out; rw [HLA.out] at this; exact this)
            obtain ⟨ea, ec, hev⟩ := own_slice HEX.out
            subst hev
            have HBV : Hid (∀ u, (∀ b, b < wx.heap.size → b ≠ pb → u.heap[b]? = wx.heap[b]?) → wx.heap.size ≤ u.heap.size → TxtS (fun _ => True) u (.slice ea k ec) (vars.map kN) ∧ CapS (.slice ea k ec) k) := zA (fun u hu hz => by
              have h1 : u.ownsRow (pb + 1) 9 1 (.slice ea k ec) k ((vars.map kN).flatMap csT) := owns_key HEX.out (fun g o hg ho => (hu g (lt_of_block ho) (by have := (HEX.out.lt g hg).1; omega)).trans ho)
              exact ⟨(own_sl csT_lenM h1 (by rw [List.length_map, ← HVW.out.2])).sub (fun _ _ _ => trivial), own_capM h1⟩)
            have hszx : pb + 1 ≤ wx.heap.size := by have h1 := HBW.out.size; have h2 := HZ4.out.1; omega
            have HSX := zA hszx
            have HBK0 := HBK
            have HBY := HBX
            clear HLA HLV HROW HEX HBK HBW hlt hi HBX
            obtain ⟨wy, hwy⟩ : ∃ W, W = wx := ⟨_, rfl⟩
            subst hwy
            go_wp2_with fail
            clear hltI d0
            go_loopw [7] (fun s7 wr => ∃ (i : Nat) (ey : Value), i ≤ na ∧ s7 = .int .i64 i ∧ Hid (wr.heap[pb]? = some (.cells #[.slice ea k ec, ey] 38 (0, 0))) ∧ Hid (wr.ownsRow wy.heap.size 55 7 ey i (((atoms.take i).map reM).flatMap csA)) ∧ Hid (Fr (fun k => k < wy.heap.size ∧ k ≠ pb) wy wr) ∧ Hid (∀ a ∈ atoms.take i, a.1.2.length ≤ 12 ∧ a.2.2.2.length ≤ 12)) (fun s7 _ => na - (intOf s7).toNat)
            case atStart => exact ⟨0, .slice none 0 0, Nat.zero_le _, rfl, HBK0, zA (World.ownsRow_nil _ _ _ _), zA (Fr.refl _ _), zA (fun v h => by cases h)⟩
            case round =>
              clear d1
              obtain ⟨k2, ey, hi, rfl, HBK, HROW, HFR, HLV⟩ := hrel
              obtain ⟨wx, hwx⟩ : ∃ wx, wx = wr := ⟨_, rfl⟩
              subst hwx
              have HBX : Hid (Below (w.alloc o).heap.size (w.alloc o) wx) := zA (HBY.out.trans (HFR.out.below (B := (w.alloc o).heap.size) (fun k hk => by have h1 := HZ4.out; have h2 := HSO.out; have h3 := HSX.out; exact ⟨by omega, by omega⟩)))
              obtain ⟨hBx, d0, d1⟩ := HK.out _ HBX.out
              have HWX := zA hBx
              clear hBx
              by_cases hlt : k2 < na
              · have hltI : (k2 : Int) < (na : Int) := by omega
                obtain ⟨i, hik⟩ : ∃ i, i = k2 := ⟨_, rfl⟩
                subst hik
                obtain ⟨⟨⟨s0, s1⟩, ⟨tk, tw, tv, tl⟩, ⟨o0, o1⟩⟩, hr⟩ : ∃ r, atoms[i]? = some r := ⟨_, List.getElem?_eq_getElem (by rw [← HAW.out.2.1]; exact hlt)⟩
                obtain ⟨ka, kc, hkv⟩ := (HAW.out.2.2 _ (List.mem_of_getElem? hr)).parts.1.slice
                dsimp only at hkv
                obtain ⟨kn, hkn⟩ : ∃ n, n = tl.length := ⟨_, rfl⟩
                rw [← hkn] at hkv
                subst hkv
                clear hkn
                obtain ⟨ag, ao, haa, _, hag, hcs6⟩ := HAW.out.1.get hr
                subst haa
                have key : ∀ c v, (csA ((s0, s1), ⟨tk, tw, .slice ka kn kc, tl⟩, (o0, o1)))[c]? = some v → wx.cell? ⟨ag, ao + i * 7 + c, none⟩ = some v := fun c v h => (HWX.out.cell (p := ⟨ag, ao + i * 7 + c, none⟩) hag).trans (hcs6 c v h)
                have q0 := key 0 _ rfl
                have q1 := key 1 _ rfl
                have q2 := key 2 _ rfl
                have q3 := key 3 _ rfl
                have q4 := key 4 _ rfl
                have q5 := key 5 _ rfl
                have q6 := key 6 _ rfl
                rw [Nat.add_zero] at q0
                dsimp only at q0 q1 q2 q3 q4 q5 q6
                have HTK : Hid (atoms.take (i + 1) = atoms.take i ++ [((s0, s1), ⟨tk, tw, .slice ka kn kc, tl⟩, (o0, o1))]) := zA (by rw [List.take_add_one, hr]; rfl)
                have HWA : Hid (∀ ob, Below w.heap.size w (wx.alloc ob)) := zA (fun ob => HWX.out.alloc HWX.out.size _)
                clear key hcs6 hr
                by_cases hs12 : s1.length ≤ 12
                rotate_left 1
                · have hsI : (12 : Int) < (s1.length : Int) := by omega
                  go_wp2_with fail
                  refine CQ.out _ (HWA.out _) _ (fun wq hbq => ?_)
                  have HWQ := zA hbq
                  clear hbq
                  go_wp2_with fail
                  refine bodyPost_ret (v := .bool true) ?_ rfl ⟨rfl, HWQ.out⟩
                  simp [results, Tryz.results8, go_sem]
                have hsI : ¬ (12 : Int) < (s1.length : Int) := by omega
                by_cases ho12 : o1.length ≤ 12
                rotate_left 1
                · have hoI : (12 : Int) < (o1.length : Int) := by omega
                  go_wp2_with fail
                  refine CQ.out _ (HWA.out _) _ (fun wq hbq => ?_)
                  have HWQ := zA hbq
                  clear hbq
                  go_wp2_with fail
                  refine bodyPost_ret (v := .bool true) ?_ rfl ⟨rfl, HWQ.out⟩
                  simp [results, Tryz.results8, go_sem]
                have hoI : ¬ (12 : Int) < (o1.length : Int) := by omega
                have HLN : Hid (∀ a ∈ atoms.take (i + 1), a.1.2.length ≤ 12 ∧ a.2.2.2.length ≤ 12) := zA (fun a ha => by
                  rw [HTK.out] at ha
                  rcases List.mem_append.1 ha with h | h
                  · exact HLV.out a h
                  · rw [List.mem_singleton.1 h]; exact ⟨hs12, ho12⟩)
                obtain ⟨xa, xc, hey⟩ := own_slice HROW.out
                subst hey
                obtain ⟨Y, hY⟩ : ∃ Y, Y = ((atoms.take i).map reM).flatMap csA := ⟨_, rfl⟩
                rw [← hY] at HROW
                have HSTEP : Hid (∀ (ob oc : Obj) (a : Am) gg cap2 w9, w9.ownsRow wy.heap.size 55 7 (.slice (some ⟨gg, 0, none⟩) (i + 1) cap2) (i + 1) (Y ++ csA a) → ((wx.alloc ob).alloc oc).grownBy w9 (Value.slice xa i xc).ownBlock → (atoms.take (i + 1)).map reM = (atoms.take i).map reM ++ [a] →
                    (w9.cell? ⟨pb, 1, none⟩ = some (.slice xa i xc) ∧ w9.frozen? ⟨pb, 1, none⟩ = false) ∧ Hid ((w9.setCell ⟨pb, 1, none⟩ (.slice (some ⟨gg, 0, none⟩) (i + 1) cap2)).heap[pb]? = some (.cells #[.slice ea k ec, .slice (some ⟨gg, 0, none⟩) (i + 1) cap2] 38 (0, 0))) ∧ Hid ((w9.setCell ⟨pb, 1, none⟩ (.slice (some ⟨gg, 0, none⟩) (i + 1) cap2)).ownsRow wy.heap.size 55 7 (.slice (some ⟨gg, 0, none⟩) (i + 1) cap2) (i + 1) (((atoms.take (i + 1)).map reM).flatMap csA)) ∧ Hid (Fr (fun k => k < wy.heap.size ∧ k ≠ pb) wy (w9.setCell ⟨pb, 1, none⟩ (.slice (some ⟨gg, 0, none⟩) (i + 1) cap2)))) := zA (fun ob oc a gg cap2 w9 h1 h2 h3 => by
                  have hb2 : Below wx.heap.size wx ((wx.alloc ob).alloc oc) := ((Below.refl _ _).alloc (Nat.le_refl _) _).alloc (by simp) _
                  have hro := owns_below HROW.out hb2
                  have hbk2 := (hb2.block pb (lt_of_block HBK.out)).trans HBK.out
                  have hbk9 := blk_grownG hbk2 h2 (own_neG hro hbk2 (by decide))
                  have hlow : Low (fun k => k < wy.heap.size ∧ k ≠ pb) wy := fun k hk => hk.1
                  have hset : ∀ b, b ≠ pb → (w9.setCell ⟨pb, 1, none⟩ (.slice (some ⟨gg, 0, none⟩) (i + 1) cap2)).heap[b]? = w9.heap[b]? := fun b hb => Below.heap_setCell _ _ _ _ hb
                  obtain ⟨⟨_, x2⟩, ⟨_, x5⟩⟩ := cells2N hbk9
                  refine ⟨⟨x2, x5⟩, zA (set2N hbk9), zA ?_, zA ?_⟩
                  · have h4 : w9.ownsRow wy.heap.size 55 7 (.slice (some ⟨gg, 0, none⟩) (i + 1) cap2) (i + 1) (((atoms.take (i + 1)).map reM).flatMap csA) := by
                      rw [h3, List.flatMap_append, ← hY]
                      simpa using h1
                    exact owns_key h4 (fun g o hg ho => (hset g (fun e => by have := (h4.lt g hg).1; have := HSX.out; omega)).trans ho)
                  · exact ((HFR.out.next hlow hb2).grown hlow h2 (fun g hg hs => by have := (HROW.out.lt g hg).1; omega)).setCell (fun h => h.2 rfl) _)
                have hcs1 := cat_kN s1
                have hco1 := cat_kN o1
                have hsb : ¬ 9223372036854775807 < 2 + s1.length := by omega
                have hob : ¬ 9223372036854775807 < 2 + o1.length := by omega
                have hszw := HFR.out.size
                clear hY
                cases s0 with
                | true =>
                  cases o0 with
                  | true =>
                    have hbx1 : Below wx.heap.size wx (wx.alloc (.cells #[.bool true, .string ⟨(kN s1).toArray⟩, .int .i64 tk, .string ⟨tw.toArray⟩, .slice ka kn kc, .bool true, .string ⟨(kN o1).toArray⟩] 55)) := (Below.refl _ _).alloc (Nat.le_refl _) _
                    have HRO1 : Hid ((wx.alloc (.cells #[.bool true, .string ⟨(kN s1).toArray⟩, .int .i64 tk, .string ⟨tw.toArray⟩, .slice ka kn kc, .bool true, .string ⟨(kN o1).toArray⟩] 55)).ownsRow wy.heap.size 55 7 (.slice xa i xc) i Y) := zA (owns_below HROW.out hbx1)
                    have HT2 : Hid ((atoms.take (i + 1)).map reM = (atoms.take i).map reM ++ [((true, (kN s1)), ⟨tk, tw, .slice ka kn kc, tl⟩, (true, (kN o1)))]) := zA (by rw [HTK.out, List.map_append, List.map_singleton]; rfl)
                    have z1 : (wx.alloc (.cells #[.bool true, .string ⟨(kN s1).toArray⟩, .int .i64 tk, .string ⟨tw.toArray⟩, .slice ka kn kc, .bool true, .string ⟨(kN o1).toArray⟩] 55)).cell? ⟨pb, 1, none⟩ = some (.slice xa i xc) := (hbx1.cell (p := ⟨pb, 1, none⟩) (lt_of_block HBK.out)).trans (cells2N HBK.out).1.2
                    have HNB : Hid (∀ (j : Nat) u, ([.bool true, .string ⟨(kN s1).toArray⟩, .int .i64 tk, .string ⟨tw.toArray⟩, .slice ka kn kc, .bool true, .string ⟨(kN o1).toArray⟩] : List Value)[j]? = some u → ((wx.alloc (.cells #[.bool true, .string ⟨(kN s1).toArray⟩, .int .i64 tk, .string ⟨tw.toArray⟩, .slice ka kn kc, .bool true, .string ⟨(kN o1).toArray⟩] 55)).alloc (.cells #[.bool true, .string ⟨(kN s1).toArray⟩, .int .i64 tk, .string ⟨tw.toArray⟩, .slice ka kn kc, .bool true, .string ⟨(kN o1).toArray⟩] 55)).cell? ((⟨wx.heap.size + 1, 0, none⟩ : Addr).add j) = some u) := zA (by
                      have h := World.news_of_block (cs := #[.bool true, .string ⟨(kN s1).toArray⟩, .int .i64 tk, .string ⟨tw.toArray⟩, .slice ka kn kc, .bool true, .string ⟨(kN o1).toArray⟩]) (t := 55) (fr := (0, 0)) (heap_alloc_new (wx.alloc (.cells #[.bool true, .string ⟨(kN s1).toArray⟩, .int .i64 tk, .string ⟨tw.toArray⟩, .slice ka kn kc, .bool true, .string ⟨(kN o1).toArray⟩] 55)) _)
                      rw [show (wx.alloc (.cells #[.bool true, .string ⟨(kN s1).toArray⟩, .int .i64 tk, .string ⟨tw.toArray⟩, .slice ka kn kc, .bool true, .string ⟨(kN o1).toArray⟩] 55)).heap.size = wx.heap.size + 1 by simp] at h
                      exact h)
                    clear hbx1
                    go_wp2_with (at_builtin; refine wpList_append_lies _ rfl _ _ _ rfl wy.heap.size 55 i1 _ 7 96 Tryz.underlying36 hi1 hy0 hy1 hy2 rfl (by decide) (.slice xa i xc) _ _ (by rfl) (HRO1.out.alloc _) ⟨wx.heap.size + 1, 0, none⟩ 1 1 [.bool true, .string ⟨(kN s1).toArray⟩, .int .i64 tk, .string ⟨tw.toArray⟩, .slice ka kn kc, .bool true, .string ⟨(kN o1).toArray⟩] (by rfl) (by rfl) HNB.out (by simp [Value.oneCell']) (by decide) (by unfold maxLen; omega) (by omega) (by have := HFR.out.size; simp; omega) (wx.heap.size + 1 + 1) (by simp) ?_)
                    intro gg cap2 w9 hown9 hgrow9 _ _
                    have HFIN := zA (HSTEP.out _ _ ((true, (kN s1)), ⟨tk, tw, .slice ka kn kc, tl⟩, (true, (kN o1))) gg cap2 w9 hown9 hgrow9 HT2.out)
                    obtain ⟨⟨f2, f8⟩, _⟩ := HFIN.out
                    clear hown9 hgrow9 z1 HRO1 HT2
                    go_wp2
                    go_roundw
                    case rel => exact ⟨i + 1, _, by omega, by go_num, HFIN.out.2.1, HFIN.out.2.2.1, HFIN.out.2.2.2, HLN⟩
                    case measure => simp [intOf]; omega
                  | false =>
                    have hbx1 : Below wx.heap.size wx (wx.alloc (.cells #[.bool true, .string ⟨(kN s1).toArray⟩, .int .i64 tk, .string ⟨tw.toArray⟩, .slice ka kn kc, .bool false, .string ⟨o1.toArray⟩] 55)) := (Below.refl _ _).alloc (Nat.le_refl _) _
                    have HRO1 : Hid ((wx.alloc (.cells #[.bool true, .string ⟨(kN s1).toArray⟩, .int .i64 tk, .string ⟨tw.toArray⟩, .slice ka kn kc, .bool false, .string ⟨o1.toArray⟩] 55)).ownsRow wy.heap.size 55 7 (.slice xa i xc) i Y) := zA (owns_below HROW.out hbx1)
                    have HT2 : Hid ((atoms.take (i + 1)).map reM = (atoms.take i).map reM ++ [((true, (kN s1)), ⟨tk, tw, .slice ka kn kc, tl⟩, (false, o1))]) := zA (by rw [HTK.out, List.map_append, List.map_singleton]; rfl)
                    have z1 : (wx.alloc (.cells #[.bool true, .string ⟨(kN s1).toArray⟩, .int .i64 tk, .string ⟨tw.toArray⟩, .slice ka kn kc, .bool false, .string ⟨o1.toArray⟩] 55)).cell? ⟨pb, 1, none⟩ = some (.slice xa i xc) := (hbx1.cell (p := ⟨pb, 1, none⟩) (lt_of_block HBK.out)).trans (cells2N HBK.out).1.2
                    have HNB : Hid (∀ (j : Nat) u, ([.bool true, .string ⟨(kN s1).toArray⟩, .int .i64 tk, .string ⟨tw.toArray⟩, .slice ka kn kc, .bool false, .string ⟨o1.toArray⟩] : List Value)[j]? = some u → ((wx.alloc (.cells #[.bool true, .string ⟨(kN s1).toArray⟩, .int .i64 tk, .string ⟨tw.toArray⟩, .slice ka kn kc, .bool false, .string ⟨o1.toArray⟩] 55)).alloc (.cells #[.bool true, .string ⟨(kN s1).toArray⟩, .int .i64 tk, .string ⟨tw.toArray⟩, .slice ka kn kc, .bool false, .string ⟨o1.toArray⟩] 55)).cell? ((⟨wx.heap.size + 1, 0, none⟩ : Addr).add j) = some u) := zA (by
                      have h := World.news_of_block (cs := #[.bool true, .string ⟨(kN s1).toArray⟩, .int .i64 tk, .string ⟨tw.toArray⟩, .slice ka kn kc, .bool false, .string ⟨o1.toArray⟩]) (t := 55) (fr := (0, 0)) (heap_alloc_new (wx.alloc (.cells #[.bool true, .string ⟨(kN s1).toArray⟩, .int .i64 tk, .string ⟨tw.toArray⟩, .slice ka kn kc, .bool false, .string ⟨o1.toArray⟩] 55)) _)
                      rw [show (wx.alloc (.cells #[.bool true, .string ⟨(kN s1).toArray⟩, .int .i64 tk, .string ⟨tw.toArray⟩, .slice ka kn kc, .bool false, .string ⟨o1.toArray⟩] 55)).heap.size = wx.heap.size + 1 by simp] at h
                      exact h)
                    clear hbx1
                    go_wp2_with (at_builtin; refine wpList_append_lies _ rfl _ _ _ rfl wy.heap.size 55 i1 _ 7 96 Tryz.underlying36 hi1 hy0 hy1 hy2 rfl (by decide) (.slice xa i xc) _ _ (by rfl) (HRO1.out.alloc _) ⟨wx.heap.size + 1, 0, none⟩ 1 1 [.bool true, .string ⟨(kN s1).toArray⟩, .int .i64 tk, .string ⟨tw.toArray⟩, .slice ka kn kc, .bool false, .string ⟨o1.toArray⟩] (by rfl) (by rfl) HNB.out (by simp [Value.oneCell']) (by decide) (by unfold maxLen; omega) (by omega) (by have := HFR.out.size; simp; omega) (wx.heap.size + 1 + 1) (by simp) ?_)
                    intro gg cap2 w9 hown9 hgrow9 _ _
                    have HFIN := zA (HSTEP.out _ _ ((true, (kN s1)), ⟨tk, tw, .slice ka kn kc, tl⟩, (false, o1)) gg cap2 w9 hown9 hgrow9 HT2.out)
                    obtain ⟨⟨f2, f8⟩, _⟩ := HFIN.out
                    clear hown9 hgrow9 z1 HRO1 HT2
                    go_wp2
                    go_roundw
                    case rel => exact ⟨i + 1, _, by omega, by go_num, HFIN.out.2.1, HFIN.out.2.2.1, HFIN.out.2.2.2, HLN⟩
                    case measure => simp [intOf]; omega
                | false =>
                  cases o0 with
                  | true =>
                    have hbx1 : Below wx.heap.size wx (wx.alloc (.cells #[.bool false, .string ⟨s1.toArray⟩, .int .i64 tk, .string ⟨tw.toArray⟩, .slice ka kn kc, .bool true, .string ⟨(kN o1).toArray⟩] 55)) := (Below.refl _ _).alloc (Nat.le_refl _) _
                    have HRO1 : Hid ((wx.alloc (.cells #[.bool false, .string ⟨s1.toArray⟩, .int .i64 tk, .string ⟨tw.toArray⟩, .slice ka kn kc, .bool true, .string ⟨(kN o1).toArray⟩] 55)).ownsRow wy.heap.size 55 7 (.slice xa i xc) i Y) := zA (owns_below HROW.out hbx1)
                    have HT2 : Hid ((atoms.take (i + 1)).map reM = (atoms.take i).map reM ++ [((false, s1), ⟨tk, tw, .slice ka kn kc, tl⟩, (true, (kN o1)))]) := zA (by rw [HTK.out, List.map_append, List.map_singleton]; rfl)
                    have z1 : (wx.alloc (.cells #[.bool false, .string ⟨s1.toArray⟩, .int .i64 tk, .string ⟨tw.toArray⟩, .slice ka kn kc, .bool true, .string ⟨(kN o1).toArray⟩] 55)).cell? ⟨pb, 1, none⟩ = some (.slice xa i xc) := (hbx1.cell (p := ⟨pb, 1, none⟩) (lt_of_block HBK.out)).trans (cells2N HBK.out).1.2
                    have HNB : Hid (∀ (j : Nat) u, ([.bool false, .string ⟨s1.toArray⟩, .int .i64 tk, .string ⟨tw.toArray⟩, .slice ka kn kc, .bool true, .string ⟨(kN o1).toArray⟩] : List Value)[j]? = some u → ((wx.alloc (.cells #[.bool false, .string ⟨s1.toArray⟩, .int .i64 tk, .string ⟨tw.toArray⟩, .slice ka kn kc, .bool true, .string ⟨(kN o1).toArray⟩] 55)).alloc (.cells #[.bool false, .string ⟨s1.toArray⟩, .int .i64 tk, .string ⟨tw.toArray⟩, .slice ka kn kc, .bool true, .string ⟨(kN o1).toArray⟩] 55)).cell? ((⟨wx.heap.size + 1, 0, none⟩ : Addr).add j) = some u) := zA (by
                      have h := World.news_of_block (cs := #[.bool false, .string ⟨s1.toArray⟩, .int .i64 tk, .string ⟨tw.toArray⟩, .slice ka kn kc, .bool true, .string ⟨(kN o1).toArray⟩]) (t := 55) (fr := (0, 0)) (heap_alloc_new (wx.alloc (.cells #[.bool false, .string ⟨s1.toArray⟩, .int .i64 tk, .string ⟨tw.toArray⟩, .slice ka kn kc, .bool true, .string ⟨(kN o1).toArray⟩] 55)) _)
                      rw [show (wx.alloc (.cells #[.bool false, .string ⟨s1.toArray⟩, .int .i64 tk, .string ⟨tw.toArray⟩, .slice ka kn kc, .bool true, .string ⟨(kN o1).toArray⟩] 55)).heap.size = wx.heap.size + 1 by simp] at h
                      exact h)
                    clear hbx1
                    go_wp2_with (at_builtin; refine wpList_append_lies _ rfl _ _ _ rfl wy.heap.size 55 i1 _ 7 96 Tryz.underlying36 hi1 hy0 hy1 hy2 rfl (by decide) (.slice xa i xc) _ _ (by rfl) (HRO1.out.alloc _) ⟨wx.heap.size + 1, 0, none⟩ 1 1 [.bool false, .string ⟨s1.toArray⟩, .int .i64 tk, .string ⟨tw.toArray⟩, .slice ka kn kc, .bool true, .string ⟨(kN o1).toArray⟩] (by rfl) (by rfl) HNB.out (by simp [Value.oneCell']) (by decide) (by unfold maxLen; omega) (by omega) (by have := HFR.out.size; simp; omega) (wx.heap.size + 1 + 1) (by simp) ?_)
                    intro gg cap2 w9 hown9 hgrow9 _ _
                    have HFIN := zA (HSTEP.out _ _ ((false, s1), ⟨tk, tw, .slice ka kn kc, tl⟩, (true, (kN o1))) gg cap2 w9 hown9 hgrow9 HT2.out)
                    obtain ⟨⟨f2, f8⟩, _⟩ := HFIN.out
                    clear hown9 hgrow9 z1 HRO1 HT2
                    go_wp2
                    go_roundw
                    case rel => exact ⟨i + 1, _, by omega, by go_num, HFIN.out.2.1, HFIN.out.2.2.1, HFIN.out.2.2.2, HLN⟩
                    case measure => simp [intOf]; omega
                  | false =>
                    have hbx1 : Below wx.heap.size wx (wx.alloc (.cells #[.bool false, .string ⟨s1.toArray⟩, .int .i64 tk, .string ⟨tw.toArray⟩, .slice ka kn kc, .bool false, .string ⟨o1.toArray⟩] 55)) := (Below.refl _ _).alloc (Nat.le_refl _) _
                    have HRO1 : Hid ((wx.alloc (.cells #[.bool false, .string ⟨s1.toArray⟩, .int .i64 tk, .string ⟨tw.toArray⟩, .slice ka kn kc, .bool false, .string ⟨o1.toArray⟩] 55)).ownsRow wy.heap.size 55 7 (.slice xa i xc) i Y) := zA (owns_below HROW.out hbx1)
                    have HT2 : Hid ((atoms.take (i + 1)).map reM = (atoms.take i).map reM ++ [((false, s1), ⟨tk, tw, .slice ka kn kc, tl⟩, (false, o1))]) := zA (by rw [HTK.out, List.map_append, List.map_singleton]; rfl)
                    have z1 : (wx.alloc (.cells #[.bool false, .string ⟨s1.toArray⟩, .int .i64 tk, .string ⟨tw.toArray⟩, .slice ka kn kc, .bool false, .string ⟨o1.toArray⟩] 55)).cell? ⟨pb, 1, none⟩ = some (.slice xa i xc) := (hbx1.cell (p := ⟨pb, 1, none⟩) (lt_of_block HBK.out)).trans (cells2N HBK.out).1.2
                    have HNB : Hid (∀ (j : Nat) u, ([.bool false, .string ⟨s1.toArray⟩, .int .i64 tk, .string ⟨tw.toArray⟩, .slice ka kn kc, .bool false, .string ⟨o1.toArray⟩] : List Value)[j]? = some u → ((wx.alloc (.cells #[.bool false, .string ⟨s1.toArray⟩, .int .i64 tk, .string ⟨tw.toArray⟩, .slice ka kn kc, .bool false, .string ⟨o1.toArray⟩] 55)).alloc (.cells #[.bool false, .string ⟨s1.toArray⟩, .int .i64 tk, .string ⟨tw.toArray⟩, .slice ka kn kc, .bool false, .string ⟨o1.toArray⟩] 55)).cell? ((⟨wx.heap.size + 1, 0, none⟩ : Addr).add j) = some u) := zA (by
                      have h := World.news_of_block (cs := #[.bool false, .string ⟨s1.toArray⟩, .int .i64 tk, .string ⟨tw.toArray⟩, .slice ka kn kc, .bool false, .string ⟨o1.toArray⟩]) (t := 55) (fr := (0, 0)) (heap_alloc_new (wx.alloc (.cells #[.bool false, .string ⟨s1.toArray⟩, .int .i64 tk, .string ⟨tw.toArray⟩, .slice ka kn kc, .bool false, .string ⟨o1.toArray⟩] 55)) _)
                      rw [show (wx.alloc (.cells #[.bool false, .string ⟨s1.toArray⟩, .int .i64 tk, .string ⟨tw.toArray⟩, .slice ka kn kc, .bool false, .string ⟨o1.toArray⟩] 55)).heap.size = wx.heap.size + 1 by simp] at h
                      exact h)
                    clear hbx1
                    go_wp2_with (at_builtin; refine wpList_append_lies _ rfl _ _ _ rfl wy.heap.size 55 i1 _ 7 96 Tryz.underlying36 hi1 hy0 hy1 hy2 rfl (by decide) (.slice xa i xc) _ _ (by rfl) (HRO1.out.alloc _) ⟨wx.heap.size + 1, 0, none⟩ 1 1 [.bool false, .string ⟨s1.toArray⟩, .int .i64 tk, .string ⟨tw.toArray⟩, .slice ka kn kc, .bool false, .string ⟨o1.toArray⟩] (by rfl) (by rfl) HNB.out (by simp [Value.oneCell']) (by decide) (by unfold maxLen; omega) (by omega) (by have := HFR.out.size; simp; omega) (wx.heap.size + 1 + 1) (by simp) ?_)
                    intro gg cap2 w9 hown9 hgrow9 _ _
                    have HFIN := zA (HSTEP.out _ _ ((false, s1), ⟨tk, tw, .slice ka kn kc, tl⟩, (false, o1)) gg cap2 w9 hown9 hgrow9 HT2.out)
                    obtain ⟨⟨f2, f8⟩, _⟩ := HFIN.out
                    clear hown9 hgrow9 z1 HRO1 HT2
                    go_wp2
                    go_roundw
                    case rel => exact ⟨i + 1, _, by omega, by go_num, HFIN.out.2.1, HFIN.out.2.2.1, HFIN.out.2.2.2, HLN⟩
                    case measure => simp [intOf]; omega
              · have hltI : ¬ (k2 : Int) < (na : Int) := by omega
                have hkn : k2 = na := by omega
                have HLA : Hid (atoms.take k2 = atoms) := zA (List.take_of_length_le (by rw [← HAW.out.2.1]; omega))
                have HLVB : Hid (∀ a ∈ atoms, a.1.2.length ≤ 12 ∧ a.2.2.2.length ≤ 12) := zA (by have := HLV.out; rw [HLA.out] at this; exact this)
                obtain ⟨xa, xc, hey⟩ := own_slice HROW.out
                subst hey
                have HAX : Hid (AtsS (fun _ => True) wx (.slice xa k2 xc) (atoms.map reM)) := zA (by
                  have h := HROW.out
                  rw [HLA.out] at h
                  exact (own_sl csA_len h (by rw [List.length_map, ← HAW.out.2.1, hkn])).sub (fun _ _ _ => trivial))
                obtain ⟨hvt, hvcp⟩ := HBV.out wx (fun b hb hne => HFR.out.block b ⟨hb, hne⟩) HFR.out.size
                have HVT := zA hvt
                have HVC := zA hvcp
                clear hvt hvcp hkn HLA
                go_wp2_with fail
                refine (CM.out _ HWX.out hn40).mono ?_
                rintro e w6 ⟨v6, rfl, hr6, hb6⟩
                obtain ⟨ra, rn, rc, rfl⟩ := hr6.slice
                have HR6 := zA hr6
                have HP6 : Hid (w6.heap[pb]? = some (.cells #[.slice ea k ec, .slice xa k2 xc] 38 (0, 0))) := zA ((hb6.block pb (lt_of_block HBK.out)).trans HBK.out)
                have HA6 := zA (HAX.out.below hb6)
                have HV6 := zA (HVT.out.below hb6)
                clear d0 d1
                obtain ⟨⟨d0, d1⟩, _⟩ := cells2N HP6.out
                have HW6 := zA (HWX.out.trans (hb6.mono HWX.out.size))
                clear hb6 hr6 hlt hltI hi
                go_wp2_with fail
                refine (C2.out _ _ _ HW6.out HLVB.out HLVA.out HV6.out HVC.out HA6.out).mono ?_
                rintro e w7 ⟨v7, rfl, hr7, hb7⟩
                have HW7 := zA (HW6.out.trans (hb7.mono HW6.out.size))
                have HR7 := zA (HR6.out.below hb7)
                obtain ⟨qa, qn, qc, rfl⟩ := hr7.slice
                have HQ7 := zA hr7
                clear hb7 hr7 HW6 d0 d1 HR6
                go_wp2_with fail
                refine (rSameRows_any HR7.out HQ7.out HLL.out).mono ?_
                rintro e w8 ⟨rfl, hb8⟩
                rw [decide_eq_true rfl]
                have HW8 := zA (HW7.out.trans (hb8.mono HW7.out.size))
                clear hb8 HW7 HR7 HQ7
                go_wp2_with fail
                refine CQ.out _ HW8.out _ (fun wq hbq => ?_)
                have HWQ := zA hbq
                clear hbq
                go_wp2_with fail
                refine bodyPost_ret (v := .bool true) ?_ rfl ⟨rfl, HWQ.out⟩
                simp [results, Tryz.results8, go_sem]
end Go.Proofs.YtkbgmcmcpbegjaaGreatDoor
