/- ModelTurns: the walk. (Written by a program.) -/
import Derived.Test.YtkbgmcmcpbegjaaGreatDoorNTurnM
import Derived.Test.YtkbgmcmcpbegjaaGreatDoorMG50
import Derived.Test.YtkbgmcmcpbegjaaGreatDoorMG10
import Derived.Test.YtkbgmcmcpbegjaaGreatDoorMG41
import Derived.Test.YtkbgmcmcpbegjaaGreatDoorMG35
import Derived.Test.YtkbgmcmcpbegjaaGreatDoorMG38
import Derived.Test.YtkbgmcmcpbegjaaGreatDoorMG39
import Derived.Test.YtkbgmcmcpbegjaaGreatDoorMG45
import Derived.Test.YtkbgmcmcpbegjaaGreatDoorMG29
import Derived.Test.YtkbgmcmcpbegjaaGreatDoorMG0
namespace Go.Proofs.YtkbgmcmcpbegjaaGreatDoor
open Go.RowKit Go.Shelf

theorem infoFN : (Tryz.prog.info? 48).map (fun i => (i.zero, i.size, i.bytes)) = some (some (.agg #[.string ⟨#[]⟩, .string ⟨#[]⟩, .string ⟨#[]⟩]), 3, 48) := by kernel_rfl
theorem infoAN : (Tryz.prog.info? 55).map (fun i => (i.zero, i.size, i.bytes)) = some (some (.agg #[.bool false, .string ⟨#[]⟩, .int .i64 0, .string ⟨#[]⟩, .slice none 0 0, .bool false, .string ⟨#[]⟩]), 7, 96) := by kernel_rfl
theorem cells2N {w : World} {b : Nat} {c0 c1 : Value} {t : TypeId} (h : w.heap[b]? = some (.cells #[c0, c1] t (0, 0))) :
    (w.cell? ⟨b, 0, none⟩ = some c0 ∧ w.cell? ⟨b, 1, none⟩ = some c1) ∧ (w.frozen? ⟨b, 0, none⟩ = false ∧ w.frozen? ⟨b, 1, none⟩ = false) := by
  simp [World.cell?, World.frozen?, h]
theorem set2N {w : World} {b : Nat} {c0 c1 v : Value} {t : TypeId} (h : w.heap[b]? = some (.cells #[c0, c1] t (0, 0))) : (w.setCell ⟨b, 1, none⟩ v).heap[b]? = some (.cells #[c0, v] t (0, 0)) := by
  simp [World.setCell, Array.getElem?_modify, h]
def dAm : Am := ((false, []), ⟨0, [], .slice none 0 0, []⟩, (false, []))
theorem tmod_nat (i c n : Nat) : ((i : Int) + (c : Int)).tmod (n : Int) = (((i + c) % n : Nat) : Int) := by
  rw [Int.tmod_eq_emod_of_nonneg (by omega)]
  exact (Int.natCast_emod (i + c) n).symm
/-- The rows of turned facts and atoms, as a contract. -/
theorem rows_turned {w : World} {gv ex vv : Value} {fs gs : List Fa} {q : Qm} {as2 : List Am} (hq : QOk (fun _ => True) w q) (hw : ∀ f ∈ fs, f.1.length ≤ 140737488351232 ∧ f.2.1.length ≤ 140737488351232 ∧ f.2.2.length ≤ 140737488351232) (hT : TabG w)
    (hg : FasS (fun _ => True) w gv gs) (hgl : gs.length ≤ 1000) (hgm : ∀ f, f ∈ gs ↔ f ∈ fs) (ha : AtsS (fun _ => True) w ex as2) (hal : as2.length = q.atoms.length) (ham : ∀ a, a ∈ as2 ↔ a ∈ q.atoms) (hvv : vv = q.vv) :
    Calls Tryz.prog 19 #[gv, .agg #[vv, ex]] w fun e w' => ∃ v, e = .returned (.tuple #[v, .int .i64 (rowsEW fs q.vars (q.atoms.map Am.pa))]) ∧ RowsM w' v (rowsAW fs q.vars (q.atoms.map Am.pa)) ∧ Below w.heap.size w w' := by
  have hq2 : QOk (fun _ => True) w ⟨vv, q.vars, ex, as2⟩ := ⟨by rw [hvv]; exact hq.vs, hq.vb, hq.vl, by rw [hvv]; exact hq.vcap, ha, fun a h => hq.ok a ((ham a).1 h), fun a h => hq.fine a ((ham a).1 h), by show as2.length ≤ _; rw [hal]; exact hq.al⟩
  have h := rowsM_any hg hgl (fun f hf => hw f ((hgm f).1 hf)) hq2 hT
  have hm : ∀ a, a ∈ q.atoms.map Am.pa ↔ a ∈ as2.map Am.pa := fun a => by
    rw [List.mem_map, List.mem_map]
    exact ⟨fun ⟨b, hb, e⟩ => ⟨b, (ham b).2 hb, e⟩, fun ⟨b, hb, e⟩ => ⟨b, (ham b).1 hb, e⟩⟩
  have hl : (q.atoms.map Am.pa).length = (as2.map Am.pa).length := by rw [List.length_map, List.length_map, hal]
  rw [rowsEW_same (fun f => (hgm f).symm) hl hm, rowsAW_same (fun f => (hgm f).symm) hl hm]
  exact h
set_option maxHeartbeats 16000000 in
set_option maxRecDepth 100000 in
theorem modelTurns_walk (vf : Value) (fs : List Fa) (q : Qm) (turn : Int) (w : World) (hf : FasS (fun _ => True) w vf fs) (hs : FinF vf fs) (hq : QOk (fun _ => True) w q) (hc : CapS q.av q.atoms.length ∧ q.atoms.length ≤ 1500000000000) (_ht : (Lit.int .i64 turn).wf = true) (hT : TabG w) :
    Calls Tryz.prog 7 #[vf, encQ q, .int .i64 turn] w fun e w' => e = .returned (.bool true) ∧ Below w.heap.size w w' := by
  obtain ⟨hlf, hw, _⟩ := hs
  obtain ⟨fa, fc, rfl⟩ := hf.slice
  have hz0 : 0 < w.heap.size := World.block_lt_of_cell? _ _ (hT 0 (by decide))
  obtain ⟨n, hn⟩ : ∃ n, n = fs.length := ⟨_, rfl⟩
  obtain ⟨na, hna⟩ : ∃ n, n = q.atoms.length := ⟨_, rfl⟩
  obtain ⟨c1, hc1, hc1l⟩ : ∃ c : Nat, bits .and .i64 turn 255 = (c : Int) ∧ c < 256 := ⟨(turn % 256).toNat, by rw [i64_and255N]; omega, by omega⟩
  obtain ⟨c2, hc2, hc2l⟩ : ∃ c : Nat, bits .and .i64 (turn / 256) 255 = (c : Int) ∧ c < 256 := ⟨(turn / 256 % 256).toNat, by rw [i64_and255N]; omega, by omega⟩
  have HV : Hid (∀ u, Below w.heap.size w u → QOk (fun _ => True) u q) := zA (fun u hu => hq.below hu)
  have HF : Hid (∀ u, Below w.heap.size w u → FasS (fun _ => True) u (.slice fa n fc) fs) := zA (fun u hu => hn ▸ hf.below hu)
  have HT : Hid (∀ u, Below w.heap.size w u → TabG u) := zA (fun u hu => hT.below hz0 hu)
  obtain ⟨E, hE⟩ : ∃ E : Int, E = rowsEW fs q.vars (q.atoms.map Am.pa) := ⟨_, rfl⟩
  obtain ⟨L, hL⟩ : ∃ L : List Rw, L = rowsAW fs q.vars (q.atoms.map Am.pa) := ⟨_, rfl⟩
  have CS : Hid (∀ u, Below w.heap.size w u → Calls Tryz.prog 17 #[.slice fa n fc, encQ q] u fun e w' => FewB fs e ∧ Below u.heap.size u w') := zA (fun u hu => rSmall_any (HF.out u hu) (HV.out u hu) hc.2 hlf)
  have CF : Hid (∀ u, Below w.heap.size w u → Calls Tryz.prog 18 #[.agg #[.int .i64 0, q.vv, q.av, .slice none 0 0]] u fun e w' => FlatQ na q.vars.length e ∧ Below u.heap.size u w') := zA (fun u hu => by rw [hna]; exact rFlatQ_any (HV.out u hu))
  have CM : Hid (∀ u, Below w.heap.size w u → n ≤ 40 → Calls Tryz.prog 19 #[.slice fa n fc, encQ q] u fun e w' => ∃ v, e = .returned (.tuple #[v, .int .i64 E]) ∧ RowsM w' v L ∧ Below u.heap.size u w') := zA (fun u hu hl => by
    have := rowsM_any (HF.out u hu) (by omega) hw (HV.out u hu) (HT.out u hu)
    unfold RwE at this
    rw [← hE, ← hL] at this
    exact this)
  have CM2 : Hid (∀ u gv ex, Below w.heap.size w u → n ≤ 40 → FasS (fun _ => True) u gv (rndL ([], [], []) fs c1 (2 * n)) → AtsS (fun _ => True) u ex (rndL dAm q.atoms c2 na) → Calls Tryz.prog 19 #[gv, .agg #[q.vv, ex]] u fun e w' => ∃ v, e = .returned (.tuple #[v, .int .i64 E]) ∧ RowsM w' v L ∧ Below u.heap.size u w') := zA (fun u gv ex hu hl hg ha => by
    have := rows_turned (HV.out u hu) hw (HT.out u hu) hg (by rw [rnd_len]; omega) (rnd_mem _ _ _ _ (by omega) (fun h => by rw [h] at hn; simp at hn; omega)) ha (by rw [rnd_len]; exact hna) (rnd_mem _ _ _ _ (by omega) (fun h => by rw [h] at hna; simp at hna; omega)) rfl
    rw [← hE, ← hL] at this
    exact this)
  have HLL : Hid (L.length ≤ 1000000000) := zA (by rw [hL]; have := rowsAW_len fs q.vars (q.atoms.map Am.pa); omega)
  have CA : Hid (∀ u, Below w.heap.size w u → Calls Tryz.prog 10 #[] u fun e w' => e = .returned (.bool true) ∧ Below u.heap.size u w') := zA (fun u hu => awake_any (HT.out u hu))
  have HFW : Hid (FasS (fun _ => True) w (.slice fa n fc) fs ∧ n = fs.length) := zA ⟨HF.out w (Below.refl _ _), hn⟩
  have HAW : Hid (AtsS (fun _ => True) w q.av q.atoms ∧ na = q.atoms.length ∧ ∀ a ∈ q.atoms, VOk (fun _ => True) w a.2.1) := zA ⟨hq.ats, hna, hq.ok⟩
  rw [← hn]
  obtain ⟨va, vc, ev, _⟩ := hq.vcap
  obtain ⟨aa, ac, ea, _⟩ := hc.1
  clear hL hE HV HF HT hT hq hf hlf hw hz0 hc
  obtain ⟨vv, vars, av, atoms⟩ := q
  dsimp only at ev ea hna HAW CM2 CF
  subst ev
  rw [← hna] at ea
  subst ea
  obtain ⟨nv, hnv⟩ : ∃ n, n = vars.length := ⟨_, rfl⟩
  rw [← hnv] at CS CF CM CM2
  dsimp only [encQ] at CS CF CM CM2
  dsimp only [encQ]
  rw [← hnv]
  clear hnv hna hn
  obtain ⟨o, ho⟩ : ∃ o, o = Obj.cells #[.slice va nv vc, .slice aa na ac] 38 (0, 0) := ⟨_, rfl⟩
  have HO := zA ho
  have HK : Hid (∀ u, Below (w.alloc o).heap.size (w.alloc o) u → Below w.heap.size w u ∧ u.cell? ⟨w.heap.size, 0, none⟩ = some (.slice va nv vc) ∧ u.cell? ⟨w.heap.size, 1, none⟩ = some (.slice aa na ac)) := zA (fun u hu => by
    have h := box_keptQ hu
    rw [HO.out] at h
    exact ⟨below_boxQ hu, (cells2N h).1⟩)
  clear ho
  have CQ : Hid (∀ u, Below w.heap.size w u → ∀ (K : Ending → World → Prop), (∀ w', Below w.heap.size w w' → K (.returned (.bool true)) w') → Calls Tryz.prog 10 #[] u K) := zA (fun u hu K hK => by
    refine (CA.out u hu).mono ?_
    rintro e w' ⟨rfl, hb⟩
    exact hK w' (hu.trans (hb.mono hu.size)))
  have HSO : Hid ((w.alloc o).heap.size = w.heap.size + 1) := zA (by simp)
  go_enter Tryz.func7, Tryz.ntmps7
  go_wp2_with fail
  refine (CS.out _ ((Below.refl _ _).alloc (Nat.le_refl _) _)).mono ?_
  rintro e w1 ⟨⟨b, rfl, hbn⟩, hb1⟩
  rw [← HO.out] at hb1
  obtain ⟨hB, d0, d1⟩ := HK.out _ hb1
  have HB1 := zA hb1
  have HW1 := zA hB
  clear hb1 hB
  cases b with
  | false =>
    clear hbn
    go_wp2_with fail
    refine CQ.out _ HW1.out _ (fun w2 hb2 => ?_)
    have HW2 := zA hb2
    clear hb2
    go_wp2_with fail
    refine bodyPost_ret (v := .bool true) ?_ rfl ⟨rfl, HW2.out⟩
    simp [results, Tryz.results7, go_sem]
  | true =>
    have hn40 := hbn rfl
    rw [← HFW.out.2] at hn40
    clear hbn
    go_wp2_with fail
    refine (CF.out _ HW1.out).mono ?_
    rintro e w2 ⟨⟨b, rfl, hbq⟩, hb2⟩
    have hb2' := HB1.out.trans (hb2.mono HB1.out.size)
    clear hb2 HB1 HW1 d0 d1
    obtain ⟨hB, d0, d1⟩ := HK.out _ hb2'
    have HB2 := zA hb2'
    have HW2 := zA hB
    clear hb2' hB
    cases b with
    | false =>
      clear hbq
      go_wp2_with fail
      refine CQ.out _ HW2.out _ (fun w3 hb3 => ?_)
      have HW3 := zA hb3
      clear hb3
      go_wp2_with fail
      refine bodyPost_ret (v := .bool true) ?_ rfl ⟨rfl, HW3.out⟩
      simp [results, Tryz.results7, go_sem]
    | true =>
      have hna21 := (hbq rfl).1
      clear hbq
      obtain ⟨i0, hi0, hz0, hz1, hz2⟩ := info_partsG infoFN
      obtain ⟨i1, hi1, hy0, hy1, hy2⟩ := info_partsG infoAN
      obtain ⟨W, hW⟩ : ∃ W, W = w2 := ⟨_, rfl⟩
      subst hW
      go_wp2_with fail
      go_loopw [7, 8] (fun s7 s8 wr => ∃ (i : Nat), s8 = .int .i64 i ∧ i ≤ 2 * n ∧ Hid (wr.ownsRow W.heap.size 48 3 s7 i ((rndL ([], [], []) fs c1 i).flatMap csF)) ∧ Hid (Below W.heap.size W wr)) (fun _ s8 _ => 2 * n - (intOf s8).toNat)
      case atStart => exact ⟨0, rfl, Nat.zero_le _, zA (World.ownsRow_nil _ _ _ _), zA (Below.refl _ _)⟩
      case round =>
        clear d0 d1
        obtain ⟨i, rfl, hi, HOWN, HBW⟩ := hrel
        obtain ⟨wy, hwy⟩ : ∃ wy, wy = wr := ⟨_, rfl⟩
        subst hwy
        obtain ⟨ga, gc, hgv⟩ := own_slice HOWN.out
        subst hgv
        by_cases hlt : i < 2 * n
        · have hltI : (i : Int) < 2 * (n : Int) := by omega
          have hn0 : 0 < n := by omega
          obtain ⟨J, hJ⟩ : ∃ J, J = (i + c1) % n := ⟨_, rfl⟩
          have hJN : J < n := by rw [hJ]; exact Nat.mod_lt _ hn0
          have hrem : ((i : Int) + (c1 : Int)).tmod (n : Int) = (J : Int) := by rw [tmod_nat, hJ]
          have hrem2 : ((i : Int) + (c1 : Int)) % (n : Int) = (J : Int) := by rw [hJ]; exact (Int.natCast_emod (i + c1) n).symm
          have hn0I : ¬ (n : Int) = 0 := by omega
          have hJI : (J : Int) < (n : Int) := by omega
          have wJ : IntKind.i64.wrap (J : Int) = (J : Int) := by rw [IntKind.wrap_i64]; omega
          obtain ⟨⟨r0, r1, r2⟩, hr⟩ : ∃ r, fs[J]? = some r := ⟨_, List.getElem?_eq_getElem (by rw [← HFW.out.2]; exact hJN)⟩
          obtain ⟨g6, off6, hfa, _, hg6, hcs6⟩ := HFW.out.1.get hr
          subst hfa
          have hBy := HW2.out.trans (HBW.out.mono HW2.out.size)
          have y0 := (hBy.cell (p := ⟨g6, off6 + J * 3, none⟩) hg6).trans (hcs6 0 _ rfl)
          have y1 := (hBy.cell (p := ⟨g6, off6 + J * 3 + 1, none⟩) hg6).trans (hcs6 1 _ rfl)
          have y2 := (hBy.cell (p := ⟨g6, off6 + J * 3 + 2, none⟩) hg6).trans (hcs6 2 _ rfl)
          dsimp only at y0 y1 y2
          have HT : Hid (rndL ([], [], []) fs c1 (i + 1) = rndL ([], [], []) fs c1 i ++ [(r0, r1, r2)]) := zA (rnd_succ (by rw [← HFW.out.2, ← hJ]; exact hr))
          obtain ⟨Y, hY⟩ : ∃ Y, Y = (rndL ([], [], []) fs c1 i).flatMap csF := ⟨_, rfl⟩
          rw [← hY] at HOWN
          have HY := zA hY
          clear hr hcs6 hJ hBy hY
          go_wp2_with (at_builtin; refine wpList_append_lies _ rfl _ _ _ rfl W.heap.size 48 i0 _ 3 48 Tryz.underlying22 hi0 hz0 hz1 hz2 rfl (by decide) (.slice ga i gc) _ _ (by rfl) (HOWN.out.alloc _) ⟨wy.heap.size, 0, none⟩ 1 1 [.string ⟨r0.toArray⟩, .string ⟨r1.toArray⟩, .string ⟨r2.toArray⟩] (by rfl) (by rfl) (World.news_of_block (cs := #[.string ⟨r0.toArray⟩, .string ⟨r1.toArray⟩, .string ⟨r2.toArray⟩]) (t := 48) (fr := (0, 0)) (heap_alloc_new wy _)) (by simp [Value.oneCell']) (by decide) (by unfold maxLen; omega) (by omega) (by have := HBW.out.size; simp; omega) (wy.heap.size + 1) (by simp) ?_)
          intro gg cap7 w7 hown7 hgrow7 _ _
          have HB7 : Hid (Below W.heap.size W w7) := zA ((HBW.out.alloc HBW.out.size _).grown hgrow7 (by have := HBW.out.size; simp; omega) (fun k hk => (HOWN.out.lt k hk).1))
          have HO7 : Hid (w7.ownsRow W.heap.size 48 3 (.slice (some ⟨gg, 0, none⟩) (i + 1) cap7) (i + 1) ((rndL ([], [], []) fs c1 (i + 1)).flatMap csF)) := zA (by
            rw [HT.out, List.flatMap_append, ← HY.out]
            exact hown7)
          clear hown7 hgrow7 y0 y1 y2
          go_wp2
          go_roundw
          case rel => exact ⟨i + 1, by go_num, by omega, HO7, HB7⟩
          case measure => simp [intOf]; omega
        · have hltI : ¬ (i : Int) < 2 * (n : Int) := by omega
          obtain ⟨m2, hm2⟩ : ∃ m, m = 2 * n := ⟨_, rfl⟩
          have hie : i = m2 := by omega
          rw [← hm2] at CM2
          subst hie
          have hB3 := HB2.out.trans (HBW.out.mono HB2.out.size)
          have HG3 : Hid (∀ u, Below wy.heap.size wy u → FasS (fun _ => True) u (.slice ga i gc) (rndL ([], [], []) fs c1 i)) := zA (fun u hu => ((own_sl csF_len HOWN.out (rnd_len _ _ _ _).symm).sub (fun _ _ _ => trivial)).below hu)
          obtain ⟨_, d0, d1⟩ := HK.out _ hB3
          have HB3 := zA hB3
          obtain ⟨o2, ho2⟩ : ∃ o, o = Obj.cells #[.slice va nv vc, .slice none 0 0] 38 (0, 0) := ⟨_, rfl⟩
          obtain ⟨pb, hpb⟩ : ∃ b, b = wy.heap.size := ⟨_, rfl⟩
          obtain ⟨wz, hwz⟩ : ∃ W, W = wy.alloc o2 := ⟨_, rfl⟩
          have hb34 : Below wy.heap.size wy wz := by rw [hwz]; exact (Below.refl _ _).alloc (Nat.le_refl _) _
          have HB4 : Hid (Below (w.alloc o).heap.size (w.alloc o) wz) := zA (hB3.trans (hb34.mono hB3.size))
          have HP4 : Hid (wz.heap[pb]? = some (.cells #[.slice va nv vc, .slice none 0 0] 38 (0, 0))) := zA (by rw [hwz, hpb, ho2]; exact heap_alloc_new _ _)
          have HZ4 : Hid (wz.heap.size = pb + 1 ∧ w.heap.size + 1 ≤ pb ∧ pb = wy.heap.size) := zA ⟨by rw [hwz, hpb]; simp, by have := hB3.size; have := HSO.out; omega, hpb⟩
          have HG4 : Hid (∀ u, Below pb wz u → FasS (fun _ => True) u (.slice ga i gc) (rndL ([], [], []) fs c1 i)) := zA (fun u hu => (HG3.out wy (Below.refl _ _)).keep (Nat.le_trans hb34.size hu.size) (fun b _ hl => ⟨trivial, (hu.block b (by omega)).trans (hb34.block b hl)⟩))
          rw [ho2] at hwz
          clear hb34 hB3 hlt hi HOWN HBW HG3 HB2 HW2 HB3 ho2 hm2
          go_wp2_with fail
          rw [← hwz, ← hpb]
          clear hwz hpb hltI
          have hd1 : wz.cell? ⟨w.heap.size, 1, none⟩ = some (.slice aa na ac) := (HK.out _ HB4.out).2.2
          clear d0 d1
          go_wp2_with fail
          go_loopw [10] (fun s10 wr => ∃ (i : Nat) (ex : Value), i ≤ na ∧ s10 = .int .i64 i ∧ Hid (wr.heap[pb]? = some (.cells #[.slice va nv vc, ex] 38 (0, 0))) ∧ Hid (wr.ownsRow (pb + 1) 55 7 ex i ((rndL dAm atoms c2 i).flatMap csA)) ∧ Hid (Below pb wz wr)) (fun s10 _ => na - (intOf s10).toNat)
          case atStart => exact ⟨0, .slice none 0 0, Nat.zero_le _, rfl, HP4, zA (World.ownsRow_nil _ _ _ _), zA (Below.refl _ _)⟩
          case round =>
            clear hd1
            obtain ⟨k, ex, hi, rfl, HBK, HROW, HBW⟩ := hrel
            obtain ⟨wx, hwx⟩ : ∃ wx, wx = wr := ⟨_, rfl⟩
            subst hwx
            have HBX : Hid (Below (w.alloc o).heap.size (w.alloc o) wx) := zA (HB4.out.trans (HBW.out.mono (by have := HZ4.out; have := HSO.out; omega)))
            obtain ⟨hBx, d0, d1⟩ := HK.out _ HBX.out
            have HWX := zA hBx
            clear hBx
            by_cases hlt : k < na
            · have hltI : (k : Int) < (na : Int) := by omega
              obtain ⟨i, hik⟩ : ∃ i, i = k := ⟨_, rfl⟩
              subst hik
              have hn0 : 0 < na := by omega
              obtain ⟨J, hJ⟩ : ∃ J, J = (i + c2) % na := ⟨_, rfl⟩
              have hJN : J < na := by rw [hJ]; exact Nat.mod_lt _ hn0
              have hrem : ((i : Int) + (c2 : Int)).tmod (na : Int) = (J : Int) := by rw [tmod_nat, hJ]
              have hrem2 : ((i : Int) + (c2 : Int)) % (na : Int) = (J : Int) := by rw [hJ]; exact (Int.natCast_emod (i + c2) na).symm
              have hn0I : ¬ (na : Int) = 0 := by omega
              have hJI : (J : Int) < (na : Int) := by omega
              have hn0N : ¬ na = 0 := by omega
              have hwr : IntKind.i64.wrap ((i : Int) + (c2 : Int)) = (i : Int) + (c2 : Int) := by rw [IntKind.wrap_i64]; omega
              have wJ : IntKind.i64.wrap (J : Int) = (J : Int) := by rw [IntKind.wrap_i64]; omega
              obtain ⟨⟨⟨s0, s1⟩, ⟨tk, tw, tv, tl⟩, ⟨o0, o1⟩⟩, hr⟩ : ∃ r, atoms[J]? = some r := ⟨_, List.getElem?_eq_getElem (by rw [← HAW.out.2.1]; exact hJN)⟩
              obtain ⟨ka, kc, hkv⟩ := (HAW.out.2.2 _ (List.mem_of_getElem? hr)).parts.1.slice
              dsimp only at hkv
              obtain ⟨kn, hkn⟩ : ∃ n, n = tl.length := ⟨_, rfl⟩
              rw [← hkn] at hkv
              subst hkv
              clear hkn
              obtain ⟨ag, ao, haa, _, hag, hcs6⟩ := HAW.out.1.get hr
              subst haa
              have KS : Hid (∀ u, Below (w.alloc o).heap.size (w.alloc o) u → u.cell? ⟨w.heap.size, 1, none⟩ = some (.slice (some ⟨ag, ao, none⟩) na ac) ∧ u.cell? ⟨ag, ao + J * 7, none⟩ = some (.bool s0) ∧ u.cell? ⟨ag, ao + J * 7 + 1, none⟩ = some (.string ⟨s1.toArray⟩) ∧ u.cell? ⟨ag, ao + J * 7 + 2, none⟩ = some (.int .i64 tk) ∧ u.cell? ⟨ag, ao + J * 7 + 3, none⟩ = some (.string ⟨tw.toArray⟩) ∧ u.cell? ⟨ag, ao + J * 7 + 4, none⟩ = some (.slice ka kn kc) ∧ u.cell? ⟨ag, ao + J * 7 + 5, none⟩ = some (.bool o0) ∧ u.cell? ⟨ag, ao + J * 7 + 6, none⟩ = some (.string ⟨o1.toArray⟩)) := zA (fun u hu => by
                obtain ⟨hb, _, z1⟩ := HK.out u hu
                have key : ∀ c v, (csA ((s0, s1), ⟨tk, tw, .slice ka kn kc, tl⟩, (o0, o1)))[c]? = some v → u.cell? ⟨ag, ao + J * 7 + c, none⟩ = some v := fun c v h => (hb.cell (p := ⟨ag, ao + J * 7 + c, none⟩) hag).trans (hcs6 c v h)
                exact ⟨z1, key 0 _ rfl, key 1 _ rfl, key 2 _ rfl, key 3 _ rfl, key 4 _ rfl, key 5 _ rfl, key 6 _ rfl⟩)
              have HT : Hid (rndL dAm atoms c2 (i + 1) = rndL dAm atoms c2 i ++ [((s0, s1), ⟨tk, tw, .slice ka kn kc, tl⟩, (o0, o1))]) := zA (rnd_succ (by rw [← HAW.out.2.1, ← hJ]; exact hr))
              obtain ⟨xa, xc, hex⟩ := own_slice HROW.out
              subst hex
              obtain ⟨Y, hY⟩ : ∃ Y, Y = (rndL dAm atoms c2 i).flatMap csA := ⟨_, rfl⟩
              rw [← hY] at HROW
              have HY := zA hY
              have HA1 : Hid (Below (w.alloc o).heap.size (w.alloc o) wx.drew) := zA HBX.out.drew
              have HA2 : Hid (Below (w.alloc o).heap.size (w.alloc o) (wx.drew.alloc (.cells #[.bool s0, .string ⟨s1.toArray⟩, .int .i64 tk, .string ⟨tw.toArray⟩, .slice ka kn kc, .bool o0, .string ⟨o1.toArray⟩] 55))) := zA (HBX.out.drew.alloc HBX.out.size _)
              have hbx2 : Below wx.heap.size wx (wx.drew.alloc (.cells #[.bool s0, .string ⟨s1.toArray⟩, .int .i64 tk, .string ⟨tw.toArray⟩, .slice ka kn kc, .bool o0, .string ⟨o1.toArray⟩] 55)) := (Below.refl _ _).drew.alloc (Nat.le_refl _) _
              have hcz : wx.cell? ⟨pb, 1, none⟩ = some (.slice xa i xc) := (cells2N HBK.out).1.2
              have HL2 : Hid (wx.drew.cell? ⟨pb, 1, none⟩ = some (.slice xa i xc)) := zA hcz
              have HL3 : Hid ((wx.alloc (.cells #[.bool s0, .string ⟨s1.toArray⟩, .int .i64 tk, .string ⟨tw.toArray⟩, .slice ka kn kc, .bool o0, .string ⟨o1.toArray⟩] 55)).cell? ⟨pb, 1, none⟩ = some (.slice xa i xc)) := zA ((hbx2.cell (p := ⟨pb, 1, none⟩) (lt_of_block HBK.out)).trans hcz)
              have HBK2 : Hid ((wx.drew.alloc (.cells #[.bool s0, .string ⟨s1.toArray⟩, .int .i64 tk, .string ⟨tw.toArray⟩, .slice ka kn kc, .bool o0, .string ⟨o1.toArray⟩] 55)).heap[pb]? = some (.cells #[.slice va nv vc, .slice xa i xc] 38 (0, 0))) := zA ((hbx2.block pb (lt_of_block HBK.out)).trans HBK.out)
              have HOE2 : Hid ((wx.drew.alloc (.cells #[.bool s0, .string ⟨s1.toArray⟩, .int .i64 tk, .string ⟨tw.toArray⟩, .slice ka kn kc, .bool o0, .string ⟨o1.toArray⟩] 55)).ownsRow (pb + 1) 55 7 (.slice xa i xc) i Y) := zA (owns_below HROW.out hbx2)
              have HNW : Hid (∀ (j : Nat) u, ([.bool s0, .string ⟨s1.toArray⟩, .int .i64 tk, .string ⟨tw.toArray⟩, .slice ka kn kc, .bool o0, .string ⟨o1.toArray⟩] : List Value)[j]? = some u → (wx.drew.alloc (.cells #[.bool s0, .string ⟨s1.toArray⟩, .int .i64 tk, .string ⟨tw.toArray⟩, .slice ka kn kc, .bool o0, .string ⟨o1.toArray⟩] 55)).cell? ((⟨wx.heap.size, 0, none⟩ : Addr).add j) = some u) := zA (World.news_of_block (cs := #[.bool s0, .string ⟨s1.toArray⟩, .int .i64 tk, .string ⟨tw.toArray⟩, .slice ka kn kc, .bool o0, .string ⟨o1.toArray⟩]) (t := 55) (fr := (0, 0)) (heap_alloc_new wx.drew _))
              have hszx : pb + 1 ≤ wx.heap.size := by have h1 := HBW.out.size; have h2 := HZ4.out.1; omega
              have HKG : Hid (∀ gg cap2 w9, w9.ownsRow (pb + 1) 55 7 (.slice (some ⟨gg, 0, none⟩) (i + 1) cap2) (i + 1) (Y ++ [.bool s0, .string ⟨s1.toArray⟩, .int .i64 tk, .string ⟨tw.toArray⟩, .slice ka kn kc, .bool o0, .string ⟨o1.toArray⟩]) → (wx.drew.alloc (.cells #[.bool s0, .string ⟨s1.toArray⟩, .int .i64 tk, .string ⟨tw.toArray⟩, .slice ka kn kc, .bool o0, .string ⟨o1.toArray⟩] 55)).grownBy w9 (Value.slice xa i xc).ownBlock →
                  (w9.cell? ⟨w.heap.size, 1, none⟩ = some (.slice (some ⟨ag, ao, none⟩) na ac) ∧ w9.cell? ⟨ag, ao + J * 7, none⟩ = some (.bool s0) ∧ w9.cell? ⟨ag, ao + J * 7 + 1, none⟩ = some (.string ⟨s1.toArray⟩) ∧ w9.cell? ⟨ag, ao + J * 7 + 2, none⟩ = some (.int .i64 tk) ∧ w9.cell? ⟨ag, ao + J * 7 + 3, none⟩ = some (.string ⟨tw.toArray⟩) ∧ w9.cell? ⟨ag, ao + J * 7 + 4, none⟩ = some (.slice ka kn kc) ∧ w9.cell? ⟨ag, ao + J * 7 + 5, none⟩ = some (.bool o0) ∧ w9.cell? ⟨ag, ao + J * 7 + 6, none⟩ = some (.string ⟨o1.toArray⟩)) ∧ ((w9.setCell ⟨pb, 1, none⟩ (.slice (some ⟨gg, 0, none⟩) (i + 1) cap2)).cell? ⟨w.heap.size, 1, none⟩ = some (.slice (some ⟨ag, ao, none⟩) na ac) ∧ (w9.setCell ⟨pb, 1, none⟩ (.slice (some ⟨gg, 0, none⟩) (i + 1) cap2)).cell? ⟨ag, ao + J * 7, none⟩ = some (.bool s0) ∧ (w9.setCell ⟨pb, 1, none⟩ (.slice (some ⟨gg, 0, none⟩) (i + 1) cap2)).cell? ⟨ag, ao + J * 7 + 1, none⟩ = some (.string ⟨s1.toArray⟩) ∧ (w9.setCell ⟨pb, 1, none⟩ (.slice (some ⟨gg, 0, none⟩) (i + 1) cap2)).cell? ⟨ag, ao + J * 7 + 2, none⟩ = some (.int .i64 tk) ∧ (w9.setCell ⟨pb, 1, none⟩ (.slice (some ⟨gg, 0, none⟩) (i + 1) cap2)).cell? ⟨ag, ao + J * 7 + 3, none⟩ = some (.string ⟨tw.toArray⟩) ∧ (w9.setCell ⟨pb, 1, none⟩ (.slice (some ⟨gg, 0, none⟩) (i + 1) cap2)).cell? ⟨ag, ao + J * 7 + 4, none⟩ = some (.slice ka kn kc) ∧ (w9.setCell ⟨pb, 1, none⟩ (.slice (some ⟨gg, 0, none⟩) (i + 1) cap2)).cell? ⟨ag, ao + J * 7 + 5, none⟩ = some (.bool o0) ∧ (w9.setCell ⟨pb, 1, none⟩ (.slice (some ⟨gg, 0, none⟩) (i + 1) cap2)).cell? ⟨ag, ao + J * 7 + 6, none⟩ = some (.string ⟨o1.toArray⟩)) ∧ (w9.cell? ⟨pb, 1, none⟩ = some (.slice xa i xc) ∧ w9.frozen? ⟨pb, 1, none⟩ = false) ∧ Hid ((w9.setCell ⟨pb, 1, none⟩ (.slice (some ⟨gg, 0, none⟩) (i + 1) cap2)).heap[pb]? = some (.cells #[.slice va nv vc, .slice (some ⟨gg, 0, none⟩) (i + 1) cap2] 38 (0, 0))) ∧ Hid ((w9.setCell ⟨pb, 1, none⟩ (.slice (some ⟨gg, 0, none⟩) (i + 1) cap2)).ownsRow (pb + 1) 55 7 (.slice (some ⟨gg, 0, none⟩) (i + 1) cap2) (i + 1) ((rndL dAm atoms c2 (i + 1)).flatMap csA)) ∧ Hid (Below pb wz (w9.setCell ⟨pb, 1, none⟩ (.slice (some ⟨gg, 0, none⟩) (i + 1) cap2)))) := zA (fun gg cap2 w9 h1 h2 => by
                have hz := HZ4.out
                have hso := HSO.out
                have hbk9 := blk_grownG HBK2.out h2 (own_neG HOE2.out HBK2.out (by decide))
                have hB9 : Below (w.alloc o).heap.size (w.alloc o) w9 := HA2.out.grown h2 (by have := HBX.out.size; simp at hso ⊢; omega) (fun k e => by have := (HROW.out.lt k e).1; omega)
                have hB10 : Below (w.alloc o).heap.size (w.alloc o) (w9.setCell ⟨pb, 1, none⟩ (.slice (some ⟨gg, 0, none⟩) (i + 1) cap2)) := hB9.setCell (p := ⟨pb, 1, none⟩) (by show (w.alloc o).heap.size ≤ pb; omega) _
                have hset : ∀ b, b ≠ pb → (w9.setCell ⟨pb, 1, none⟩ (.slice (some ⟨gg, 0, none⟩) (i + 1) cap2)).heap[b]? = w9.heap[b]? := fun b hb => Below.heap_setCell _ _ _ _ hb
                obtain ⟨⟨_, x2⟩, ⟨_, x5⟩⟩ := cells2N hbk9
                refine ⟨KS.out _ hB9, KS.out _ hB10, ⟨x2, x5⟩, zA (set2N hbk9), zA ?_, zA ?_⟩
                · have h4 : w9.ownsRow (pb + 1) 55 7 (.slice (some ⟨gg, 0, none⟩) (i + 1) cap2) (i + 1) ((rndL dAm atoms c2 (i + 1)).flatMap csA) := by
                    rw [HT.out, List.flatMap_append, ← HY.out]
                    exact h1
                  exact owns_key h4 (fun g o hg ho => (hset g (fun e => by have := (h4.lt g hg).1; omega)).trans ho)
                · refine Below.setCell (p := ⟨pb, 1, none⟩) ?_ (Nat.le_refl pb) _
                  exact (HBW.out.trans (hbx2.mono (by omega))).grown h2 (by simp; omega) (fun k e => by have := (HROW.out.lt k e).1; omega))
              clear hr hcs6 hY hcz hbx2 hJ d0 d1
              have d1 : wx.cell? ⟨w.heap.size, 1, none⟩ = some (.slice (some ⟨ag, ao, none⟩) na ac) := (KS.out _ HBX.out).1
              go_wp2_with fail
              clear d1
              have hl2 : wx.drew.cell? ⟨pb, 1, none⟩ = some (.slice xa i xc) := HL2.out
              have hl3 := HL3.out
              refine wp_region_held_drew (S := fun u => u.cell? ⟨w.heap.size, 1, none⟩ = some (.slice (some ⟨ag, ao, none⟩) na ac) ∧ u.cell? ⟨ag, ao + J * 7, none⟩ = some (.bool s0) ∧ u.cell? ⟨ag, ao + J * 7 + 1, none⟩ = some (.string ⟨s1.toArray⟩) ∧ u.cell? ⟨ag, ao + J * 7 + 2, none⟩ = some (.int .i64 tk) ∧ u.cell? ⟨ag, ao + J * 7 + 3, none⟩ = some (.string ⟨tw.toArray⟩) ∧ u.cell? ⟨ag, ao + J * 7 + 4, none⟩ = some (.slice ka kn kc) ∧ u.cell? ⟨ag, ao + J * 7 + 5, none⟩ = some (.bool o0) ∧ u.cell? ⟨ag, ao + J * 7 + 6, none⟩ = some (.string ⟨o1.toArray⟩)) (by kernel_rfl) ?_ (fun hHeld => ?_)
              · exact KS.out _ HA1.out
              refine wpAnyH_take (i := 0) (oi := { dst := some 56, op := Go.Op.fieldAddr 38 (Go.Operand.tmp 9) 1, type := 0, pos := "law.go:115", after := #[], guard := none }) (v := ?_) rfl (by kernel_rfl) (by kernel_rfl) (by kernel_rfl) (fun _ _ _ h => h) (Or.inl ⟨by rfl, ?_⟩) hHeld ?_
              rotate_left 1
              · intro W hSw
                obtain ⟨l1, l2, l3, l4, l5, l6, l7, l8⟩ := hSw
                go_simp
                try with_reducible rfl
              simp only [Act.put, List.setIfInBounds_toArray, List.set_cons_zero, List.set_cons_succ]
              refine wpAnyH_take (i := 2) (oi := { dst := some 58, op := Go.Op.fieldAddr 38 (Go.Operand.tmp 4) 1, type := 0, pos := "law.go:115", after := #[], guard := none }) (v := ?_) rfl (by kernel_rfl) (by kernel_rfl) (by kernel_rfl) (fun _ _ _ h => h) (Or.inl ⟨by rfl, ?_⟩) hHeld ?_
              rotate_left 1
              · intro W hSw
                obtain ⟨l1, l2, l3, l4, l5, l6, l7, l8⟩ := hSw
                go_simp
                try with_reducible rfl
              simp only [Act.put, List.setIfInBounds_toArray, List.set_cons_zero, List.set_cons_succ]
              refine wpAnyH_take (i := 3) (oi := { dst := some 59, op := Go.Op.load 36 (Go.Operand.tmp 58), type := 36, pos := "law.go:115", after := #[{ on := 2, ground := Go.Ground.data }], guard := none }) (v := ?_) rfl (by kernel_rfl) (by kernel_rfl) (by kernel_rfl) (fun _ _ _ h => h) (Or.inl ⟨by rfl, ?_⟩) hHeld ?_
              rotate_left 1
              · intro W hSw
                obtain ⟨l1, l2, l3, l4, l5, l6, l7, l8⟩ := hSw
                go_simp
                try with_reducible rfl
              simp only [Act.put, List.setIfInBounds_toArray, List.set_cons_zero, List.set_cons_succ]
              refine wpAnyH_take (i := 4) (oi := { dst := some 60, op := Go.Op.move (Go.Operand.tmp 10), type := 3, pos := "law.go:115", after := #[], guard := none }) (v := ?_) rfl (by kernel_rfl) (by kernel_rfl) (by kernel_rfl) (fun _ _ _ h => h) (Or.inl ⟨by rfl, ?_⟩) hHeld ?_
              rotate_left 1
              · intro W hSw
                obtain ⟨l1, l2, l3, l4, l5, l6, l7, l8⟩ := hSw
                go_simp
                try with_reducible rfl
              simp only [Act.put, List.setIfInBounds_toArray, List.set_cons_zero, List.set_cons_succ]
              refine wpAnyH_take (i := 5) (oi := { dst := some 61, op := Go.Op.move (Go.Operand.tmp 2), type := 3, pos := "law.go:115", after := #[], guard := none }) (v := ?_) rfl (by kernel_rfl) (by kernel_rfl) (by kernel_rfl) (fun _ _ _ h => h) (Or.inl ⟨by rfl, ?_⟩) hHeld ?_
              rotate_left 1
              · intro W hSw
                obtain ⟨l1, l2, l3, l4, l5, l6, l7, l8⟩ := hSw
                go_simp
                try with_reducible rfl
              simp only [Act.put, List.setIfInBounds_toArray, List.set_cons_zero, List.set_cons_succ]
              refine wpAnyH_take (i := 6) (oi := { dst := some 62, op := Go.Op.binOp Go.BinOp.shr 3 (Go.Operand.tmp 61) (Go.Operand.const (Go.Value.int Go.IntKind.u64 8)) 56, type := 3, pos := "law.go:115", after := #[{ on := 5, ground := Go.Ground.data }], guard := none }) (v := ?_) rfl (by kernel_rfl) (by kernel_rfl) (by kernel_rfl) (fun _ _ _ h => h) (Or.inl ⟨by rfl, ?_⟩) hHeld ?_
              rotate_left 1
              · intro W hSw
                obtain ⟨l1, l2, l3, l4, l5, l6, l7, l8⟩ := hSw
                go_simp
                try with_reducible rfl
              simp only [Act.put, List.setIfInBounds_toArray, List.set_cons_zero, List.set_cons_succ]
              refine wpAnyH_take (i := 7) (oi := { dst := some 63, op := Go.Op.binOp Go.BinOp.and 3 (Go.Operand.tmp 62) (Go.Operand.const (Go.Value.int Go.IntKind.i64 255)) 3, type := 3, pos := "law.go:115", after := #[{ on := 6, ground := Go.Ground.data }], guard := none }) (v := ?_) rfl (by kernel_rfl) (by kernel_rfl) (by kernel_rfl) (fun _ _ _ h => h) (Or.inl ⟨by rfl, ?_⟩) hHeld ?_
              rotate_left 1
              · intro W hSw
                obtain ⟨l1, l2, l3, l4, l5, l6, l7, l8⟩ := hSw
                go_simp
                try with_reducible rfl
              simp only [Act.put, List.setIfInBounds_toArray, List.set_cons_zero, List.set_cons_succ]
              refine wpAnyH_take (i := 8) (oi := { dst := some 64, op := Go.Op.binOp Go.BinOp.add 3 (Go.Operand.tmp 60) (Go.Operand.tmp 63) 3, type := 3, pos := "law.go:115", after := #[{ on := 4, ground := Go.Ground.data }, { on := 7, ground := Go.Ground.data }], guard := none }) (v := ?_) rfl (by kernel_rfl) (by kernel_rfl) (by kernel_rfl) (fun _ _ _ h => h) (Or.inl ⟨by rfl, ?_⟩) hHeld ?_
              rotate_left 1
              · intro W hSw
                obtain ⟨l1, l2, l3, l4, l5, l6, l7, l8⟩ := hSw
                go_simp
                try with_reducible rfl
              simp only [Act.put, List.setIfInBounds_toArray, List.set_cons_zero, List.set_cons_succ]
              refine wpAnyH_take (i := 9) (oi := { dst := some 65, op := Go.Op.fieldAddr 38 (Go.Operand.tmp 4) 1, type := 0, pos := "law.go:115", after := #[], guard := none }) (v := ?_) rfl (by kernel_rfl) (by kernel_rfl) (by kernel_rfl) (fun _ _ _ h => h) (Or.inl ⟨by rfl, ?_⟩) hHeld ?_
              rotate_left 1
              · intro W hSw
                obtain ⟨l1, l2, l3, l4, l5, l6, l7, l8⟩ := hSw
                go_simp
                try with_reducible rfl
              simp only [Act.put, List.setIfInBounds_toArray, List.set_cons_zero, List.set_cons_succ]
              refine wpAnyH_take (i := 10) (oi := { dst := some 66, op := Go.Op.load 36 (Go.Operand.tmp 65), type := 36, pos := "law.go:115", after := #[{ on := 9, ground := Go.Ground.data }], guard := none }) (v := ?_) rfl (by kernel_rfl) (by kernel_rfl) (by kernel_rfl) (fun _ _ _ h => h) (Or.inl ⟨by rfl, ?_⟩) hHeld ?_
              rotate_left 1
              · intro W hSw
                obtain ⟨l1, l2, l3, l4, l5, l6, l7, l8⟩ := hSw
                go_simp
                try with_reducible rfl
              simp only [Act.put, List.setIfInBounds_toArray, List.set_cons_zero, List.set_cons_succ]
              refine wpAnyH_take (i := 11) (oi := { dst := some 67, op := Go.Op.call { callee := Go.Callee.builtin Go.Builtin.len, args := #[Go.Operand.tmp 66], argTypes := #[36] }, type := 3, pos := "law.go:115", after := #[{ on := 10, ground := Go.Ground.data }], guard := none }) (v := ?_) rfl (by kernel_rfl) (by kernel_rfl) (by kernel_rfl) (fun _ _ _ h => h) (Or.inl ⟨by rfl, ?_⟩) hHeld ?_
              rotate_left 1
              · intro W hSw
                obtain ⟨l1, l2, l3, l4, l5, l6, l7, l8⟩ := hSw
                go_simp
                try with_reducible rfl
              simp only [Act.put, List.setIfInBounds_toArray, List.set_cons_zero, List.set_cons_succ]
              refine wpAnyH_take (i := 12) (oi := { dst := some 68, op := Go.Op.binOp Go.BinOp.rem 3 (Go.Operand.tmp 64) (Go.Operand.tmp 67) 3, type := 3, pos := "law.go:115", after := #[{ on := 8, ground := Go.Ground.data }, { on := 11, ground := Go.Ground.data }], guard := none }) (v := ?_) rfl (by kernel_rfl) (by kernel_rfl) (by kernel_rfl) (fun _ _ _ h => h) (Or.inl ⟨by rfl, ?_⟩) hHeld ?_
              rotate_left 1
              · intro W hSw
                obtain ⟨l1, l2, l3, l4, l5, l6, l7, l8⟩ := hSw
                go_simp
                try with_reducible rfl
              simp only [Act.put, List.setIfInBounds_toArray, List.set_cons_zero, List.set_cons_succ]
              refine wpAnyH_take (i := 13) (oi := { dst := some 69, op := Go.Op.indexAddr 36 (Go.Operand.tmp 59) (Go.Operand.tmp 68), type := 0, pos := "law.go:115", after := #[{ on := 3, ground := Go.Ground.data }, { on := 12, ground := Go.Ground.data }], guard := none }) (v := ?_) rfl (by kernel_rfl) (by kernel_rfl) (by kernel_rfl) (fun _ _ _ h => h) (Or.inl ⟨by rfl, ?_⟩) hHeld ?_
              rotate_left 1
              · intro W hSw
                obtain ⟨l1, l2, l3, l4, l5, l6, l7, l8⟩ := hSw
                go_simp
                try with_reducible rfl
              simp only [Act.put, List.setIfInBounds_toArray, List.set_cons_zero, List.set_cons_succ]
              refine wpAnyH_take (i := 14) (oi := { dst := some 70, op := Go.Op.load 55 (Go.Operand.tmp 69), type := 55, pos := "law.go:115", after := #[{ on := 13, ground := Go.Ground.data }], guard := none }) (v := ?_) rfl (by kernel_rfl) (by kernel_rfl) (by kernel_rfl) (fun _ _ _ h => h) (Or.inl ⟨by rfl, ?_⟩) hHeld ?_
              rotate_left 1
              · intro W hSw
                obtain ⟨l1, l2, l3, l4, l5, l6, l7, l8⟩ := hSw
                go_simp
                try with_reducible rfl
              simp only [Act.put, List.setIfInBounds_toArray, List.set_cons_zero, List.set_cons_succ]
              refine wpAnyH_ready (rs := [1, 15]) (by kernel_rfl) (by simp) ?_
              refine AllReadyH.cons (o := { dst := some 57, op := Go.Op.load 36 (Go.Operand.tmp 56), type := 36, pos := "law.go:115", after := #[{ on := 0, ground := Go.Ground.data }], guard := none }) rfl (fun K hK => ?_) (AllReadyH.cons (o := { dst := some 71, op := Go.Op.buildSlice 36 1 #[(0, Go.Operand.tmp 70)], type := 36, pos := "law.go:115", after := #[{ on := 14, ground := Go.Ground.data }], guard := none }) rfl (fun K hK => ?_) AllReadyH.nil)
              · go_simp
                refine hK.out _ _ (KS.out _ HA1.out) (fun hHeld => ?_)
                clear hK K
                refine wpAnyH_ready (rs := [15]) (by kernel_rfl) (by simp) ?_
                refine AllReadyH.cons (o := { dst := some 71, op := Go.Op.buildSlice 36 1 #[(0, Go.Operand.tmp 70)], type := 36, pos := "law.go:115", after := #[{ on := 14, ground := Go.Ground.data }], guard := none }) rfl (fun K hK => ?_) AllReadyH.nil
                go_simp
                refine hK.out _ _ (KS.out _ HA2.out) (fun hHeld => ?_)
                clear hK K
                refine wpAnyH_ready (rs := [16]) (by kernel_rfl) (by simp) ?_
                refine AllReadyH.cons (o := { dst := some 72, op := Go.Op.call { callee := Go.Callee.builtin Go.Builtin.append, args := #[Go.Operand.tmp 57, Go.Operand.tmp 71], argTypes := #[36, 36] }, type := 36, pos := "law.go:115", after := #[{ on := 1, ground := Go.Ground.data }, { on := 15, ground := Go.Ground.data }], guard := none }) rfl (fun K hK => ?_) AllReadyH.nil
                refine step_append_lies _ (by rfl) _ _ _ (by rfl) (pb + 1) 55 i1 _ 7 96 Tryz.underlying36 hi1 hy0 hy1 hy2 rfl (by decide) (.slice xa i xc) _ _ (by rfl) HOE2.out ⟨wx.heap.size, 0, none⟩ 1 1 [.bool s0, .string ⟨s1.toArray⟩, .int .i64 tk, .string ⟨tw.toArray⟩, .slice ka kn kc, .bool o0, .string ⟨o1.toArray⟩] (by rfl) (by rfl) HNW.out (by simp [Value.oneCell']) (by decide) (by unfold maxLen; omega) (by omega) (by simp; omega) (wx.heap.size + 1) (by simp) ?_
                intro gg cap2 w9 hown9 hgrow9 hat9 hlt9
                have HW9 := zA (HKG.out gg cap2 w9 hown9 hgrow9)
                refine hK.out _ _ HW9.out.1 (fun hHeld => ?_)
                clear hK K hown9 hgrow9 hat9 hlt9
                obtain ⟨f2, f8⟩ := HW9.out.2.2.1
                refine wpAnyH_take (i := 17) (oi := { dst := some 73, op := Go.Op.fieldAddr 38 (Go.Operand.tmp 9) 1, type := 0, pos := "law.go:115", after := #[{ on := 0, ground := Go.Ground.phase }, { on := 1, ground := Go.Ground.phase }, { on := 2, ground := Go.Ground.phase }, { on := 3, ground := Go.Ground.phase }, { on := 4, ground := Go.Ground.phase }, { on := 5, ground := Go.Ground.phase }, { on := 6, ground := Go.Ground.phase }, { on := 7, ground := Go.Ground.phase }, { on := 8, ground := Go.Ground.phase }, { on := 9, ground := Go.Ground.phase }, { on := 10, ground := Go.Ground.phase }, { on := 11, ground := Go.Ground.phase }, { on := 12, ground := Go.Ground.phase }, { on := 13, ground := Go.Ground.phase }, { on := 14, ground := Go.Ground.phase }, { on := 15, ground := Go.Ground.phase }, { on := 16, ground := Go.Ground.phase }], guard := none }) (v := ?_) rfl (by kernel_rfl) (by kernel_rfl) (by kernel_rfl) (fun _ _ _ h => h) (Or.inl ⟨by rfl, ?_⟩) hHeld ?_
                rotate_left 1
                · intro W hSw
                  obtain ⟨l1, l2, l3, l4, l5, l6, l7, l8⟩ := hSw
                  go_simp
                  try with_reducible rfl
                simp only [Act.put, List.setIfInBounds_toArray, List.set_cons_zero, List.set_cons_succ]
                refine wpAnyH_ready (rs := [18]) (by kernel_rfl) (by simp) ?_
                refine AllReadyH.cons (o := { dst := none, op := Go.Op.store 36 (Go.Operand.tmp 73) (Go.Operand.tmp 72), type := 0, pos := "law.go:115", after := #[{ on := 17, ground := Go.Ground.data }, { on := 16, ground := Go.Ground.data }, { on := 16, ground := Go.Ground.chain }, { on := 0, ground := Go.Ground.phase }, { on := 1, ground := Go.Ground.phase }, { on := 2, ground := Go.Ground.phase }, { on := 3, ground := Go.Ground.phase }, { on := 4, ground := Go.Ground.phase }, { on := 5, ground := Go.Ground.phase }, { on := 6, ground := Go.Ground.phase }, { on := 7, ground := Go.Ground.phase }, { on := 8, ground := Go.Ground.phase }, { on := 9, ground := Go.Ground.phase }, { on := 10, ground := Go.Ground.phase }, { on := 11, ground := Go.Ground.phase }, { on := 12, ground := Go.Ground.phase }, { on := 13, ground := Go.Ground.phase }, { on := 14, ground := Go.Ground.phase }, { on := 15, ground := Go.Ground.phase }, { on := 16, ground := Go.Ground.phase }], guard := none }) rfl (fun K hK => ?_) AllReadyH.nil
                go_simp
                refine hK.out _ _ HW9.out.2.1 (fun hHeld => ?_)
                clear hK K f2 f8
                refine wpAnyH_done (by kernel_rfl) ?_ _
                go_wp2
                go_roundw
                case rel => exact ⟨i + 1, _, by omega, by go_num, HW9.out.2.2.2.1, HW9.out.2.2.2.2.1, HW9.out.2.2.2.2.2⟩
                case measure => simp [intOf]; omega
              · go_simp
                refine hK.out _ _ (KS.out _ HA2.out) (fun hHeld => ?_)
                clear hK K
                refine wpAnyH_ready (rs := [1]) (by kernel_rfl) (by simp) ?_
                refine AllReadyH.cons (o := { dst := some 57, op := Go.Op.load 36 (Go.Operand.tmp 56), type := 36, pos := "law.go:115", after := #[{ on := 0, ground := Go.Ground.data }], guard := none }) rfl (fun K hK => ?_) AllReadyH.nil
                go_simp
                refine hK.out _ _ (KS.out _ HA2.out) (fun hHeld => ?_)
                clear hK K
                refine wpAnyH_ready (rs := [16]) (by kernel_rfl) (by simp) ?_
                refine AllReadyH.cons (o := { dst := some 72, op := Go.Op.call { callee := Go.Callee.builtin Go.Builtin.append, args := #[Go.Operand.tmp 57, Go.Operand.tmp 71], argTypes := #[36, 36] }, type := 36, pos := "law.go:115", after := #[{ on := 1, ground := Go.Ground.data }, { on := 15, ground := Go.Ground.data }], guard := none }) rfl (fun K hK => ?_) AllReadyH.nil
                refine step_append_lies _ (by rfl) _ _ _ (by rfl) (pb + 1) 55 i1 _ 7 96 Tryz.underlying36 hi1 hy0 hy1 hy2 rfl (by decide) (.slice xa i xc) _ _ (by rfl) HOE2.out ⟨wx.heap.size, 0, none⟩ 1 1 [.bool s0, .string ⟨s1.toArray⟩, .int .i64 tk, .string ⟨tw.toArray⟩, .slice ka kn kc, .bool o0, .string ⟨o1.toArray⟩] (by rfl) (by rfl) HNW.out (by simp [Value.oneCell']) (by decide) (by unfold maxLen; omega) (by omega) (by simp; omega) (wx.heap.size + 1) (by simp) ?_
                intro gg cap2 w9 hown9 hgrow9 hat9 hlt9
                have HW9 := zA (HKG.out gg cap2 w9 hown9 hgrow9)
                refine hK.out _ _ HW9.out.1 (fun hHeld => ?_)
                clear hK K hown9 hgrow9 hat9 hlt9
                obtain ⟨f2, f8⟩ := HW9.out.2.2.1
                refine wpAnyH_take (i := 17) (oi := { dst := some 73, op := Go.Op.fieldAddr 38 (Go.Operand.tmp 9) 1, type := 0, pos := "law.go:115", after := #[{ on := 0, ground := Go.Ground.phase }, { on := 1, ground := Go.Ground.phase }, { on := 2, ground := Go.Ground.phase }, { on := 3, ground := Go.Ground.phase }, { on := 4, ground := Go.Ground.phase }, { on := 5, ground := Go.Ground.phase }, { on := 6, ground := Go.Ground.phase }, { on := 7, ground := Go.Ground.phase }, { on := 8, ground := Go.Ground.phase }, { on := 9, ground := Go.Ground.phase }, { on := 10, ground := Go.Ground.phase }, { on := 11, ground := Go.Ground.phase }, { on := 12, ground := Go.Ground.phase }, { on := 13, ground := Go.Ground.phase }, { on := 14, ground := Go.Ground.phase }, { on := 15, ground := Go.Ground.phase }, { on := 16, ground := Go.Ground.phase }], guard := none }) (v := ?_) rfl (by kernel_rfl) (by kernel_rfl) (by kernel_rfl) (fun _ _ _ h => h) (Or.inl ⟨by rfl, ?_⟩) hHeld ?_
                rotate_left 1
                · intro W hSw
                  obtain ⟨l1, l2, l3, l4, l5, l6, l7, l8⟩ := hSw
                  go_simp
                  try with_reducible rfl
                simp only [Act.put, List.setIfInBounds_toArray, List.set_cons_zero, List.set_cons_succ]
                refine wpAnyH_ready (rs := [18]) (by kernel_rfl) (by simp) ?_
                refine AllReadyH.cons (o := { dst := none, op := Go.Op.store 36 (Go.Operand.tmp 73) (Go.Operand.tmp 72), type := 0, pos := "law.go:115", after := #[{ on := 17, ground := Go.Ground.data }, { on := 16, ground := Go.Ground.data }, { on := 16, ground := Go.Ground.chain }, { on := 0, ground := Go.Ground.phase }, { on := 1, ground := Go.Ground.phase }, { on := 2, ground := Go.Ground.phase }, { on := 3, ground := Go.Ground.phase }, { on := 4, ground := Go.Ground.phase }, { on := 5, ground := Go.Ground.phase }, { on := 6, ground := Go.Ground.phase }, { on := 7, ground := Go.Ground.phase }, { on := 8, ground := Go.Ground.phase }, { on := 9, ground := Go.Ground.phase }, { on := 10, ground := Go.Ground.phase }, { on := 11, ground := Go.Ground.phase }, { on := 12, ground := Go.Ground.phase }, { on := 13, ground := Go.Ground.phase }, { on := 14, ground := Go.Ground.phase }, { on := 15, ground := Go.Ground.phase }, { on := 16, ground := Go.Ground.phase }], guard := none }) rfl (fun K hK => ?_) AllReadyH.nil
                go_simp
                refine hK.out _ _ HW9.out.2.1 (fun hHeld => ?_)
                clear hK K f2 f8
                refine wpAnyH_done (by kernel_rfl) ?_ _
                go_wp2
                go_roundw
                case rel => exact ⟨i + 1, _, by omega, by go_num, HW9.out.2.2.2.1, HW9.out.2.2.2.2.1, HW9.out.2.2.2.2.2⟩
                case measure => simp [intOf]; omega
            · have hltI : ¬ (k : Int) < (na : Int) := by omega
              have hkn : k = na := by omega
              subst hkn
              obtain ⟨xa, xc, hex⟩ := own_slice HROW.out
              subst hex
              have HAX : Hid (AtsS (fun _ => True) wx (.slice xa k xc) (rndL dAm atoms c2 k)) := zA ((own_sl csA_len HROW.out (rnd_len _ _ _ _).symm).sub (fun _ _ _ => trivial))
              have HGX : Hid (∀ u, Below wx.heap.size wx u → FasS (fun _ => True) u (.slice ga i gc) (rndL ([], [], []) fs c1 i)) := zA (fun u hu => HG4.out u (HBW.out.trans (hu.mono (by have h1 := HBW.out.size; have h2 := HZ4.out.1; omega))))
              go_wp2_with fail
              refine (CM.out _ HWX.out hn40).mono ?_
              rintro e w6 ⟨v6, rfl, hr6, hb6⟩
              have hb6' := HBX.out.trans (hb6.mono HBX.out.size)
              obtain ⟨ra, rn, rc, rfl⟩ := hr6.slice
              have HR6 := zA hr6
              have HP6 : Hid (w6.heap[pb]? = some (.cells #[.slice va nv vc, .slice xa k xc] 38 (0, 0))) := zA ((hb6.block pb (lt_of_block HBK.out)).trans HBK.out)
              have HA6 := zA (HAX.out.below hb6)
              have HG6 := zA (HGX.out _ hb6)
              clear d0 d1
              obtain ⟨⟨d0, d1⟩, _⟩ := cells2N HP6.out
              have HW6 := zA (HWX.out.trans (hb6.mono HWX.out.size))
              clear hb6 hr6 hb6' hlt hltI hi
              go_wp2_with fail
              refine (CM2.out _ _ _ HW6.out hn40 HG6.out HA6.out).mono ?_
              rintro e w7 ⟨v7, rfl, hr7, hb7⟩
              have HW7 := zA (HW6.out.trans (hb7.mono HW6.out.size))
              have HR7 := zA (HR6.out.below hb7)
              obtain ⟨qa, qn, qc, rfl⟩ := hr7.slice
              have HQ7 := zA hr7
              clear hb7 hr7 HW6 d0 d1 HR6
              go_wp2_with fail
              refine (rSameRows_any HR7.out HQ7.out HLL.out).mono ?_
              rintro e w8 ⟨rfl, hb8⟩
              rw [decide_eq_true rfl]
              have HW8 := zA (HW7.out.trans (hb8.mono HW7.out.size))
              clear hb8 HW7 HR7 HQ7
              go_wp2_with fail
              refine CQ.out _ HW8.out _ (fun w9 hb9 => ?_)
              have HW9 := zA hb9
              clear hb9
              go_wp2_with fail
              refine bodyPost_ret (v := .bool true) ?_ rfl ⟨rfl, HW9.out⟩
              simp [results, Tryz.results7, go_sem]
end Go.Proofs.YtkbgmcmcpbegjaaGreatDoor
