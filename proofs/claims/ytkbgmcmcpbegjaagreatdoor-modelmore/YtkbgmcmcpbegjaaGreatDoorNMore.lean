/- ModelMore. (Written by a program.) -/
import Derived.Test.YtkbgmcmcpbegjaaGreatDoorNTurnM
import Derived.Test.YtkbgmcmcpbegjaaGreatDoorMG50
import Derived.Test.YtkbgmcmcpbegjaaGreatDoorMG10
import Derived.Test.YtkbgmcmcpbegjaaGreatDoorMG41
import Derived.Test.YtkbgmcmcpbegjaaGreatDoorMG35
import Derived.Test.YtkbgmcmcpbegjaaGreatDoorMG45
import Derived.Test.YtkbgmcmcpbegjaaGreatDoorMG20
import Derived.Test.YtkbgmcmcpbegjaaGreatDoorMG24
import Derived.Test.YtkbgmcmcpbegjaaGreatDoorMG38
import Derived.Test.YtkbgmcmcpbegjaaGreatDoorMG39
import Derived.Test.YtkbgmcmcpbegjaaGreatDoorMG29
import Derived.Test.YtkbgmcmcpbegjaaGreatDoorMG0
namespace Go.Proofs.YtkbgmcmcpbegjaaGreatDoor
open Go.RowKit Go.Shelf

theorem infoFM : (Tryz.prog.info? 48).map (fun i => (i.zero, i.size, i.bytes)) = some (some (.agg #[.string ⟨#[]⟩, .string ⟨#[]⟩, .string ⟨#[]⟩]), 3, 48) := by kernel_rfl
theorem cells2M {w : World} {b : Nat} {c0 c1 : Value} {t : TypeId} (h : w.heap[b]? = some (.cells #[c0, c1] t (0, 0))) : w.cell? ⟨b, 0, none⟩ = some c0 ∧ w.cell? ⟨b, 1, none⟩ = some c1 := by
  simp [World.cell?, h]
theorem one_csFM (L : List Fa) : ∀ u ∈ L.flatMap csF, u.oneCell' = true := by
  intro u hu
  obtain ⟨x, _, h⟩ := List.mem_flatMap.1 hu
  simp at h
  rcases h with rfl | rfl | rfl <;> rfl
theorem rise_nodup {L : List Rw} (h : RiseL lessR L) : L.Nodup := h.imp (fun h => ordR.ne h)
/-- More facts: no fewer rows, or too many. -/
theorem more_rows {fs gs : List Fa} (h : ∀ f ∈ fs, f ∈ gs) (vars : List Wd) (P : List Pa) :
    (rowsEW fs vars P = rowsEW gs vars P ∧ ∀ r ∈ rowsAW fs vars P, r ∈ rowsAW gs vars P) ∨ (rowsEW fs vars P = 0 ∧ rowsEW gs vars P = 110) := by
  by_cases hm : mayQ vars P = true
  · obtain ⟨a1, a2⟩ := rowsW_spec fs hm
    obtain ⟨b1, b2⟩ := rowsW_spec gs hm
    have hs : ∀ r ∈ rowsW fs vars P, r ∈ rowsW gs vars P := fun r hr => (b2 r).2 (RowP.more h ((a2 r).1 hr))
    have hl := nodup_sub_lenN _ _ (rise_nodup a1) hs
    unfold rowsEW rowsAW
    rw [if_pos hm, if_pos hm, if_pos hm, if_pos hm]
    by_cases h1 : 4096 < (rowsW fs vars P).length
    · rw [if_pos h1, if_pos h1, if_pos (by omega), if_pos (by omega)]
      exact .inl ⟨rfl, fun r hr => hr⟩
    · rw [if_neg h1, if_neg h1]
      by_cases h2 : 4096 < (rowsW gs vars P).length
      · rw [if_pos h2]
        exact .inr ⟨rfl, rfl⟩
      · rw [if_neg h2, if_neg h2]
        exact .inl ⟨rfl, hs⟩
  · unfold rowsEW rowsAW
    rw [if_neg hm, if_neg hm, if_neg hm, if_neg hm]
    exact .inl ⟨rfl, fun r hr => hr⟩
theorem rowsAW_rise (fs : List Fa) (vars : List Wd) (P : List Pa) : RiseL lessR (rowsAW fs vars P) := by
  unfold rowsAW
  split
  · rename_i hm
    split
    · exact List.Pairwise.nil
    · exact (rowsW_spec fs hm).1
  · exact List.Pairwise.nil
theorem RowsS.at_ {w : World} {ao : Option Addr} {n cap i : Nat} {rs : List (Value × Rw)} {v : Value} {r : Rw} (h : RowsS w (.slice ao n cap) rs) (hi : rs[i]? = some (v, r)) : ∃ g off, ao = some ⟨g, off, none⟩ ∧ g < w.heap.size ∧ w.cell? ⟨g, off + i, none⟩ = some v ∧ TxtS (fun _ => True) w v r ∧ r.length ≤ 1000000 := by
  obtain ⟨g, off, e, _, hl, hc⟩ := h.src.sl.get hi
  have := hc 0 _ rfl
  rw [Nat.mul_one, Nat.add_zero] at this
  exact ⟨g, off, e, hl, this, h.rows _ (List.mem_of_getElem? hi)⟩
/-- What stands ahead of a row. -/
def Ahead (L1 L2 : List Rw) (k i : Nat) : Prop := ∀ (j : Nat) x y, j < k → L2[j]? = some x → L1[i]? = some y → lessR x y = true
def FinW (v : Value) (fs : List Fa) : Prop := FinF v fs ∧ fs.length * 48 ≤ 140737488351232 ∧ ∀ n cap, v = .slice none n cap → n = 0 ∧ cap = 0
theorem bytesFM : Tryz.prog.bytesOf 48 = 48 := by kernel_rfl
set_option maxRecDepth 100000 in
/-- Facts as an argument: how many there may be, and a slice that lies nowhere has no room. -/
theorem finW_of {H : Type} {enc : TypeId × Value → H} {W : World} {fuel : Nat} {ao : Option Addr} {N c : Nat} {x : DataW H × List MemPlace} {L : List Fa}
    (hf : DataW.trod enc Tryz.prog W 0 (fun _ => true) true fuel 22 [.slice ao N c] = some x) (hw : ∀ m ∈ x.1.weights Tryz.prog 22, m ≤ reachBytes) (hs : FasS (fun _ => True) W (.slice ao N c) L) (h : FinF (.slice ao N c) L) : FinW (.slice ao N c) L := by
  have h1 := slice_weight Tryz.underlying22 hf hw rfl
  rw [bytesFM] at h1
  obtain ⟨a2, c2, e2⟩ := hs.slice
  injection e2 with _ e2 _
  refine ⟨h, by rw [← e2]; unfold reachBytes at h1; omega, fun n cap e => ?_⟩
  injection e with e3 e4 e5
  subst e3 e4 e5
  rcases Go.Deep.open_slice Tryz.underlying22 hf with ⟨hcs, _⟩ | ⟨a, len, cap, m, n, D, Pl, hcs, _⟩
  · simp only [List.cons.injEq, and_true] at hcs
    injection hcs with _ h2 h3
    exact ⟨h2, h3⟩
  · simp only [List.cons.injEq, and_true] at hcs
    injection hcs with h2
    cases h2
set_option maxHeartbeats 16000000 in
set_option maxRecDepth 100000 in
theorem modelMore_walk (vf : Value) (fs : List Fa) (t : Fa) (q : Qm) (w : World) (hf : FasS (fun _ => True) w vf fs) (hs : FinW vf fs) (ht : t.1.length ≤ 140737488351232 ∧ t.2.1.length ≤ 140737488351232 ∧ t.2.2.length ≤ 140737488351232) (hq : QOk (fun _ => True) w q) (hc : CapS q.av q.atoms.length ∧ q.atoms.length ≤ 1500000000000) (hT : TabG w) :
    Calls Tryz.prog 6 #[vf, .agg (csF t).toArray, encQ q] w fun e w' => e = .returned (.bool true) ∧ Below w.heap.size w w' := by
  obtain ⟨⟨hlf, hw, _⟩, h48, hno⟩ := hs
  obtain ⟨fa, fc, rfl⟩ := hf.slice
  have hz0 : 0 < w.heap.size := World.block_lt_of_cell? _ _ (hT 0 (by decide))
  obtain ⟨n, hn⟩ : ∃ n, n = fs.length := ⟨_, rfl⟩
  obtain ⟨na, hna⟩ : ∃ n, n = q.atoms.length := ⟨_, rfl⟩
  have hwm : ∀ f ∈ fs ++ [t], f.1.length ≤ 140737488351232 ∧ f.2.1.length ≤ 140737488351232 ∧ f.2.2.length ≤ 140737488351232 := fun f hf => by
    rcases List.mem_append.1 hf with h | h
    · exact hw f h
    · simp at h
      subst h
      exact ht
  have HV : Hid (∀ u, Below w.heap.size w u → QOk (fun _ => True) u q) := zA (fun u hu => hq.below hu)
  have HF : Hid (∀ u, Below w.heap.size w u → FasS (fun _ => True) u (.slice fa n fc) fs) := zA (fun u hu => hn ▸ hf.below hu)
  have HT : Hid (∀ u, Below w.heap.size w u → TabG u) := zA (fun u hu => hT.below hz0 hu)
  obtain ⟨E1, hE1⟩ : ∃ E : Int, E = rowsEW fs q.vars (q.atoms.map Am.pa) := ⟨_, rfl⟩
  obtain ⟨L1, hL1⟩ : ∃ L : List Rw, L = rowsAW fs q.vars (q.atoms.map Am.pa) := ⟨_, rfl⟩
  obtain ⟨E2, hE2⟩ : ∃ E : Int, E = rowsEW (fs ++ [t]) q.vars (q.atoms.map Am.pa) := ⟨_, rfl⟩
  obtain ⟨L2, hL2⟩ : ∃ L : List Rw, L = rowsAW (fs ++ [t]) q.vars (q.atoms.map Am.pa) := ⟨_, rfl⟩
  obtain ⟨ms, hms⟩ : ∃ l, l = fs ++ [t] := ⟨_, rfl⟩
  have hE12 : (E1 = E2 ∧ ∀ r ∈ L1, r ∈ L2) ∨ (E1 = 0 ∧ E2 = 110) := by
    have := more_rows (fs := fs) (gs := fs ++ [t]) (fun f hf => by simp [hf]) q.vars (q.atoms.map Am.pa)
    rw [← hE1, ← hE2, ← hL1, ← hL2] at this
    exact this
  have HR1 : Hid (RiseL lessR L1 ∧ L1.length ≤ 4096) := zA (by rw [hL1]; exact ⟨rowsAW_rise _ _ _, rowsAW_len _ _ _⟩)
  have HR2 : Hid (RiseL lessR L2 ∧ L2.length ≤ 4096) := zA (by rw [hL2]; exact ⟨rowsAW_rise _ _ _, rowsAW_len _ _ _⟩)
  have CS : Hid (∀ u mv, Below w.heap.size w u → FasS (fun _ => True) u mv ms → Calls Tryz.prog 17 #[mv, encQ q] u fun e w' => FewB ms e ∧ Below u.heap.size u w') := zA (fun u mv hu hm => rSmall_any hm (HV.out u hu) hc.2 (by rw [hms]; simp; omega))
  have CF : Hid (∀ u, Below w.heap.size w u → Calls Tryz.prog 18 #[.agg #[.int .i64 0, q.vv, q.av, .slice none 0 0]] u fun e w' => FlatQ na q.vars.length e ∧ Below u.heap.size u w') := zA (fun u hu => by rw [hna]; exact rFlatQ_any (HV.out u hu))
  have CM : Hid (∀ u, Below w.heap.size w u → n ≤ 40 → Calls Tryz.prog 19 #[.slice fa n fc, encQ q] u fun e w' => ∃ v, e = .returned (.tuple #[v, .int .i64 E1]) ∧ RowsM w' v L1 ∧ Below u.heap.size u w') := zA (fun u hu hl => by
    have := rowsM_any (HF.out u hu) (by omega) hw (HV.out u hu) (HT.out u hu)
    unfold RwE at this
    rw [← hE1, ← hL1] at this
    exact this)
  have CM2 : Hid (∀ u mv, Below w.heap.size w u → n ≤ 40 → FasS (fun _ => True) u mv ms → Calls Tryz.prog 19 #[mv, encQ q] u fun e w' => ∃ v, e = .returned (.tuple #[v, .int .i64 E2]) ∧ RowsM w' v L2 ∧ Below u.heap.size u w') := zA (fun u mv hu hl hm => by
    have := rowsM_any hm (by rw [hms]; simp; omega) (by rw [hms]; exact hwm) (HV.out u hu) (HT.out u hu)
    unfold RwE at this
    rw [hms, ← hE2, ← hL2] at this
    exact this)
  have CQ : Hid (∀ u, Below w.heap.size w u → ∀ (K : Ending → World → Prop), (∀ w', Below w.heap.size w w' → K (.returned (.bool true)) w') → Calls Tryz.prog 10 #[] u K) := zA (fun u hu K hK => by
    refine (awake_any (HT.out u hu)).mono ?_
    rintro e w' ⟨rfl, hb⟩
    exact hK w' (hu.trans (hb.mono hu.size)))
  have HFW : Hid (Src csF 3 w (.slice fa n fc) fs ∧ n = fs.length ∧ ms = fs ++ [t]) := zA ⟨⟨HF.out w (Below.refl _ _), fun m c e => hno m c (by rw [← e, hn])⟩, hn, hms⟩
  rw [← hn] at h48
  rw [← hn]
  obtain ⟨va, vc, ev, _⟩ := hq.vcap
  obtain ⟨aa, ac, ea, _⟩ := hc.1
  clear hL1 hE1 hL2 hE2 HV HF HT hT hq hf hlf hw hz0 hc hwm hno ht
  obtain ⟨vv, vars, av, atoms⟩ := q
  dsimp only at ev ea hna CF
  subst ev
  rw [← hna] at ea
  subst ea
  obtain ⟨nv, hnv⟩ : ∃ n, n = vars.length := ⟨_, rfl⟩
  rw [← hnv] at CS CF CM CM2
  dsimp only [encQ] at CS CF CM CM2
  dsimp only [encQ]
  rw [← hnv]
  clear hnv hna hn hms
  obtain ⟨t0, t1, t2⟩ := t
  show Calls Tryz.prog _ #[_, .agg #[.string ⟨t0.toArray⟩, .string ⟨t1.toArray⟩, .string ⟨t2.toArray⟩], _] w _
  obtain ⟨oa, hoa⟩ : ∃ o, o = Obj.cells #[.string ⟨t0.toArray⟩, .string ⟨t1.toArray⟩, .string ⟨t2.toArray⟩] 48 (0, 0) := ⟨_, rfl⟩
  obtain ⟨o, ho⟩ : ∃ o, o = Obj.cells #[.slice va nv vc, .slice aa na ac] 38 (0, 0) := ⟨_, rfl⟩
  obtain ⟨wB, hwB⟩ : ∃ W, W = (w.alloc oa).alloc o := ⟨_, rfl⟩
  have hbB : Below w.heap.size w wB := by rw [hwB]; exact ((Below.refl _ _).alloc (Nat.le_refl _) _).alloc (by simp) _
  have HWB : Hid ((w.alloc (.cells #[.string ⟨t0.toArray⟩, .string ⟨t1.toArray⟩, .string ⟨t2.toArray⟩] 48)).alloc (.cells #[.slice va nv vc, .slice aa na ac] 38) = wB) := zA (by rw [hwB, hoa, ho])
  have hszB : wB.heap.size = w.heap.size + 2 := by rw [hwB]; simp
  have h0B : wB.heap[w.heap.size]? = some oa := by
    have h1 : Below (w.alloc oa).heap.size (w.alloc oa) wB := by rw [hwB]; exact (Below.refl _ _).alloc (Nat.le_refl _) _
    exact (h1.block w.heap.size (by simp)).trans (heap_alloc_new w oa)
  have h1B : wB.heap[w.heap.size + 1]? = some o := by
    have := heap_alloc_new (w.alloc oa) o
    rw [← hwB] at this
    simpa using this
  have HK : Hid (∀ u, Below wB.heap.size wB u → Below w.heap.size w u ∧ (u.cell? ⟨w.heap.size, 0, none⟩ = some (.string ⟨t0.toArray⟩) ∧ u.cell? ⟨w.heap.size, 1, none⟩ = some (.string ⟨t1.toArray⟩) ∧ u.cell? ⟨w.heap.size, 2, none⟩ = some (.string ⟨t2.toArray⟩)) ∧ u.cell? ⟨w.heap.size + 1, 0, none⟩ = some (.slice va nv vc) ∧ u.cell? ⟨w.heap.size + 1, 1, none⟩ = some (.slice aa na ac)) := zA (fun u hu => by
    have h1 := (hu.block w.heap.size (by omega)).trans h0B
    have h2 := (hu.block (w.heap.size + 1) (by omega)).trans h1B
    rw [hoa] at h1
    rw [ho] at h2
    exact ⟨hbB.trans (hu.mono hbB.size), (cells3G h1).1, cells2M h2⟩)
  have HSB := zA hszB
  have HBB := zA hbB
  obtain ⟨i0, hi0, hz0, hz1, hz2⟩ := info_partsG infoFM
  clear hwB hoa ho hbB hszB h0B h1B
  go_enter Tryz.func6, Tryz.ntmps6
  have HSRC : Hid (Src csF 3 wB (.slice fa n fc) fs) := zA (HFW.out.1.below HBB.out)
  go_wp2_with (at_builtin; rw [HWB.out]; refine wpList_append_many rfl _ _ rfl Tryz.underlying22 hi0 hz0 hz1 hz2 rfl (by decide) (by rfl) (World.ownsRow_nil _ wB.heap.size _ _) fa (fs.flatMap csF) n fc (by rfl) (by rw [flat_len csF_len, ← HFW.out.2.1]) (fun e => HSRC.out.no _ _ (by rw [e])) (HSRC.out.cells csF_len (by decide)) (one_csFM _) ?c1 ?c2 (Nat.le_refl _) ?_)
  case c1 => unfold maxLen; omega
  case c2 => omega
  intro v3 w3 hown3 hgrow3
  have hb3 : Below wB.heap.size wB w3 := Below.grown (Below.refl _ _) hgrow3 (Nat.le_refl _) (fun k hk => by cases hk)
  obtain ⟨a3, c3, rfl⟩ := own_slice hown3
  obtain ⟨_, ⟨d0, d1, d2⟩, d3, d4⟩ := HK.out _ hb3
  have HB3 := zA hb3
  obtain ⟨X, hX⟩ : ∃ X, X = fs.flatMap csF := ⟨_, rfl⟩
  rw [← hX] at hown3
  have HX := zA hX
  have HO3 := zA hown3
  clear hown3 hgrow3 hb3 hX HSRC
  go_wp2_with (at_builtin; refine wpList_append_lies _ rfl _ _ _ rfl wB.heap.size 48 i0 _ 3 48 Tryz.underlying22 hi0 hz0 hz1 hz2 rfl (by decide) (.slice a3 n c3) _ _ (by rfl) (HO3.out.alloc _) ⟨w3.heap.size, 0, none⟩ 1 1 [.string ⟨t0.toArray⟩, .string ⟨t1.toArray⟩, .string ⟨t2.toArray⟩] (by rfl) (by rfl) (World.news_of_block (cs := #[.string ⟨t0.toArray⟩, .string ⟨t1.toArray⟩, .string ⟨t2.toArray⟩]) (t := 48) (fr := (0, 0)) (heap_alloc_new w3 _)) (by simp [Value.oneCell']) (by decide) (by unfold maxLen; omega) (by omega) (by have := HB3.out.size; simp; omega) (w3.heap.size + 1) (by simp) ?_)
  intro gg cap7 w4 hown4 hgrow4 _ _
  have hb4 : Below wB.heap.size wB w4 := (HB3.out.alloc HB3.out.size _).grown hgrow4 (by have := HB3.out.size; simp; omega) (fun k hk => (HO3.out.lt k hk).1)
  have HM4 : Hid (FasS (fun _ => True) w4 (.slice (some ⟨gg, 0, none⟩) (n + 1) cap7) ms) := zA (by
    have h : w4.ownsRow wB.heap.size 48 3 (.slice (some ⟨gg, 0, none⟩) (n + 1) cap7) (n + 1) (ms.flatMap csF) := by
      rw [HFW.out.2.2, List.flatMap_append, ← HX.out]
      exact hown4
    exact (own_sl csF_len h (by rw [HFW.out.2.2, HFW.out.2.1]; simp)).sub (fun _ _ _ => trivial))
  clear d0 d1 d2 d3 d4
  obtain ⟨hB4, _, d3, d4⟩ := HK.out _ hb4
  have HB4 := zA hb4
  have HW4 := zA hB4
  clear hown4 hgrow4 hb4 hB4 HO3 HX HB3
  go_wp2_with fail
  refine (CS.out _ _ HW4.out HM4.out).mono ?_
  rintro e w5 ⟨⟨b, rfl, hbn⟩, hb5⟩
  have hb5' := HB4.out.trans (hb5.mono HB4.out.size)
  have HM5 := zA (HM4.out.below hb5)
  clear d3 d4
  obtain ⟨hB5, _, d3, d4⟩ := HK.out _ hb5'
  have HB5 := zA hb5'
  have HW5 := zA hB5
  clear hb5 hb5' hB5 HM4 HB4 HW4
  cases b with
  | false =>
    clear hbn
    go_wp2_with fail
    refine CQ.out _ HW5.out _ (fun w6 hb6 => ?_)
    have HW6 := zA hb6
    clear hb6
    go_wp2_with fail
    refine bodyPost_ret (v := .bool true) ?_ rfl ⟨rfl, HW6.out⟩
    simp [results, Tryz.results6, go_sem]
  | true =>
    have hn40 : n ≤ 40 := by
      have := hbn rfl
      rw [HFW.out.2.2] at this
      have h2 := HFW.out.2.1
      simp at this
      omega
    clear hbn
    go_wp2_with fail
    refine (CF.out _ HW5.out).mono ?_
    rintro e w6 ⟨⟨b, rfl, _⟩, hb6⟩
    have hb6' := HB5.out.trans (hb6.mono HB5.out.size)
    have HM6 := zA (HM5.out.below hb6)
    clear d3 d4
    obtain ⟨hB6, _, d3, d4⟩ := HK.out _ hb6'
    have HB6 := zA hb6'
    have HW6 := zA hB6
    clear hb6 hb6' hB6 HM5 HB5 HW5
    cases b with
    | false =>
      go_wp2_with fail
      refine CQ.out _ HW6.out _ (fun w7 hb7 => ?_)
      have HW7 := zA hb7
      clear hb7
      go_wp2_with fail
      refine bodyPost_ret (v := .bool true) ?_ rfl ⟨rfl, HW7.out⟩
      simp [results, Tryz.results6, go_sem]
    | true =>
      go_wp2_with fail
      refine (CM.out _ HW6.out hn40).mono ?_
      rintro e w7 ⟨v7, rfl, hr7, hb7⟩
      have hb7' := HB6.out.trans (hb7.mono HB6.out.size)
      have HM7 := zA (HM6.out.below hb7)
      obtain ⟨rs1, hs1, hm1⟩ := hr7
      obtain ⟨p1, c1, hv7⟩ := hs1.src.sl.slice
      obtain ⟨la, hla⟩ : ∃ n, n = rs1.length := ⟨_, rfl⟩
      rw [← hla] at hv7
      subst hv7
      have HS7 := zA hs1
      have HL1 : Hid (rs1.map (·.2) = L1 ∧ la = rs1.length) := zA ⟨hm1, hla⟩
      clear d3 d4 hm1 hs1 hla
      obtain ⟨hB7, _, d3, d4⟩ := HK.out _ hb7'
      have HW7 := zA hB7
      clear hb7 hb7' hB7 HM6 HB6 HW6
      go_wp2_with fail
      refine (CM2.out _ _ HW7.out hn40 HM7.out).mono ?_
      rintro e w8 ⟨v8, rfl, hr8, hb8⟩
      have HW8 := zA (HW7.out.trans (hb8.mono HW7.out.size))
      have HS8 := zA (HS7.out.below hb8)
      obtain ⟨rs2, hs2, hm2⟩ := hr8
      obtain ⟨p2, c2, hv8⟩ := hs2.src.sl.slice
      obtain ⟨lb, hlb⟩ : ∃ n, n = rs2.length := ⟨_, rfl⟩
      rw [← hlb] at hv8
      subst hv8
      have HT8 := zA hs2
      have HL2 : Hid (rs2.map (·.2) = L2 ∧ lb = rs2.length) := zA ⟨hm2, hlb⟩
      clear hb8 d3 d4 hm2 hs2 hlb HM7 HW7 HS7
      rcases hE12 with ⟨hEE, hsub⟩ | ⟨hEE, hEF⟩
      · subst hEE
        have HSUB := zA hsub
        clear hsub
        have hla4 : la ≤ 4096 := by have h1 := HL1.out; have h2 := HR1.out.2; rw [← h1.1, List.length_map] at h2; omega
        have hlb4 : lb ≤ 4096 := by have h1 := HL2.out; have h2 := HR2.out.2; rw [← h1.1, List.length_map] at h2; omega
        have hee : (E1 == E1) = true := by simp
        obtain ⟨W, hW⟩ : ∃ W, W = w8 := ⟨_, rfl⟩
        subst hW
        go_wp2_with fail
        go_loopw [12, 13] (fun s12 s13 wr => ∃ (k i : Nat), s12 = .int .i64 k ∧ s13 = .int .i64 i ∧ k ≤ lb ∧ i ≤ la ∧ Hid (Ahead L1 L2 k i) ∧ Hid (Below W.heap.size W wr)) (fun _ s13 _ => la - (intOf s13).toNat)
        case atStart => exact ⟨0, 0, rfl, rfl, Nat.zero_le _, Nat.zero_le _, zA (fun j x y h => absurd h (Nat.not_lt_zero _)), zA (Below.refl _ _)⟩
        case round =>
          obtain ⟨k0, i, rfl, rfl, hk0, hi, HAH0, HBW⟩ := hrel
          obtain ⟨wx, hwx⟩ : ∃ wx, wx = wr := ⟨_, rfl⟩
          subst hwx
          by_cases hlt : i < la
          · have hltI : (i : Int) < (la : Int) := by omega
            obtain ⟨⟨yv, r⟩, hr⟩ : ∃ r, rs1[i]? = some r := ⟨_, List.getElem?_eq_getElem (by rw [← HL1.out.2]; exact hlt)⟩
            have HR : Hid (L1[i]? = some r) := zA (by rw [← HL1.out.1, List.getElem?_map, hr]; rfl)
            obtain ⟨g1, o1, hp1, hg1, hc1, htx1, hrl1⟩ := HS8.out.at_ hr
            subst hp1
            obtain ⟨ya, yc, hyv⟩ := htx1.slice
            obtain ⟨yn, hyn⟩ : ∃ n, n = r.length := ⟨_, rfl⟩
            rw [← hyn] at hyv
            subst hyv
            obtain ⟨m, hm⟩ := List.getElem?_of_mem (HSUB.out r (List.mem_of_getElem? HR.out))
            have HMM := zA hm
            have HX1 := zA hc1
            have HTX1 := zA htx1
            have HRL1 := zA hrl1
            have HG1 := zA hg1
            clear hm hr hyn hc1 htx1 hrl1 hg1
            go_wp2_with fail
            go_loopw [12] (fun s12 wr => ∃ (k : Nat), s12 = .int .i64 k ∧ k ≤ lb ∧ Hid (Ahead L1 L2 k i) ∧ Hid (Below W.heap.size W wr)) (fun s12 _ => lb - (intOf s12).toNat)
            case atStart => exact ⟨k0, rfl, hk0, HAH0, HBW⟩
            case round =>
              clear hk0 HAH0 HBW
              obtain ⟨k, rfl, hk, HAH, HBK⟩ := hrel
              obtain ⟨wz, hwz⟩ : ∃ wz, wz = wr := ⟨_, rfl⟩
              subst hwz
              have hkm : k ≤ m := by
                rcases Nat.lt_or_ge m k with h | h
                · have := HAH.out m r r h HMM.out HR.out
                  rw [lessR_irr] at this
                  cases this
                · exact h
              have hml : m < lb := by
                have h1 := (List.getElem?_eq_some_iff.1 HMM.out).1
                rw [← HL2.out.1, List.length_map, ← HL2.out.2] at h1
                exact h1
              have hkl : k < lb := by omega
              have hkI : (k : Int) < (lb : Int) := by omega
              obtain ⟨⟨xv, x⟩, hx⟩ : ∃ r, rs2[k]? = some r := ⟨_, List.getElem?_eq_getElem (by rw [← HL2.out.2]; exact hkl)⟩
              have HXK : Hid (L2[k]? = some x) := zA (by rw [← HL2.out.1, List.getElem?_map, hx]; rfl)
              obtain ⟨g2, o2, hp2, hg2, hc2, htx2, hrl2⟩ := HT8.out.at_ hx
              subst hp2
              obtain ⟨xa, xc, hxv⟩ := htx2.slice
              obtain ⟨xn, hxn⟩ : ∃ n, n = x.length := ⟨_, rfl⟩
              rw [← hxn] at hxv
              subst hxv
              have KS : Hid (∀ u, Below W.heap.size W u → u.cell? ⟨g2, o2 + k, none⟩ = some (.slice xa xn xc) ∧ u.cell? ⟨g1, o1 + i, none⟩ = some (.slice ya yn yc)) := zA (fun u hu => ⟨(hu.cell (p := ⟨g2, o2 + k, none⟩) hg2).trans hc2, (hu.cell (p := ⟨g1, o1 + i, none⟩) HG1.out).trans HX1.out⟩)
              have HBX : Hid (Below W.heap.size W wz) := HBK
              have HU1 : Hid (Below W.heap.size W wz.drew) := zA HBK.out.drew
              obtain ⟨b, hb⟩ : ∃ b, b = lessR x r := ⟨_, rfl⟩
              have CL : Hid (Calls Tryz.prog 25 #[.slice xa xn xc, .slice ya yn yc] wz.drew fun e w' => e = .returned (.bool b) ∧ Below wz.drew.heap.size wz.drew w') := zA (by
                rw [hb]
                exact rLess_any (htx2.below HU1.out) (HTX1.out.below HU1.out) hrl2)
              have CW : Hid (∀ u, Below W.heap.size W u → Calls Tryz.prog 14 #[.slice ya yn yc, .slice xa xn xc] u fun e w' => e = .returned (.bool (decide (r = x))) ∧ Below u.heap.size u w') := zA (fun u hu => rSameW_any (HTX1.out.below hu) (htx2.below hu) (Nat.le_trans HRL1.out (by decide)))
              have HBE := zA hb
              clear hb hx hxn hg2 hc2 htx2 hrl2
              go_wp2_with fail
              refine wp_region_held_drew (S := fun u => u.cell? ⟨g2, o2 + k, none⟩ = some (.slice xa xn xc) ∧ u.cell? ⟨g1, o1 + i, none⟩ = some (.slice ya yn yc)) (by kernel_rfl) ?_ (fun hHeld => ?_)
              · exact KS.out _ HU1.out
              refine wpAnyH_take (i := 0) (oi := { dst := some 62, op := Go.Op.move (Go.Operand.tmp 12), type := 3, pos := "law.go:94", after := #[], guard := none }) (v := ?_) rfl (by kernel_rfl) (by kernel_rfl) (by kernel_rfl) (fun _ _ _ h => h) (Or.inl ⟨by rfl, ?_⟩) hHeld ?_
              rotate_left 1
              · intro W hSw
                obtain ⟨l1, l2⟩ := hSw
                go_simp
                try with_reducible rfl
              simp only [Act.put, List.setIfInBounds_toArray, List.set_cons_zero, List.set_cons_succ]
              refine wpAnyH_take (i := 1) (oi := { dst := some 63, op := Go.Op.move (Go.Operand.tmp 10), type := 28, pos := "law.go:94", after := #[], guard := none }) (v := ?_) rfl (by kernel_rfl) (by kernel_rfl) (by kernel_rfl) (fun _ _ _ h => h) (Or.inl ⟨by rfl, ?_⟩) hHeld ?_
              rotate_left 1
              · intro W hSw
                obtain ⟨l1, l2⟩ := hSw
                go_simp
                try with_reducible rfl
              simp only [Act.put, List.setIfInBounds_toArray, List.set_cons_zero, List.set_cons_succ]
              refine wpAnyH_take (i := 2) (oi := { dst := some 64, op := Go.Op.call { callee := Go.Callee.builtin Go.Builtin.len, args := #[Go.Operand.tmp 63], argTypes := #[28] }, type := 3, pos := "law.go:94", after := #[{ on := 1, ground := Go.Ground.data }], guard := none }) (v := ?_) rfl (by kernel_rfl) (by kernel_rfl) (by kernel_rfl) (fun _ _ _ h => h) (Or.inl ⟨by rfl, ?_⟩) hHeld ?_
              rotate_left 1
              · intro W hSw
                obtain ⟨l1, l2⟩ := hSw
                go_simp
                try with_reducible rfl
              simp only [Act.put, List.setIfInBounds_toArray, List.set_cons_zero, List.set_cons_succ]
              refine wpAnyH_take (i := 3) (oi := { dst := some 65, op := Go.Op.binOp Go.BinOp.lss 3 (Go.Operand.tmp 62) (Go.Operand.tmp 64) 3, type := 4, pos := "law.go:94", after := #[{ on := 0, ground := Go.Ground.data }, { on := 2, ground := Go.Ground.data }], guard := none }) (v := ?_) rfl (by kernel_rfl) (by kernel_rfl) (by kernel_rfl) (fun _ _ _ h => h) (Or.inl ⟨by rfl, ?_⟩) hHeld ?_
              rotate_left 1
              · intro W hSw
                obtain ⟨l1, l2⟩ := hSw
                go_simp
                try with_reducible rfl
              simp only [Act.put, List.setIfInBounds_toArray, List.set_cons_zero, List.set_cons_succ]
              refine wpAnyH_take (i := 4) (oi := { dst := some 66, op := Go.Op.move (Go.Operand.tmp 65), type := 4, pos := "law.go:94", after := #[{ on := 3, ground := Go.Ground.data }], guard := none }) (v := ?_) rfl (by kernel_rfl) (by kernel_rfl) (by kernel_rfl) (fun _ _ _ h => h) (Or.inl ⟨by rfl, ?_⟩) hHeld ?_
              rotate_left 1
              · intro W hSw
                obtain ⟨l1, l2⟩ := hSw
                go_simp
                try with_reducible rfl
              simp only [Act.put, List.setIfInBounds_toArray, List.set_cons_zero, List.set_cons_succ]
              refine wpAnyH_take (i := 5) (oi := { dst := some 67, op := Go.Op.move (Go.Operand.tmp 10), type := 28, pos := "law.go:94", after := #[{ on := 4, ground := Go.Ground.guard }], guard := some (4, true) }) (v := ?_) rfl (by kernel_rfl) (by kernel_rfl) (by kernel_rfl) (fun _ _ _ h => h) (Or.inl ⟨by rfl, ?_⟩) hHeld ?_
              rotate_left 1
              · intro W hSw
                obtain ⟨l1, l2⟩ := hSw
                go_simp
                try with_reducible rfl
              simp only [Act.put, List.setIfInBounds_toArray, List.set_cons_zero, List.set_cons_succ]
              refine wpAnyH_take (i := 6) (oi := { dst := some 68, op := Go.Op.move (Go.Operand.tmp 12), type := 3, pos := "law.go:94", after := #[{ on := 4, ground := Go.Ground.guard }], guard := some (4, true) }) (v := ?_) rfl (by kernel_rfl) (by kernel_rfl) (by kernel_rfl) (fun _ _ _ h => h) (Or.inl ⟨by rfl, ?_⟩) hHeld ?_
              rotate_left 1
              · intro W hSw
                obtain ⟨l1, l2⟩ := hSw
                go_simp
                try with_reducible rfl
              simp only [Act.put, List.setIfInBounds_toArray, List.set_cons_zero, List.set_cons_succ]
              refine wpAnyH_take (i := 7) (oi := { dst := some 69, op := Go.Op.indexAddr 28 (Go.Operand.tmp 67) (Go.Operand.tmp 68), type := 0, pos := "law.go:94", after := #[{ on := 5, ground := Go.Ground.data }, { on := 6, ground := Go.Ground.data }, { on := 4, ground := Go.Ground.guard }], guard := some (4, true) }) (v := ?_) rfl (by kernel_rfl) (by kernel_rfl) (by kernel_rfl) (fun _ _ _ h => h) (Or.inl ⟨by rfl, ?_⟩) hHeld ?_
              rotate_left 1
              · intro W hSw
                obtain ⟨l1, l2⟩ := hSw
                go_simp
                try with_reducible rfl
              simp only [Act.put, List.setIfInBounds_toArray, List.set_cons_zero, List.set_cons_succ]
              refine wpAnyH_take (i := 8) (oi := { dst := some 70, op := Go.Op.load 34 (Go.Operand.tmp 69), type := 34, pos := "law.go:94", after := #[{ on := 7, ground := Go.Ground.data }, { on := 4, ground := Go.Ground.guard }], guard := some (4, true) }) (v := ?_) rfl (by kernel_rfl) (by kernel_rfl) (by kernel_rfl) (fun _ _ _ h => h) (Or.inl ⟨by rfl, ?_⟩) hHeld ?_
              rotate_left 1
              · intro W hSw
                obtain ⟨l1, l2⟩ := hSw
                go_simp
                try with_reducible rfl
              simp only [Act.put, List.setIfInBounds_toArray, List.set_cons_zero, List.set_cons_succ]
              refine wpAnyH_take (i := 9) (oi := { dst := some 71, op := Go.Op.move (Go.Operand.tmp 8), type := 28, pos := "law.go:94", after := #[{ on := 4, ground := Go.Ground.guard }], guard := some (4, true) }) (v := ?_) rfl (by kernel_rfl) (by kernel_rfl) (by kernel_rfl) (fun _ _ _ h => h) (Or.inl ⟨by rfl, ?_⟩) hHeld ?_
              rotate_left 1
              · intro W hSw
                obtain ⟨l1, l2⟩ := hSw
                go_simp
                try with_reducible rfl
              simp only [Act.put, List.setIfInBounds_toArray, List.set_cons_zero, List.set_cons_succ]
              refine wpAnyH_take (i := 10) (oi := { dst := some 72, op := Go.Op.move (Go.Operand.tmp 13), type := 3, pos := "law.go:94", after := #[{ on := 4, ground := Go.Ground.guard }], guard := some (4, true) }) (v := ?_) rfl (by kernel_rfl) (by kernel_rfl) (by kernel_rfl) (fun _ _ _ h => h) (Or.inl ⟨by rfl, ?_⟩) hHeld ?_
              rotate_left 1
              · intro W hSw
                obtain ⟨l1, l2⟩ := hSw
                go_simp
                try with_reducible rfl
              simp only [Act.put, List.setIfInBounds_toArray, List.set_cons_zero, List.set_cons_succ]
              refine wpAnyH_take (i := 11) (oi := { dst := some 73, op := Go.Op.indexAddr 28 (Go.Operand.tmp 71) (Go.Operand.tmp 72), type := 0, pos := "law.go:94", after := #[{ on := 9, ground := Go.Ground.data }, { on := 10, ground := Go.Ground.data }, { on := 4, ground := Go.Ground.guard }], guard := some (4, true) }) (v := ?_) rfl (by kernel_rfl) (by kernel_rfl) (by kernel_rfl) (fun _ _ _ h => h) (Or.inl ⟨by rfl, ?_⟩) hHeld ?_
              rotate_left 1
              · intro W hSw
                obtain ⟨l1, l2⟩ := hSw
                go_simp
                try with_reducible rfl
              simp only [Act.put, List.setIfInBounds_toArray, List.set_cons_zero, List.set_cons_succ]
              refine wpAnyH_take (i := 12) (oi := { dst := some 74, op := Go.Op.load 34 (Go.Operand.tmp 73), type := 34, pos := "law.go:94", after := #[{ on := 11, ground := Go.Ground.data }, { on := 4, ground := Go.Ground.guard }], guard := some (4, true) }) (v := ?_) rfl (by kernel_rfl) (by kernel_rfl) (by kernel_rfl) (fun _ _ _ h => h) (Or.inl ⟨by rfl, ?_⟩) hHeld ?_
              rotate_left 1
              · intro W hSw
                obtain ⟨l1, l2⟩ := hSw
                go_simp
                try with_reducible rfl
              simp only [Act.put, List.setIfInBounds_toArray, List.set_cons_zero, List.set_cons_succ]
              refine wpAnyH_ready (rs := [13]) (by kernel_rfl) (by simp) ?_
              refine AllReadyH.cons (o := { dst := some 75, op := Go.Op.call { callee := Go.Callee.value (Go.Operand.func 25), args := #[Go.Operand.tmp 70, Go.Operand.tmp 74], argTypes := #[34, 34] }, type := 4, pos := "law.go:94", after := #[{ on := 8, ground := Go.Ground.data }, { on := 12, ground := Go.Ground.data }, { on := 4, ground := Go.Ground.chain }, { on := 4, ground := Go.Ground.guard }], guard := some (4, true) }) rfl (fun K hK => ?_) AllReadyH.nil
              go_simp
              refine CL.out.mono ?_
              rintro e w9 ⟨rfl, hb9⟩
              have HB9 := zA (HBK.out.drew.trans (hb9.mono HBK.out.size))
              have HU9 := zA (HBX.out.drew.trans (hb9.mono HBX.out.size))
              clear hb9
              go_wp2_with fail
              refine hK.out _ _ (KS.out _ HU9.out) (fun hHeld => ?_)
              clear hK K
              refine wpAnyH_take (i := 14) (oi := { dst := some 76, op := Go.Op.pick (Go.Operand.tmp 66) (Go.Operand.tmp 75) (Go.Operand.const (Go.Value.bool false)), type := 4, pos := "law.go:94", after := #[{ on := 4, ground := Go.Ground.data }, { on := 13, ground := Go.Ground.data }], guard := none }) (v := ?_) rfl (by kernel_rfl) (by kernel_rfl) (by kernel_rfl) (fun _ _ _ h => h) (Or.inl ⟨by rfl, ?_⟩) hHeld ?_
              rotate_left 1
              · intro W hSw
                obtain ⟨l1, l2⟩ := hSw
                go_simp
                try with_reducible rfl
              simp only [Act.put, List.setIfInBounds_toArray, List.set_cons_zero, List.set_cons_succ]
              refine wpAnyH_done (by kernel_rfl) ?_ _
              clear CL
              cases b with
              | true =>
                have HAN : Hid (Ahead L1 L2 (k + 1) i) := zA (fun j x' y' hj hx' hy' => by
                  rcases Nat.lt_or_ge j k with h | h
                  · exact HAH.out j x' y' h hx' hy'
                  · have : j = k := by omega
                    subst this
                    rw [HXK.out] at hx'
                    rw [HR.out] at hy'
                    injection hx' with hx'
                    injection hy' with hy'
                    rw [← hx', ← hy']
                    exact HBE.out.symm)
                go_wp2
                go_roundw
                case rel => exact ⟨k + 1, by go_num, by omega, HAN, HB9⟩
                case measure => simp [intOf]; omega
              | false =>
                have hxr : x = r := by
                  rcases Nat.lt_or_ge k m with h | h
                  · have h1 := HR2.out.1.lt_at ordR HXK.out HMM.out h
                    rw [← HBE.out] at h1
                    cases h1
                  · have : k = m := by omega
                    subst this
                    have h1 := HXK.out
                    rw [HMM.out] at h1
                    injection h1 with h1
                    exact h1.symm
                rw [decide_eq_true hxr.symm] at CW
                have HAN : Hid (Ahead L1 L2 k (i + 1)) := zA (fun j x' y' hj hx' hy' => by
                  have h1 := HAH.out j x' r hj hx' HR.out
                  exact lessR_tr _ _ _ h1 (HR1.out.1.lt_at ordR HR.out hy' (by omega)))
                have hkE : ¬ (k : Int) = (lb : Int) := by omega
                have hkE2 : ((k : Int) == (lb : Int)) = false := beq_eq_false_iff_ne.2 hkE
                clear hxr
                go_wp2_with fail
                refine wp_region_held_drew (S := fun u => u.cell? ⟨g2, o2 + k, none⟩ = some (.slice xa xn xc) ∧ u.cell? ⟨g1, o1 + i, none⟩ = some (.slice ya yn yc)) (by kernel_rfl) ?_ (fun hHeld => ?_)
                · exact KS.out _ HU9.out.drew
                refine wpAnyH_take (i := 0) (oi := { dst := some 79, op := Go.Op.move (Go.Operand.tmp 12), type := 3, pos := "law.go:97", after := #[], guard := none }) (v := ?_) rfl (by kernel_rfl) (by kernel_rfl) (by kernel_rfl) (fun _ _ _ h => h) (Or.inl ⟨by rfl, ?_⟩) hHeld ?_
                rotate_left 1
                · intro W hSw
                  obtain ⟨l1, l2⟩ := hSw
                  go_simp
                  try with_reducible rfl
                simp only [Act.put, List.setIfInBounds_toArray, List.set_cons_zero, List.set_cons_succ]
                refine wpAnyH_take (i := 1) (oi := { dst := some 80, op := Go.Op.move (Go.Operand.tmp 10), type := 28, pos := "law.go:97", after := #[], guard := none }) (v := ?_) rfl (by kernel_rfl) (by kernel_rfl) (by kernel_rfl) (fun _ _ _ h => h) (Or.inl ⟨by rfl, ?_⟩) hHeld ?_
                rotate_left 1
                · intro W hSw
                  obtain ⟨l1, l2⟩ := hSw
                  go_simp
                  try with_reducible rfl
                simp only [Act.put, List.setIfInBounds_toArray, List.set_cons_zero, List.set_cons_succ]
                refine wpAnyH_take (i := 2) (oi := { dst := some 81, op := Go.Op.call { callee := Go.Callee.builtin Go.Builtin.len, args := #[Go.Operand.tmp 80], argTypes := #[28] }, type := 3, pos := "law.go:97", after := #[{ on := 1, ground := Go.Ground.data }], guard := none }) (v := ?_) rfl (by kernel_rfl) (by kernel_rfl) (by kernel_rfl) (fun _ _ _ h => h) (Or.inl ⟨by rfl, ?_⟩) hHeld ?_
                rotate_left 1
                · intro W hSw
                  obtain ⟨l1, l2⟩ := hSw
                  go_simp
                  try with_reducible rfl
                simp only [Act.put, List.setIfInBounds_toArray, List.set_cons_zero, List.set_cons_succ]
                refine wpAnyH_take (i := 3) (oi := { dst := some 82, op := Go.Op.binOp Go.BinOp.eql 3 (Go.Operand.tmp 79) (Go.Operand.tmp 81) 3, type := 4, pos := "law.go:97", after := #[{ on := 0, ground := Go.Ground.data }, { on := 2, ground := Go.Ground.data }], guard := none }) (v := ?_) rfl (by kernel_rfl) (by kernel_rfl) (by kernel_rfl) (fun _ _ _ h => h) (Or.inl ⟨by rfl, ?_⟩) hHeld ?_
                rotate_left 1
                · intro W hSw
                  obtain ⟨l1, l2⟩ := hSw
                  go_simp
                  try with_reducible rfl
                simp only [Act.put, List.setIfInBounds_toArray, List.set_cons_zero, List.set_cons_succ]
                refine wpAnyH_take (i := 4) (oi := { dst := some 83, op := Go.Op.move (Go.Operand.tmp 82), type := 4, pos := "law.go:97", after := #[{ on := 3, ground := Go.Ground.data }], guard := none }) (v := ?_) rfl (by kernel_rfl) (by kernel_rfl) (by kernel_rfl) (fun _ _ _ h => h) (Or.inl ⟨by rfl, ?_⟩) hHeld ?_
                rotate_left 1
                · intro W hSw
                  obtain ⟨l1, l2⟩ := hSw
                  go_simp
                  try with_reducible rfl
                simp only [Act.put, List.setIfInBounds_toArray, List.set_cons_zero, List.set_cons_succ]
                refine wpAnyH_take (i := 5) (oi := { dst := some 84, op := Go.Op.move (Go.Operand.tmp 8), type := 28, pos := "law.go:97", after := #[{ on := 4, ground := Go.Ground.guard }], guard := some (4, false) }) (v := ?_) rfl (by kernel_rfl) (by kernel_rfl) (by kernel_rfl) (fun _ _ _ h => h) (Or.inl ⟨by rfl, ?_⟩) hHeld ?_
                rotate_left 1
                · intro W hSw
                  obtain ⟨l1, l2⟩ := hSw
                  go_simp
                  try with_reducible rfl
                simp only [Act.put, List.setIfInBounds_toArray, List.set_cons_zero, List.set_cons_succ]
                refine wpAnyH_take (i := 6) (oi := { dst := some 85, op := Go.Op.move (Go.Operand.tmp 13), type := 3, pos := "law.go:97", after := #[{ on := 4, ground := Go.Ground.guard }], guard := some (4, false) }) (v := ?_) rfl (by kernel_rfl) (by kernel_rfl) (by kernel_rfl) (fun _ _ _ h => h) (Or.inl ⟨by rfl, ?_⟩) hHeld ?_
                rotate_left 1
                · intro W hSw
                  obtain ⟨l1, l2⟩ := hSw
                  go_simp
                  try with_reducible rfl
                simp only [Act.put, List.setIfInBounds_toArray, List.set_cons_zero, List.set_cons_succ]
                refine wpAnyH_take (i := 7) (oi := { dst := some 86, op := Go.Op.indexAddr 28 (Go.Operand.tmp 84) (Go.Operand.tmp 85), type := 0, pos := "law.go:97", after := #[{ on := 5, ground := Go.Ground.data }, { on := 6, ground := Go.Ground.data }, { on := 4, ground := Go.Ground.guard }], guard := some (4, false) }) (v := ?_) rfl (by kernel_rfl) (by kernel_rfl) (by kernel_rfl) (fun _ _ _ h => h) (Or.inl ⟨by rfl, ?_⟩) hHeld ?_
                rotate_left 1
                · intro W hSw
                  obtain ⟨l1, l2⟩ := hSw
                  go_simp
                  try with_reducible rfl
                simp only [Act.put, List.setIfInBounds_toArray, List.set_cons_zero, List.set_cons_succ]
                refine wpAnyH_take (i := 8) (oi := { dst := some 87, op := Go.Op.load 34 (Go.Operand.tmp 86), type := 34, pos := "law.go:97", after := #[{ on := 7, ground := Go.Ground.data }, { on := 4, ground := Go.Ground.guard }], guard := some (4, false) }) (v := ?_) rfl (by kernel_rfl) (by kernel_rfl) (by kernel_rfl) (fun _ _ _ h => h) (Or.inl ⟨by rfl, ?_⟩) hHeld ?_
                rotate_left 1
                · intro W hSw
                  obtain ⟨l1, l2⟩ := hSw
                  go_simp
                  try with_reducible rfl
                simp only [Act.put, List.setIfInBounds_toArray, List.set_cons_zero, List.set_cons_succ]
                refine wpAnyH_take (i := 9) (oi := { dst := some 88, op := Go.Op.move (Go.Operand.tmp 10), type := 28, pos := "law.go:97", after := #[{ on := 4, ground := Go.Ground.guard }], guard := some (4, false) }) (v := ?_) rfl (by kernel_rfl) (by kernel_rfl) (by kernel_rfl) (fun _ _ _ h => h) (Or.inl ⟨by rfl, ?_⟩) hHeld ?_
                rotate_left 1
                · intro W hSw
                  obtain ⟨l1, l2⟩ := hSw
                  go_simp
                  try with_reducible rfl
                simp only [Act.put, List.setIfInBounds_toArray, List.set_cons_zero, List.set_cons_succ]
                refine wpAnyH_take (i := 10) (oi := { dst := some 89, op := Go.Op.move (Go.Operand.tmp 12), type := 3, pos := "law.go:97", after := #[{ on := 4, ground := Go.Ground.guard }], guard := some (4, false) }) (v := ?_) rfl (by kernel_rfl) (by kernel_rfl) (by kernel_rfl) (fun _ _ _ h => h) (Or.inl ⟨by rfl, ?_⟩) hHeld ?_
                rotate_left 1
                · intro W hSw
                  obtain ⟨l1, l2⟩ := hSw
                  go_simp
                  try with_reducible rfl
                simp only [Act.put, List.setIfInBounds_toArray, List.set_cons_zero, List.set_cons_succ]
                refine wpAnyH_take (i := 11) (oi := { dst := some 90, op := Go.Op.indexAddr 28 (Go.Operand.tmp 88) (Go.Operand.tmp 89), type := 0, pos := "law.go:97", after := #[{ on := 9, ground := Go.Ground.data }, { on := 10, ground := Go.Ground.data }, { on := 4, ground := Go.Ground.guard }], guard := some (4, false) }) (v := ?_) rfl (by kernel_rfl) (by kernel_rfl) (by kernel_rfl) (fun _ _ _ h => h) (Or.inl ⟨by rfl, ?_⟩) hHeld ?_
                rotate_left 1
                · intro W hSw
                  obtain ⟨l1, l2⟩ := hSw
                  go_simp
                  try with_reducible rfl
                simp only [Act.put, List.setIfInBounds_toArray, List.set_cons_zero, List.set_cons_succ]
                refine wpAnyH_take (i := 12) (oi := { dst := some 91, op := Go.Op.load 34 (Go.Operand.tmp 90), type := 34, pos := "law.go:97", after := #[{ on := 11, ground := Go.Ground.data }, { on := 4, ground := Go.Ground.guard }], guard := some (4, false) }) (v := ?_) rfl (by kernel_rfl) (by kernel_rfl) (by kernel_rfl) (fun _ _ _ h => h) (Or.inl ⟨by rfl, ?_⟩) hHeld ?_
                rotate_left 1
                · intro W hSw
                  obtain ⟨l1, l2⟩ := hSw
                  go_simp
                  try with_reducible rfl
                simp only [Act.put, List.setIfInBounds_toArray, List.set_cons_zero, List.set_cons_succ]
                refine wpAnyH_ready (rs := [13]) (by kernel_rfl) (by simp) ?_
                refine AllReadyH.cons (o := { dst := some 92, op := Go.Op.call { callee := Go.Callee.value (Go.Operand.func 14), args := #[Go.Operand.tmp 87, Go.Operand.tmp 91], argTypes := #[34, 34] }, type := 4, pos := "law.go:97", after := #[{ on := 8, ground := Go.Ground.data }, { on := 12, ground := Go.Ground.data }, { on := 4, ground := Go.Ground.chain }, { on := 4, ground := Go.Ground.guard }], guard := some (4, false) }) rfl (fun K hK => ?_) AllReadyH.nil
                go_simp
                refine (CW.out _ HU9.out.drew).mono ?_
                rintro e wa ⟨rfl, hba⟩
                have HBA := zA (HB9.out.drew.trans (hba.mono HB9.out.size))
                have HUA := zA (HU9.out.drew.trans (hba.mono HU9.out.size))
                clear hba
                go_wp2_with fail
                refine hK.out _ _ (KS.out _ HUA.out) (fun hHeld => ?_)
                clear hK K
                refine wpAnyH_take (i := 14) (oi := { dst := some 93, op := Go.Op.unOp Go.UnOp.not 4 (Go.Operand.tmp 92), type := 4, pos := "law.go:97", after := #[{ on := 13, ground := Go.Ground.data }, { on := 4, ground := Go.Ground.guard }], guard := some (4, false) }) (v := ?_) rfl (by kernel_rfl) (by kernel_rfl) (by kernel_rfl) (fun _ _ _ h => h) (Or.inl ⟨by rfl, ?_⟩) hHeld ?_
                rotate_left 1
                · intro W hSw
                  obtain ⟨l1, l2⟩ := hSw
                  go_simp
                  try with_reducible rfl
                simp only [Act.put, List.setIfInBounds_toArray, List.set_cons_zero, List.set_cons_succ]
                refine wpAnyH_take (i := 15) (oi := { dst := some 94, op := Go.Op.pick (Go.Operand.tmp 83) (Go.Operand.const (Go.Value.bool true)) (Go.Operand.tmp 93), type := 4, pos := "law.go:97", after := #[{ on := 4, ground := Go.Ground.data }, { on := 14, ground := Go.Ground.data }], guard := none }) (v := ?_) rfl (by kernel_rfl) (by kernel_rfl) (by kernel_rfl) (fun _ _ _ h => h) (Or.inl ⟨by rfl, ?_⟩) hHeld ?_
                rotate_left 1
                · intro W hSw
                  obtain ⟨l1, l2⟩ := hSw
                  go_simp
                  try with_reducible rfl
                simp only [Act.put, List.setIfInBounds_toArray, List.set_cons_zero, List.set_cons_succ]
                refine wpAnyH_done (by kernel_rfl) ?_ _
                go_wp2
                go_roundw
                case rel => exact ⟨k, i + 1, rfl, by go_num, by omega, by omega, HAN, HBA⟩
                case measure => simp [intOf]; omega
          · have hltI : ¬ (i : Int) < (la : Int) := by omega
            have HWX := zA (HW8.out.trans (HBW.out.mono HW8.out.size))
            go_wp2_with fail
            refine CQ.out _ HWX.out _ (fun w9 hb9 => ?_)
            have HW9 := zA hb9
            clear hb9
            go_wp2_with fail
            refine bodyPost_ret (v := .bool true) ?_ rfl ⟨rfl, HW9.out⟩
            simp [results, Tryz.results6, go_sem]
      · subst hEE hEF
        go_wp2_with fail
        refine CQ.out _ HW8.out _ (fun w9 hb9 => ?_)
        have HW9 := zA hb9
        clear hb9
        go_wp2_with fail
        refine bodyPost_ret (v := .bool true) ?_ rfl ⟨rfl, HW9.out⟩
        simp [results, Tryz.results6, go_sem]
end Go.Proofs.YtkbgmcmcpbegjaaGreatDoor
