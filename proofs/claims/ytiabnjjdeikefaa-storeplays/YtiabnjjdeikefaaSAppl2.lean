/- Apply, Room of the program. -/
import Derived.Test.YtiabnjjdeikefaaSApply
import Derived.Deep.RegionLaw
namespace Go.Proofs.Ytiabnjjdeikefaa
open Go.RowKit

theorem MSet.obj {w : World} {b : Nat} {l : List Tri} (h : MSet w b l) : ∃ es c, w.heap[b]? = some (.map es c) := by
  obtain ⟨D, ⟨es, c, h, _⟩, _⟩ := h
  exact ⟨es, c, h⟩
theorem RgS.iter {w : World} {b r cnt : Nat} {m vs : List Tri} (h : RgS w b r m vs cnt) : ∃ x y z c, w.heap[r]? = some (.mapIter x y z c) := by
  obtain ⟨D, left, ⟨es, clock, since, seen, c0, _, _, _, _, h, _⟩, _⟩ := h
  exact ⟨_, _, _, _, h⟩
theorem own_cells {w : World} {B n g : Nat} {e : TypeId} {size : Nat} {v : Value} {xs : List Value} (h : w.ownsRow B e size v n xs) (hg : v.ownBlock = some g) : ∃ cs fz, w.heap[g]? = some (.cells cs e fz) := by
  rcases h.2 with ⟨rfl, _⟩ | ⟨g', cap, cur, rfl, _, e3, _⟩
  · simp [Value.ownBlock] at hg
  · have : g' = g := by simpa [Value.ownBlock] using hg
    subst this
    exact ⟨_, _, e3⟩
section
variable {S : Nat → Prop} {w w' : World} {b mb N : Nat} {vt : Value} {F : List Tri} {ts : List (Nat × Tri)}
/-- A block is none of the store's. -/
def Apart (b mb : Nat) (vt : Value) (r : Nat) : Prop := r ≠ b ∧ r ≠ mb ∧ vt.ownBlock ≠ some r
theorem SAt.kept (h : SAt S w b mb N vt F ts) {r : Nat} (hg : w.grownBy w' (some r)) (ha : Apart b mb vt r) : SAt S w' b mb N vt F ts :=
  { h with
    blk := blk_grown h.blk hg (fun e => ha.1 (Option.some.inj e))
    om := h.om.key (fun o ho => blk_grown ho hg (fun e => ha.2.1 (Option.some.inj e)))
    ot := owns_grown h.ot hg (fun g e => by rw [← Option.some.inj e]; exact ha.2.2) }
theorem SAt.apartIter (h : SAt S w b mb N vt F ts) {r : Nat} {x : Option Nat} {y : Nat} {z : Array Nat} {c : Nat} (hr : w.heap[r]? = some (.mapIter x y z c)) : Apart b mb vt r := by
  obtain ⟨es, c', hm⟩ := h.om.obj
  refine ⟨fun e => ?_, fun e => ?_, fun e => ?_⟩
  · subst e; rw [h.blk] at hr; cases hr
  · subst e; rw [hm] at hr; cases hr
  · obtain ⟨cs, fz, hc⟩ := own_cells h.ot e
    rw [hc] at hr; cases hr
theorem SAt.turned {l : List Tri} (h : SAt S w b mb N vt F ts) (hg : w.grownBy w' (some mb)) (hm : MSet w' mb l) : SAt S w' b mb N vt l ts := by
  obtain ⟨es, c', ho⟩ := h.om.obj
  refine { h with blk := blk_grown h.blk hg (fun e => ?_), om := hm, ot := owns_grown h.ot hg (fun g e e' => ?_) }
  · have e := Option.some.inj e
    subst e; have hk := h.blk; rw [ho] at hk; cases hk
  · obtain ⟨cs, fz, hc⟩ := own_cells h.ot e'
    rw [← Option.some.inj e, ho] at hc; cases hc
/-- A turn more. -/
theorem SAt.push {u : World} {g cap : Nat} {p : Nat × Tri} {H : Nat} (h : SAt S w b mb N vt F ts) (hS : Low S w) (hown : u.ownsRow 0 72 4 (.slice (some ⟨g, 0, none⟩) (ts.length + 1) cap) (ts.length + 1) (ts.flatMap csU ++ csU p)) (hg : w.grownBy u vt.ownBlock) (ha : vt.ownBlock = some g ∨ g = H) (hH : w.heap.size ≤ H) :
    SAt S (u.setCell ⟨b, 3, none⟩ (.slice (some ⟨g, 0, none⟩) (ts.length + 1) cap)) b mb N (.slice (some ⟨g, 0, none⟩) (ts.length + 1) cap) F (ts ++ [p]) := by
  obtain ⟨es, c', ho⟩ := h.om.obj
  have hb := blk_grown h.blk hg (own_ne h.ot h.blk (by decide))
  have hmne : mb ≠ b := fun e => by subst e; have hk := h.blk; rw [ho] at hk; cases hk
  refine { blk := four_set3 hb, out := h.out, om := ?_, outm := h.outm, ot := ?_, outt := ?_ }
  · refine h.om.key (fun o hoo => (Below.heap_setCell u ⟨b, 3, none⟩ _ mb hmne).trans (blk_grown hoo hg (fun e => ?_)))
    obtain ⟨cs, fz, hc⟩ := own_cells h.ot e
    rw [ho] at hc; cases hc
  · rw [List.flatMap_append, List.length_append]
    simp only [List.flatMap_cons, List.flatMap_nil, List.append_nil, List.length_cons, List.length_nil, Nat.zero_add]
    exact owns_setAt hown hb (by decide)
  · intro g' hg' hk
    have e1 : g = g' := by simpa [Value.ownBlock] using hg'
    subst e1
    rcases ha with e2 | e2
    · exact h.outt g e2 hk
    · have := hS g hk; omega
end
theorem RgS.setCell {w : World} {m2 r cnt : Nat} {m vs : List Tri} {b i : Nat} {cs : Array Value} {y : TypeId} {fz : Nat × Nat} (h : RgS w m2 r m vs cnt) (hb : w.heap[b]? = some (.cells cs y fz)) (v : Value) : RgS (w.setCell ⟨b, i, none⟩ v) m2 r m vs cnt := by
  have hg : w.grownBy (w.setCell ⟨b, i, none⟩ v) (some b) := ⟨rfl, rfl, rfl, by simp, fun k _ hk => Below.heap_setCell w ⟨b, i, none⟩ v k (fun e => hk (congrArg some e))⟩
  obtain ⟨es, c, hm⟩ := h.set.obj
  obtain ⟨x, y', z, c', hr⟩ := h.iter
  refine h.kept hg (fun e => ?_) (fun e => ?_)
  · rw [← Option.some.inj e, hm] at hb; cases hb
  · rw [← Option.some.inj e, hr] at hb; cases hb
theorem RgS.grown {w u : World} {m2 r cnt : Nat} {m vs : List Tri} {B n : Nat} {e : TypeId} {size : Nat} {v : Value} {xs : List Value} (h : RgS w m2 r m vs cnt) (ho : w.ownsRow B e size v n xs) (hg : w.grownBy u v.ownBlock) : RgS u m2 r m vs cnt := by
  obtain ⟨es, c, hm⟩ := h.set.obj
  obtain ⟨x, y', z, c', hr⟩ := h.iter
  refine h.kept hg (fun e => ?_) (fun e => ?_)
  · obtain ⟨cs, fz, hc⟩ := own_cells ho e.symm
    rw [hm] at hc; cases hc
  · obtain ⟨cs, fz, hc⟩ := own_cells ho e.symm
    rw [hr] at hc; cases hc

/-- The facts lv are F, but for what has turned of vs. -/
structure Half (F vs lv : List Tri) : Prop where
  mem : ∀ x, decide (x ∈ lv) = (decide (x ∈ F) ^^ decide (x ∈ vs))
  few : lv.length ≤ F.length + vs.length
theorem half_nil (F : List Tri) : Half F [] F := ⟨fun x => by simp, by simp⟩
theorem Half.turn {F vs lv : List Tri} {x : Tri} (h : Half F vs lv) (hx : x ∉ vs) : Half F (vs ++ [x]) (turnL lv x) := by
  refine ⟨fun y => ?_, by have := turnL_len lv x; have := h.few; simp; omega⟩
  rw [mem_turnL_dec, h.mem y]
  by_cases e : y = x
  · subst e; simp [hx]
  · have : ¬ x = y := fun h => e h.symm
    simp [e, this]
theorem Half.end_ {F m vs lv : List Tri} {bt : List Chg} (h : Half F vs lv) (hT : Turned F bt m) (he : ∀ t, t ∈ vs ↔ t ∈ m) (x : Tri) : x ∈ doneT F bt ↔ x ∈ lv := by
  have h1 := h.mem x
  have h2 := (he x).trans (hT x)
  by_cases p : x ∈ F <;> by_cases q : x ∈ vs <;> by_cases r : x ∈ doneT F bt <;> by_cases s : x ∈ lv <;> simp [p, q, r, s] at h1 h2 ⊢

theorem infoU : (Try.prog.info? 72).map (fun i => (i.zero, i.size, i.bytes)) = some (some (.agg #[.int .i64 0, .string ⟨#[]⟩, .string ⟨#[]⟩, .string ⟨#[]⟩]), 4, 56) := by kernel_rfl

/-- What Apply answers, and makes. -/
def apE (All : List (List Tri)) (ver : Int) (bt : List Chg) : Nat := if mayT bt = false then 1 else if ver ≠ (All.length : Int) then 70 else if 4096 < (doneT (lastT All) bt).length then 2 else 0
def apA (All : List (List Tri)) (ver : Int) (bt : List Chg) : List (List Tri) := if apE All ver bt = 0 then All ++ [doneT (lastT All) bt] else All
def AEnd (S : Nat → Prop) (w : World) (b : Nat) (All : List (List Tri)) (ver : Int) (bt : List Chg) (e : Ending) (w' : World) : Prop :=
  e = .returned (.int .i64 (apE All ver bt : Int)) ∧ Q S w' b (apA All ver bt) ∧ Fr S w w'

set_option maxHeartbeats 8000000 in
set_option maxRecDepth 100000 in
theorem apply_any {S T : Nat → Prop} {w : World} {b : Nat} {All : List (List Tri)} (hQ : Q S w b All) (hS : Low S w) {v : Value} {bt : List Chg} (hv : ChgsS T w v bt) (hvl : bt.length ≤ 9223372036854775807) (ver : Int) (hAl : All.length ≤ 1000000) :
    Calls Try.prog 15 #[.pointer (some ⟨b, 0, none⟩), .int .i64 ver, v] w (AEnd S w b All ver bt) := by
  have HQ := Hid.mk hQ
  obtain ⟨mb, N, vt, ts, hA, hN, hH⟩ := hQ
  have HA := Hid.mk hA
  have HS := Hid.mk hS
  obtain ⟨⟨g0, g1, g2, g3⟩, _⟩ := four_cells hA.blk
  have C := Hid.mk (given_any b w g0)
  have CB := Hid.mk (isBatch_any hv hvl)
  have HV := Hid.mk hv
  have HN := Hid.mk hN
  have HH := Hid.mk hH
  have hNl : N ≤ 1000000 := by omega
  obtain ⟨ao, cap, hvv⟩ := hv.slice
  subst hvv
  obtain ⟨nb, hnb⟩ : ∃ nb, nb = bt.length := ⟨_, rfl⟩
  rw [← hnb] at CB HV ⊢
  have HNB := Hid.mk hnb
  clear hA hS hv hN hH hvl hAl hnb
  cases hm : mayT bt with
  | false =>
    rw [hm] at CB
    have HE : Hid (AEnd S w b All ver bt = fun e w' => e = .returned (.int .i64 1) ∧ Q S w' b All ∧ Fr S w w') := Hid.mk (by
      funext e w'
      have : apE All ver bt = 1 := by unfold apE; rw [if_pos hm]
      simp [AEnd, apA, this])
    rw [HE.out]
    clear HE hm
    go_enter Try.func15, Try.ntmps15
    go_wp2_with fail
    refine C.out.mono ?_
    rintro e w1 ⟨rfl, hw⟩
    have hw := hw.symm
    subst hw
    go_wp2_with fail
    refine CB.out.mono ?_
    rintro e w2 ⟨rfl, hb2⟩
    go_wp2
    go_ret
    exact ⟨rfl, HQ.out.below hb2, fr_below HS.out hb2⟩
  | true =>
    rw [hm] at CB
    have HM := Hid.mk hm
    clear hm
    by_cases hver : ver = (N : Int) + 1
    · have hlb := mayT_len HM.out
      have HWD : Hid (∀ c ∈ bt, isTW c.2 = true) := Hid.mk (fun c hc => mayT_word HM.out hc)
      have hE1 : apE All ver bt = if 4096 < (doneT (lastT All) bt).length then 2 else 0 := by
        unfold apE
        rw [if_neg (by rw [HM.out]; simp), if_neg (by rw [HN.out]; push_cast; simpa using hver)]
      subst hver
      obtain ⟨F, hF⟩ : ∃ F, F = lastT All := ⟨_, rfl⟩
      rw [← hF] at hE1 HA
      have HF := Hid.mk hF
      have HR : Hid (Rise F) := Hid.mk (by rw [hF]; exact HH.out.rise _ (lastT_mem HH.out.one))
      have hFl : F.length ≤ 4096 := by rw [hF]; exact HH.out.few _ (lastT_mem HH.out.one)
      clear hF
      obtain ⟨nd, hnd⟩ : ∃ nd, nd = (doneT F bt).length := ⟨_, rfl⟩
      rw [← hnd] at hE1
      have HND := Hid.mk hnd
      have hndl : nd ≤ 100000 := by rw [hnd]; have := doneT_len bt F; omega
      clear hnd
      have HE1 := Hid.mk hE1
      clear hE1
      go_enter Try.func15, Try.ntmps15
      go_wp2_with fail
      refine C.out.mono ?_
      rintro e w1 ⟨rfl, hw⟩
      have hw := hw.symm
      subst hw
      go_wp2_with fail
      refine CB.out.mono ?_
      rintro e w2 ⟨rfl, hb2⟩
      have HB2 := Hid.mk hb2
      have HA2 := Hid.mk (HA.out.below hb2)
      have HV2 := Hid.mk (HV.out.below hb2)
      clear C CB hb2 g0 g1 g2 g3
      obtain ⟨⟨g0, g1, g2, g3⟩, _⟩ := four_cells HA2.out.blk
      have CT := Hid.mk (turnedBy_any HV2.out hlb HWD.out g2 HA2.out.om)
      go_wp2_with fail
      refine CT.out.mono ?_
      rintro e w3 ⟨rfl, m, hM3, hT3, hml3, hb3⟩
      have HB3 := Hid.mk (HB2.out.trans (hb3.mono HB2.out.size))
      have HA3 := Hid.mk (HA2.out.below hb3)
      have HM3 := Hid.mk hM3
      have HM3w := Hid.mk hM3.word
      have HT3 := Hid.mk hT3
      clear CT hb3 hM3 hT3 g0 g1 g2 g3
      obtain ⟨m2, hm2⟩ : ∃ m2, m2 = w2.heap.size := ⟨_, rfl⟩
      rw [← hm2] at HM3 ⊢
      have hne : m2 ≠ mb := by have := HA2.out.om.lt; omega
      clear hm2
      obtain ⟨⟨g0, g1, g2, g3⟩, _⟩ := four_cells HA3.out.blk
      have CC := Hid.mk (countBehind_any g2 HA3.out.om HR.out hFl HM3.out hml3 HT3.out)
      rw [← HND.out] at CC
      go_wp2_with fail
      refine CC.out.mono ?_
      rintro e w4 ⟨rfl, hb4⟩
      have HB4 := Hid.mk (HB3.out.trans (hb4.mono HB3.out.size))
      have HA4 := Hid.mk (HA3.out.below hb4)
      have HM4 := Hid.mk (HM3.out.below hb4)
      clear CC hb4 g0 g1 g2 g3 HA3 HM3 HA2 HB2
      by_cases hfull : 4096 < nd
      · have hfullI : (4096 : Int) < (nd : Int) := by omega
        have HE : Hid (apE All ((N : Int) + 1) bt = 2) := Hid.mk (by rw [HE1.out, if_pos hfull])
        have HE2 : Hid (apA All ((N : Int) + 1) bt = All) := Hid.mk (by unfold apA; rw [HE.out, if_neg (by omega)])
        clear hfull
        go_wp2
        go_ret
        refine ⟨by rw [HE.out]; rfl, ?_, fr_below HS.out HB4.out⟩
        rw [HE2.out]
        exact HQ.out.below HB4.out
      · have hfullI : ¬ (4096 : Int) < (nd : Int) := by omega
        have HE : Hid (apE All ((N : Int) + 1) bt = 0) := Hid.mk (by rw [HE1.out, if_neg hfull])
        have HE2 : Hid (apA All ((N : Int) + 1) bt = All ++ [doneT F bt]) := Hid.mk (by unfold apA; rw [HE.out, if_pos rfl, HF.out])
        have HFW : Hid ((doneT F bt).length ≤ 4096) := Hid.mk (by rw [← HND.out]; omega)
        clear hfull
        go_wp2_with (at_range; refine wpList_range_set _ rfl _ rfl m2 m rfl HM4.out ?_; intro w5 hrg5 hg5)
        have B5 : Below w4.heap.size w4 w5 := (Below.refl _ _).grown hg5 (Nat.le_refl _) (by simp)
        have HA5 := Hid.mk (HA4.out.below B5)
        have HB5 := Hid.mk (HB4.out.trans (B5.mono HB4.out.size))
        obtain ⟨r, hr⟩ : ∃ r, r = w4.heap.size := ⟨_, rfl⟩
        rw [← hr] at hrg5 ⊢
        have HR5 := Hid.mk hrg5
        have hr1 : w.heap.size ≤ r := by rw [hr]; exact HB4.out.size
        clear hr B5 hrg5 hg5 HA4 HM4 HB4 HV2 HB3
        go_frame
        obtain ⟨i0, hi0, hz0, hz1, hz2⟩ := info_parts infoU
        go_loopw [8] (fun _ wr => ∃ (vs lv : List Tri) (vt' : Value) (cnt : Nat), RgS wr m2 r m vs cnt ∧ SAt S wr b mb N vt' lv (ts ++ vs.map fun t => (N + 1, t)) ∧ Half F vs lv ∧ Fr S w wr) (fun _ wr => wr.rangeLeft m2 r)
        case atStart => exact ⟨[], F, vt, m.length, HR5.out, by simpa using HA5.out, half_nil F, fr_below HS.out HB5.out⟩
        case round =>
          obtain ⟨vs, lv, vt', cnt, hRg, hAr, hHf, hFr⟩ := hrel
          have HRG := Hid.mk hRg
          have HAR := Hid.mk hAr
          have HHF := Hid.mk hHf
          have HFR := Hid.mk hFr
          have hvs : vs.length ≤ 64 := Nat.le_trans hRg.few hml3
          clear hRg hAr hHf hFr
          obtain ⟨⟨g0, g1, g2, g3⟩, ⟨f0, f1, f2, f3⟩⟩ := four_cells HAR.out.blk
          go_wp2_with (at_next; refine wpList_next_set _ rfl _ rfl m2 r m vs cnt rfl HRG.out (fun hall => ?_) (fun x w6 cnt6 hxm hxv hrg6 hlt6 hg6 hen => ?_))
          · have hh := HHF.out.end_ HT3.out hall
            have HQF : Hid (∀ u, SAt S u b mb (N + 1) vt' (doneT F bt) (ts ++ vs.map fun t => (N + 1, t)) → Q S u b (All ++ [doneT F bt])) := Hid.mk (fun u hu => by
              refine ⟨mb, N + 1, vt', ts ++ vs.map fun t => (N + 1, t), ?_, by rw [List.length_append, HN.out]; rfl, ?_⟩
              · rw [lastT_snoc]; exact hu
              · have := HH.out.next (m := vs) HM.out (by rw [← HF.out]; exact HFW.out) HRG.out.nodup (by rw [← HF.out]; exact fun t => (hall t).trans (HT3.out t)) hvs
                rw [HN.out, ← HF.out] at this
                exact this)
            have HAN : Hid (SAt S (wr.setCell ⟨b, 1, none⟩ (.int .i64 ((N : Int) + 1))) b mb (N + 1) vt' (doneT F bt) (ts ++ vs.map fun t => (N + 1, t))) := Hid.mk (by
              have ha := HAR.out
              obtain ⟨es, c', ho⟩ := ha.om.obj
              have hmne : mb ≠ b := fun e => by subst e; have hk := ha.blk; rw [ho] at hk; cases hk
              have hom := (ha.om.perm (HR.out.done bt).nodup hh).key (w' := wr.setCell ⟨b, 1, none⟩ (.int .i64 ((N : Int) + 1))) (fun o hoo => (Below.heap_setCell wr ⟨b, 1, none⟩ _ mb hmne).trans hoo)
              refine { blk := ?_, out := ha.out, om := hom, outm := ha.outm, ot := owns_setAt ha.ot ha.blk (by decide), outt := ha.outt }
              have := four_set1 (v := .int .i64 ((N : Int) + 1)) ha.blk
              push_cast
              exact this)
            have HFF : Hid (Fr S w (wr.setCell ⟨b, 1, none⟩ (.int .i64 ((N : Int) + 1)))) := Hid.mk (HFR.out.setCell HAR.out.out _)
            clear hh hall
            go_wp2
            go_ret
            refine ⟨by rw [HE.out]; rfl, ?_, HFF.out⟩
            rw [HE2.out]
            exact HQF.out _ HAN.out
          · clear g0 g1 g2 g3 f0 f1 f2 f3
            obtain ⟨i1, i2, i3, i4, hit⟩ := HRG.out.iter
            have A6 := HAR.out.kept hg6 (HAR.out.apartIter hit)
            have F6 : Fr S w w6 := HFR.out.grown HS.out hg6 (fun g e hk => by
              have e := Option.some.inj e
              subst e
              have := HS.out _ hk
              omega)
            have hw := HM3w.out x hxm
            have HLT := Hid.mk hlt6
            have HXV := Hid.mk hxv
            obtain ⟨W7, hW7⟩ : ∃ W7, W7 = w6.alloc (.cells #[strV x.1, strV x.2.1, strV x.2.2] 25) := ⟨_, rfl⟩
            have hB7 : Below w6.heap.size w6 W7 := by rw [hW7]; exact (Below.refl _ _).alloc (Nat.le_refl _) _
            have hbx : W7.heap[w6.heap.size]? = some (.cells #[strV x.1, strV x.2.1, strV x.2.2] 25) := by rw [hW7]; exact box_at w6 _
            have HBX := Hid.mk hbx
            have HB7 := Hid.mk hB7
            have HW7 := Hid.mk hW7
            have HA6 := Hid.mk A6
            have HF6 := Hid.mk F6
            have HRG6 := Hid.mk hrg6
            have HWX := Hid.mk hw
            have CK := Hid.mk (cloned_any x hw W7)
            obtain ⟨⟨p0, p1, p2⟩, _⟩ := box3 hbx
            rw [hW7] at p0 p1 p2
            have htb : w6.heap.size < W7.heap.size := lt_of_block hbx
            clear hit A6 F6 hw hlt6 hxv hxm hW7 hB7 hbx hg6 hrg6
            go_wp2_with fail
            rw [← HW7.out]
            refine CK.out.mono ?_
            rintro e w8 ⟨rfl, hb8⟩
            have hbx8 := (hb8.block _ htb).trans HBX.out
            have HB8 := Hid.mk (HB7.out.trans (hb8.mono HB7.out.size))
            clear p0 p1 p2 hb8 htb
            obtain ⟨⟨p0, p1, p2⟩, ⟨f0, f1, f2⟩⟩ := box3 hbx8
            obtain ⟨W9, hW9⟩ : ∃ W9, W9 = ((w8.setCell ⟨w6.heap.size, 0, none⟩ (strV x.1)).setCell ⟨w6.heap.size, 1, none⟩ (strV x.2.1)).setCell ⟨w6.heap.size, 2, none⟩ (strV x.2.2) := ⟨_, rfl⟩
            have hbx9 : W9.heap[w6.heap.size]? = some (.cells #[strV x.1, strV x.2.1, strV x.2.2] 25) := by
              rw [hW9]
              simp [World.setCell, Array.getElem?_modify, hbx8]
            have hB9 : Below w6.heap.size w6 W9 := by
              rw [hW9]
              exact ((HB8.out.setCell (p := ⟨w6.heap.size, 0, none⟩) (Nat.le_refl _) _).setCell (p := ⟨w6.heap.size, 1, none⟩) (Nat.le_refl _) _).setCell (p := ⟨w6.heap.size, 2, none⟩) (Nat.le_refl _) _
            have HW9 := Hid.mk hW9
            clear hbx8 hW9
            go_wp2_with fail
            rw [← HW9.out]
            clear p0 p1 p2 f0 f1 f2
            obtain ⟨⟨p0, p1, p2⟩, _⟩ := box3 hbx9
            have A9 := HA6.out.below hB9
            have HRG9 := Hid.mk (HRG6.out.below hB9)
            have HF9 := Hid.mk (HF6.out.next HS.out hB9)
            obtain ⟨⟨g0, g1, g2, g3⟩, _⟩ := four_cells A9.blk
            have HA9 := Hid.mk A9
            have HD9 : Hid (Below W9.heap.size W9 W9.drew) := Hid.mk (Below.refl _ _).drew
            have CT := Hid.mk (turn_any (HA9.out.om.below HD9.out) HWX.out (by have := HHF.out.few; omega))
            have htm : w6.heap.size ≠ mb := by have := HA6.out.om.lt; omega
            have hbm : b ≠ mb := fun e => by
              obtain ⟨es, c', ho⟩ := HA9.out.om.obj
              have hk := HA9.out.blk
              rw [e, ho] at hk; cases hk
            have HCC : Hid (∀ u, W9.drew.grownBy u (some mb) → u.cell? ⟨b, 2, none⟩ = some (.map (some mb)) ∧ u.cell? ⟨w6.heap.size, 0, none⟩ = some (strV x.1) ∧ u.cell? ⟨w6.heap.size, 1, none⟩ = some (strV x.2.1) ∧ u.cell? ⟨w6.heap.size, 2, none⟩ = some (strV x.2.2)) := Hid.mk (fun u hu => by
              have e1 := blk_grown (w := W9.drew) HA9.out.blk hu (fun e => hbm (Option.some.inj e).symm)
              have e2 := blk_grown (w := W9.drew) hbx9 hu (fun e => htm (Option.some.inj e).symm)
              exact ⟨(four_cells e1).1.2.2.1, (box3 e2).1⟩)
            have HBX9 := Hid.mk hbx9
            have HB9 := Hid.mk hB9
            clear A9 hB9 hbx9
            go_region_held3 (fun w' => w'.cell? ⟨b, 2, none⟩ = some (.map (some mb)) ∧ w'.cell? ⟨w6.heap.size, 0, none⟩ = some (strV x.1) ∧ w'.cell? ⟨w6.heap.size, 1, none⟩ = some (strV x.2.1) ∧ w'.cell? ⟨w6.heap.size, 2, none⟩ = some (strV x.2.2))
              (first | exact ⟨g2, p0, p1, p2⟩ | exact ⟨by assumption, by assumption, by assumption, by assumption⟩)
              (first | (go_at_call 35; refine CT.out.mono ?_; rintro e w10 ⟨rfl, hM10, hg10⟩; obtain ⟨r2, r3, r4, r5⟩ := HCC.out w10 hg10; have HM10 := Hid.mk hM10; have HG10 := Hid.mk hg10; clear hg10 hM10))
            have HA10 := Hid.mk ((HA9.out.below HD9.out).turned HG10.out HM10.out)
            have HF10 := Hid.mk ((HF9.out.next HS.out HD9.out).grown HS.out HG10.out (fun g e => by rw [← Option.some.inj e]; exact HA9.out.outm))
            have HRG10 := Hid.mk ((HRG9.out.below HD9.out).kept HG10.out (fun e => hne (Option.some.inj e)) (fun e => by
              obtain ⟨x1, x2, x3, x4, hi⟩ := HRG9.out.iter
              obtain ⟨es, c', ho⟩ := HA9.out.om.obj
              rw [Option.some.inj e, ho] at hi; cases hi))
            have HBX10 := Hid.mk (blk_grown (w := W9.drew) HBX9.out HG10.out (fun e => htm (Option.some.inj e).symm))
            have HT10 := Hid.mk (HHF.out.turn HXV.out)
            have hlts : (ts ++ vs.map fun t => (N + 1, t)).length ≤ 100000000 := by
              have h1 := HH.out.len
              rw [HN.out] at h1
              simp
              omega
            clear g0 g1 g2 g3 p0 p1 p2 r2 r3 r4 r5 HA9 HF9 HRG9 HBX9 HM10 HG10 HCC CT HD9
            obtain ⟨TS, hTS⟩ : ∃ TS, TS = ts ++ vs.map fun t => (N + 1, t) := ⟨_, rfl⟩
            rw [← hTS] at HA10 hlts
            have HTS : Hid (TS ++ [(N + 1, x)] = ts ++ (vs ++ [x]).map fun t => (N + 1, t)) := Hid.mk (by rw [hTS]; simp)
            clear hTS
            obtain ⟨a1, c1, hvt⟩ := own_slice HA10.out.ot
            subst hvt
            obtain ⟨n1, hn1⟩ : ∃ n1, n1 = TS.length := ⟨_, rfl⟩
            have hblk := HA10.out.blk
            have hot := HA10.out.ot
            rw [← hn1] at hlts hblk hot
            have HN1 := Hid.mk hn1
            clear hn1
            obtain ⟨⟨g0, g1, g2, g3⟩, ⟨f0, f1, f2, f3⟩⟩ := four_cells hblk
            obtain ⟨⟨p0, p1, p2⟩, _⟩ := box3 HBX10.out
            have ba : Below w10.heap.size w10 (w10.alloc (.cells #[.int .i64 ((N : Int) + 1), strV x.1, strV x.2.1, strV x.2.2] 72)).drew := ((Below.refl _ _).alloc (Nat.le_refl _) _).drew
            have ot11 := owns_below hot ba
            have hltb : b < w10.heap.size := lt_of_block hblk
            have hblk11 := (ba.block b hltb).trans hblk
            have HA11 := Hid.mk (HA10.out.below ba)
            have HF11 := Hid.mk (HF10.out.next HS.out ba)
            have HRG11 := Hid.mk (HRG10.out.below ba)
            clear ba
            go_wp2_with fail
            go_region_law (refine step_append_lies _ (by rfl) _ _ _ (by rfl) 0 72 i0 _ 4 56 Try.underlying60 hi0 hz0 hz1 hz2 rfl (by omega) (.slice a1 n1 c1) _ _ (by rfl) ot11 ⟨w10.heap.size, 0, none⟩ 1 1 [.int .i64 ((N : Int) + 1), strV x.1, strV x.2.1, strV x.2.2] (by rfl) (by rfl) (World.news_of_block (cs := #[.int .i64 ((N : Int) + 1), strV x.1, strV x.2.1, strV x.2.2]) (t := 72) (fr := (0, 0)) (heap_alloc_new w10 _)) (by simp [Value.oneCell']) (by omega) (by unfold maxLen; omega) (by omega) (Nat.zero_le _) (w10.heap.size + 1) (by simp) ?_; intro gg cap w11 hown11 hgrow11 hat11 hlt11; have hb11 := blk_grown hblk11 hgrow11 (own_ne ot11 hblk11 (by decide)); obtain ⟨⟨q0, q1, q2, q3⟩, ⟨j0, j1, j2, j3⟩⟩ := four_cells hb11)
            all_goals (
              have HAF : Hid (SAt S (w11.setCell ⟨b, 3, none⟩ (.slice (some ⟨gg, 0, none⟩) (n1 + 1) cap)) b mb N (.slice (some ⟨gg, 0, none⟩) (n1 + 1) cap) (turnL lv x) (ts ++ (vs ++ [x]).map fun t => (N + 1, t))) := Hid.mk (by
                have h1 := HA11.out
                rw [← HTS.out, HN1.out]
                refine h1.push (H := w10.heap.size + 1) (HS.out.fr HF11.out) ?_ (by rw [← HN1.out]; exact hgrow11) (by rw [← HN1.out]; exact hat11) (by simp)
                have h2 := hown11
                rw [HN1.out] at h2
                have e : csU (N + 1, x) = [.int .i64 ((N : Int) + 1), strV x.1, strV x.2.1, strV x.2.2] := by simp only [csU]; push_cast; rfl
                rw [e]
                exact h2)
              have HFF : Hid (Fr S w (w11.setCell ⟨b, 3, none⟩ (.slice (some ⟨gg, 0, none⟩) (n1 + 1) cap))) := Hid.mk ((HF11.out.grown HS.out hgrow11 (fun g e => HA11.out.outt g (by rw [← HN1.out]; exact e))).setCell HA11.out.out _)
              have HRF : Hid (RgS (w11.setCell ⟨b, 3, none⟩ (.slice (some ⟨gg, 0, none⟩) (n1 + 1) cap)) m2 r m (vs ++ [x]) cnt6) := Hid.mk ((HRG11.out.grown ot11 hgrow11).setCell hb11 _)
              clear hown11 hgrow11 hat11 hlt11 hb11 g0 g1 g2 g3 f0 f1 f2 f3 p0 p1 p2 ot11 hot hblk hblk11 HA11 HF11 HRG11
              go_wp2
              go_roundw
              case rel => exact ⟨vs ++ [x], _, _, _, HRF.out, HAF.out, HT10.out, HFF.out⟩
              case measure => rw [HRF.out.left_eq, HRG.out.left_eq]; exact HLT.out)
    · have hE1 : apE All ver bt = 70 := by
        unfold apE
        rw [if_neg (by rw [HM.out]; simp), if_pos (by rw [HN.out]; push_cast; simpa using hver)]
      have HE : Hid (AEnd S w b All ver bt = fun e w' => e = .returned (.int .i64 70) ∧ Q S w' b All ∧ Fr S w w') := Hid.mk (by
        funext e w'
        simp [AEnd, apA, hE1])
      rw [HE.out]
      have hver2 : (ver != (N : Int) + 1) = true := by simpa using hver
      clear HE hE1
      go_enter Try.func15, Try.ntmps15
      go_wp2_with fail
      refine C.out.mono ?_
      rintro e w1 ⟨rfl, hw⟩
      have hw := hw.symm
      subst hw
      go_wp2_with fail
      refine CB.out.mono ?_
      rintro e w2 ⟨rfl, hb2⟩
      have HA2 := Hid.mk (HA.out.below hb2)
      have HB2 := Hid.mk hb2
      clear C CB hb2 g0 g1 g2 g3
      obtain ⟨⟨g0, g1, g2, g3⟩, _⟩ := four_cells HA2.out.blk
      go_wp2
      go_ret
      exact ⟨rfl, HQ.out.below HB2.out, fr_below HS.out HB2.out⟩

/-- What Room answers. -/
def roomB (All : List (List Tri)) (bt : List Chg) : Bool := mayT bt && decide ((doneT (lastT All) bt).length ≤ 4096)
set_option maxHeartbeats 4000000 in
set_option maxRecDepth 100000 in
theorem room_any {S T : Nat → Prop} {w : World} {b : Nat} {All : List (List Tri)} (hQ : Q S w b All) {v : Value} {bt : List Chg} (hv : ChgsS T w v bt) (hvl : bt.length ≤ 9223372036854775807) :
    Calls Try.prog 12 #[.pointer (some ⟨b, 0, none⟩), v] w fun e w' => e = .returned (.bool (roomB All bt)) ∧ Below w.heap.size w w' := by
  obtain ⟨mb, N, vt, ts, hA, hN, hH⟩ := hQ
  have HA := Hid.mk hA
  obtain ⟨⟨g0, g1, g2, g3⟩, _⟩ := four_cells hA.blk
  have C := Hid.mk (given_any b w g0)
  have CB := Hid.mk (isBatch_any hv hvl)
  have HV := Hid.mk hv
  have HH := Hid.mk hH
  obtain ⟨ao, cap, hvv⟩ := hv.slice
  subst hvv
  obtain ⟨nb, hnb⟩ : ∃ nb, nb = bt.length := ⟨_, rfl⟩
  rw [← hnb] at CB HV ⊢
  have HNB := Hid.mk hnb
  clear hA hv hN hH hvl hnb
  cases hm : mayT bt with
  | false =>
    rw [hm] at CB
    have HE : Hid (roomB All bt = false) := Hid.mk (by unfold roomB; rw [hm]; rfl)
    rw [HE.out]
    clear HE hm
    go_enter Try.func12, Try.ntmps12
    go_wp2_with fail
    refine C.out.mono ?_
    rintro e w1 ⟨rfl, hw⟩
    have hw := hw.symm
    subst hw
    go_wp2_with fail
    refine CB.out.mono ?_
    rintro e w2 ⟨rfl, hb2⟩
    go_wp2
    go_ret
    exact ⟨rfl, hb2⟩
  | true =>
    rw [hm] at CB
    have HM := Hid.mk hm
    have hlb := mayT_len hm
    have HWD : Hid (∀ c ∈ bt, isTW c.2 = true) := Hid.mk (fun c hc => mayT_word HM.out hc)
    clear hm
    obtain ⟨F, hF⟩ : ∃ F, F = lastT All := ⟨_, rfl⟩
    rw [← hF] at HA
    have HR : Hid (Rise F) := Hid.mk (by rw [hF]; exact HH.out.rise _ (lastT_mem HH.out.one))
    have hFl : F.length ≤ 4096 := by rw [hF]; exact HH.out.few _ (lastT_mem HH.out.one)
    have HE : Hid (roomB All bt = decide ((doneT F bt).length ≤ 4096)) := Hid.mk (by unfold roomB; rw [HM.out, ← hF]; rfl)
    clear hF
    obtain ⟨nd, hnd⟩ : ∃ nd, nd = (doneT F bt).length := ⟨_, rfl⟩
    rw [← hnd] at HE
    have HND := Hid.mk hnd
    clear hnd
    rw [HE.out]
    obtain ⟨ans, hans⟩ : ∃ a, a = decide (nd ≤ 4096) := ⟨_, rfl⟩
    rw [← hans]
    have HANS := Hid.mk hans
    clear hans
    go_enter Try.func12, Try.ntmps12
    go_wp2_with fail
    refine C.out.mono ?_
    rintro e w1 ⟨rfl, hw⟩
    have hw := hw.symm
    subst hw
    go_wp2_with fail
    refine CB.out.mono ?_
    rintro e w2 ⟨rfl, hb2⟩
    have HB2 := Hid.mk hb2
    have HA2 := Hid.mk (HA.out.below hb2)
    have HV2 := Hid.mk (HV.out.below hb2)
    clear C CB hb2 g0 g1 g2 g3
    obtain ⟨⟨g0, g1, g2, g3⟩, _⟩ := four_cells HA2.out.blk
    have CT := Hid.mk (turnedBy_any HV2.out hlb HWD.out g2 HA2.out.om)
    go_wp2_with fail
    refine CT.out.mono ?_
    rintro e w3 ⟨rfl, m, hM3, hT3, hml3, hb3⟩
    have HB3 := Hid.mk (HB2.out.trans (hb3.mono HB2.out.size))
    have HA3 := Hid.mk (HA2.out.below hb3)
    have HM3 := Hid.mk hM3
    have HT3 := Hid.mk hT3
    clear CT hb3 hM3 hT3 g0 g1 g2 g3
    obtain ⟨m2, hm2⟩ : ∃ m2, m2 = w2.heap.size := ⟨_, rfl⟩
    rw [← hm2] at HM3 ⊢
    clear hm2
    obtain ⟨⟨g0, g1, g2, g3⟩, _⟩ := four_cells HA3.out.blk
    have CC := Hid.mk (countBehind_any g2 HA3.out.om HR.out hFl HM3.out hml3 HT3.out)
    rw [← HND.out] at CC
    go_wp2_with fail
    refine CC.out.mono ?_
    rintro e w4 ⟨rfl, hb4⟩
    have HB4 := Hid.mk (HB3.out.trans (hb4.mono HB3.out.size))
    clear CC hb4 g0 g1 g2 g3 HA3 HM3 HA2 HB2
    by_cases hf : nd ≤ 4096
    · have hfI : (nd : Int) ≤ 4096 := by omega
      have HA : Hid (ans = true) := Hid.mk (by rw [HANS.out, decide_eq_true hf])
      clear hf
      go_wp2
      go_ret
      exact ⟨by rw [HA.out]; rfl, HB4.out⟩
    · have hfI : ¬ (nd : Int) ≤ 4096 := by omega
      have HA : Hid (ans = false) := Hid.mk (by rw [HANS.out, decide_eq_false hf])
      clear hf
      go_wp2
      go_ret
      exact ⟨by rw [HA.out]; simp; omega, HB4.out⟩
end Go.Proofs.Ytiabnjjdeikefaa
