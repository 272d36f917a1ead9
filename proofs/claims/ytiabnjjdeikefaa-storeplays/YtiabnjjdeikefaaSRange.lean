/- Ranging over a map of facts; countBehind of the program. -/
import Derived.Test.YtiabnjjdeikefaaSTurn
namespace Go.Proofs.Ytiabnjjdeikefaa
open Go.RowKit

/-- vs have come of m. -/
structure Seen (m vs : List Tri) (left : Lit → Bool) : Prop where
  nodup : vs.Nodup
  sub : ∀ t ∈ vs, t ∈ m
  mem : ∀ t ∈ m, (t ∈ vs ↔ left (kT t) = false)
/-- A range over the map b, of the facts m, is under way: vs have come. -/
def RgS (w : World) (b r : Nat) (m vs : List Tri) (cnt : Nat) : Prop :=
  ∃ (D : DataW Unit) (left : Lit → Bool), w.ranges Try.prog 25 (unitElem (H := Unit)) b r m.length D left cnt ∧ (∀ t, FineT t → Maps.has D (kT t) = decide (t ∈ m)) ∧ m.Nodup ∧ (∀ t ∈ m, isTW t = true) ∧ Maps.size D = m.length ∧ Seen m vs left ∧ vs.length + cnt ≤ m.length
section
variable {w w' : World} {b r cnt : Nat} {m vs : List Tri}
theorem RgS.kept (h : RgS w b r m vs cnt) {row : Option Nat} (hg : w.grownBy w' row) (hb : some b ≠ row) (hr : some r ≠ row) : RgS w' b r m vs cnt := by
  obtain ⟨D, left, h, q⟩ := h
  exact ⟨D, left, h.kept hg hb hr, q⟩
theorem RgS.below (h : RgS w b r m vs cnt) (hb : Below w.heap.size w w') : RgS w' b r m vs cnt := h.kept (grown_below hb none) (by simp) (by simp)
theorem RgS.set (h : RgS w b r m vs cnt) : MSet w b m := by
  obtain ⟨D, left, h, h2, h3, h4, h5, _⟩ := h
  exact ⟨D, h.owns, h2, h3, h4, h5⟩
theorem RgS.left_eq (h : RgS w b r m vs cnt) : w.rangeLeft b r = cnt := by
  obtain ⟨D, left, h, _⟩ := h
  exact h.left_eq
theorem RgS.ne (h : RgS w b r m vs cnt) : r ≠ b := by
  obtain ⟨D, left, h, _⟩ := h
  exact h.ne
theorem RgS.lt (h : RgS w b r m vs cnt) : r < w.heap.size := by
  obtain ⟨D, left, h, _⟩ := h
  exact h.lt
theorem RgS.few (h : RgS w b r m vs cnt) : vs.length ≤ m.length := by
  obtain ⟨D, left, _, _, _, _, _, _, h⟩ := h
  omega
theorem RgS.nodup (h : RgS w b r m vs cnt) : vs.Nodup := by
  obtain ⟨D, left, _, _, _, _, _, h, _⟩ := h
  exact h.nodup
theorem RgS.sub (h : RgS w b r m vs cnt) : ∀ t ∈ vs, t ∈ m := by
  obtain ⟨D, left, _, _, _, _, _, h, _⟩ := h
  exact h.sub
end
theorem wpList_range_set (w : World) {ops : Array Oper} {rest : List Oper} {o : Oper} {a : Act} {Q : Exit → Act → World → Prop}
    (hg : o.guard = none) (x : Operand) (hop : o.op = Op.range 59 x) (b : Nat) (m : List Tri) (hm : a.eval x = .map (some b)) (hM : MSet w b m)
    (hK : ∀ w', RgS w' b w.heap.size m [] m.length → w.grownBy w' none → wpList Try.prog ops Q rest (a.put o.dst (.pointer (some ⟨w.heap.size, 0, none⟩))) w') :
    wpList Try.prog ops Q (o :: rest) a w := by
  obtain ⟨D, h1, h2, h3, h4, h5⟩ := hM
  refine wpList_range_own w hg x _ hop 25 79 lawT Try.underlying59 unitElem b _ D hm h1 ?_
  intro w' hr hg' _
  refine hK w' ⟨D, _, h5 ▸ hr, h2, h3, h4, h5, ⟨List.nodup_nil, by simp, fun t ht => ?_⟩, by simp⟩ hg'
  rw [h2 t (fine_word (h4 t ht)), decide_eq_true ht]; simp
theorem wpList_next_set (w : World) {ops : Array Oper} {rest : List Oper} {o : Oper} {a : Act} {Q : Exit → Act → World → Prop}
    (hg : o.guard = none) (it : Operand) (hop : o.op = Op.next it false) (b r : Nat) (m vs : List Tri) (cnt : Nat) (hit : a.eval it = .pointer (some ⟨r, 0, none⟩)) (h : RgS w b r m vs cnt)
    (hDone : (∀ t, t ∈ vs ↔ t ∈ m) → wpList Try.prog ops Q rest (a.put o.dst (.tuple #[.bool false])) w)
    (hMore : ∀ (x : Tri) (w' : World) (cnt' : Nat), x ∈ m → x ∉ vs → RgS w' b r m (vs ++ [x]) cnt' → cnt' < cnt → w.grownBy w' (some r) →
      (Instr.entry (.pointer (some ⟨r, 0, none⟩))).run Try.prog w' = .ok (.tuple #[encT x, .agg #[]]) w' → wpList Try.prog ops Q rest (a.put o.dst (.tuple #[.bool true, encT x, .agg #[]])) w') :
    wpList Try.prog ops Q (o :: rest) a w := by
  obtain ⟨D, left, hr, h2, h3, h4, h5, hS, hc⟩ := h
  refine wpList_next_ranges (β := Unit) w hg it hop 25 lawT unitElem encT (fun _ => .agg #[]) (fun key kl hk => by obtain ⟨t, e, _⟩ := keyT_inv hk; exact ⟨t, e⟩) (fun v y hv => ⟨(), (unitElem_inv hv).1⟩) b r _ D left cnt hit hr ?_ ?_
  · intro _ hl
    refine hDone (fun t => ⟨hS.sub t, fun ht => (hS.mem t ht).2 (hl _)⟩)
  · intro x _ kl y w' cnt' hk hl _ hat hr' hlt hg' _ hen
    obtain ⟨x', ex, hfx, rfl⟩ := keyT_inv hk
    have exx : x = x' := by
      simp [encT, strV] at ex
      exact Prod.ext ex.1 (Prod.ext ex.2.1 ex.2.2)
    subst exx
    have hxm : x ∈ m := by
      have := h2 x hfx
      rw [Maps.has_true_of_atKey hat] at this
      exact of_decide_eq_true this.symm
    have hxv : x ∉ vs := fun hv => by rw [(hS.mem x hxm).1 hv] at hl; cases hl
    refine hMore x w' cnt' hxm hxv ⟨D, _, hr', h2, h3, h4, h5, ⟨?_, ?_, ?_⟩, by simp; omega⟩ hlt hg' hen
    · rw [List.nodup_append]
      exact ⟨hS.nodup, by simp, fun a ha b hb => by simp at hb; subst hb; intro e; subst e; exact hxv ha⟩
    · intro t ht
      rcases List.mem_append.1 ht with ht | ht
      · exact hS.sub t ht
      · simp at ht; subst ht; exact hxm
    · intro t ht
      rw [List.mem_append, hS.mem t ht]
      by_cases e : t = x
      · subst e
        simp [WideAt.sameKey_self (kT_key t)]
      · have : (kT t).sameKey (kT x) = false := by
          cases hs : (kT t).sameKey (kT x) with
          | false => rfl
          | true => exact absurd (kT_inj (fine_word (h4 t ht)) hfx (WideAt.sameKey_eq hs)) e
        simp [this, e]

/-- How many there would be. -/
def cntv (F vs : List Tri) : Int := (F.length : Int) + ((vs.filter fun t => !decide (t ∈ F)).length : Int) - ((vs.filter fun t => decide (t ∈ F)).length : Int)
theorem cntv_in {F vs : List Tri} {x : Tri} (h : x ∈ F) : cntv F (vs ++ [x]) = cntv F vs - 1 := by
  unfold cntv
  simp [List.filter_append, h]
  omega
theorem cntv_out {F vs : List Tri} {x : Tri} (h : x ∉ F) : cntv F (vs ++ [x]) = cntv F vs + 1 := by
  unfold cntv
  simp [List.filter_append, h]
  omega
theorem cntv_bound (F vs : List Tri) : (F.length : Int) - vs.length ≤ cntv F vs ∧ cntv F vs ≤ F.length + vs.length := by
  unfold cntv
  have h1 := List.length_filter_le (fun t => !decide (t ∈ F)) vs
  have h2 := List.length_filter_le (fun t => decide (t ∈ F)) vs
  omega
theorem cntv_end {F m vs : List Tri} {bt : List Chg} (hF : Rise F) (hm : vs.Nodup) (h : Turned F bt m) (he : ∀ t, t ∈ vs ↔ t ∈ m) : cntv F vs = ((doneT F bt).length : Int) := by
  have := turned_count hF hm (fun t => (he t).trans (h t))
  unfold cntv
  omega

set_option maxHeartbeats 4000000 in
set_option maxRecDepth 100000 in
theorem countBehind_any {w : World} {b mb m2 : Nat} {F m : List Tri} {bt : List Chg} (k2 : w.cell? ⟨b, 2, none⟩ = some (.map (some mb))) (hF : MSet w mb F) (hR : Rise F) (hl : F.length ≤ 4096) (hM : MSet w m2 m) (hml : m.length ≤ 64) (hT : Turned F bt m) :
    Calls Try.prog 30 #[.pointer (some ⟨b, 0, none⟩), .map (some m2)] w fun e w' => e = .returned (.int .i64 ((doneT F bt).length : Int)) ∧ Below w.heap.size w w' := by
  obtain ⟨D, h1, h2, h3, h4, h5⟩ := hF
  have HFO := Hid.mk h1
  have HSZ := h5
  have HF : Hid (MSet w mb F) := Hid.mk ⟨D, h1, h2, h3, h4, h5⟩
  have HM := Hid.mk hM
  have HT := Hid.mk hT
  have HR := Hid.mk hR
  have HK2 := Hid.mk k2
  have hbl : b < w.heap.size := World.block_lt_of_cell? _ _ k2
  have hm2 := hM.lt
  obtain ⟨n, hn⟩ : ∃ n, n = F.length := ⟨_, rfl⟩
  rw [← hn] at HSZ hl
  have HN := Hid.mk hn
  clear h1 h2 h3 h4 h5 hM hT hR hn
  go_enter Try.func30, Try.ntmps30
  go_wp2_with (first | (at_len; refine wpList_len_own _ rfl _ 59 rfl 25 79 Try.underlying59 _ mb _ D rfl HFO.out ?_; rw [HSZ]) | (at_range; refine wpList_range_set _ rfl _ rfl m2 m rfl HM.out ?_; intro w0 hrg0 hg0))
  have B0 : Below w.heap.size w w0 := (Below.refl _ _).grown hg0 (Nat.le_refl _) (by simp)
  have HB0 := Hid.mk B0
  have HR0 := Hid.mk hrg0
  clear B0 hrg0 hg0 k2 HSZ
  go_frame
  go_loopw [5] (fun c wr => ∃ (z : Int) (vs : List Tri) (cnt : Nat), c = .int .i64 z ∧ z = cntv F vs ∧ RgS wr m2 w.heap.size m vs cnt ∧ Below w.heap.size w wr) (fun _ wr => wr.rangeLeft m2 w.heap.size)
  case atStart => exact ⟨n, [], m.length, rfl, by simp [cntv, HN.out], HR0.out, HB0.out⟩
  case round =>
    obtain ⟨z, vs, cnt, rfl, hz, hRg, hB⟩ := hrel
    have HZ := Hid.mk hz
    have HRG := Hid.mk hRg
    have HB := Hid.mk hB
    have hzb := cntv_bound F vs
    have hfew := hRg.few
    rw [← hz, ← HN.out] at hzb
    have hz1 : -100 ≤ z := by omega
    have hz2 : z ≤ 5000 := by omega
    clear hz hRg hB hzb hfew
    go_wp2_with (at_next; refine wpList_next_set _ rfl _ rfl m2 w.heap.size m vs cnt rfl HRG.out (fun hall => ?_) (fun x w1 cnt1 hxm _ hrg1 hlt hg1 hen => ?_))
    · have HE : Hid (z = ((doneT F bt).length : Int)) := Hid.mk (by rw [HZ.out]; exact cntv_end HR.out HRG.out.nodup HT.out hall)
      clear hall
      go_wp2
      go_ret
      exact ⟨by rw [← HE.out]; rfl, HB.out⟩
    · have B1 : Below w.heap.size w w1 := HB.out.grown hg1 HB.out.size (fun k e => by cases e; exact Nat.le_refl _)
      obtain ⟨W2, hW2⟩ : ∃ W2, W2 = w1.alloc (.cells #[strV x.1, strV x.2.1, strV x.2.2] 25) := ⟨_, rfl⟩
      have hB2 : Below w1.heap.size w1 W2 := by rw [hW2]; exact (Below.refl _ _).alloc (Nat.le_refl _) _
      have hbx : W2.heap[w1.heap.size]? = some (.cells #[strV x.1, strV x.2.1, strV x.2.2] 25) := by rw [hW2]; exact box_at w1 _
      have hBW : Below w.heap.size w W2 := B1.trans (hB2.mono B1.size)
      have k2 : W2.cell? ⟨b, 2, none⟩ = some (.map (some mb)) := (hBW.cell (p := ⟨b, 2, none⟩) hbl).trans HK2.out
      have HD2 : Hid (Below W2.heap.size W2 W2.drew) := Hid.mk (Below.refl _ _).drew
      have HF2 := Hid.mk (HF.out.below (hBW.trans (HD2.out.mono hBW.size)))
      have CH := Hid.mk (has_any HF2.out (fine_word (HM.out.word x hxm)))
      obtain ⟨⟨p0, p1, p2⟩, _⟩ := box3 hbx
      have hcbl : w1.heap.size < W2.heap.size := lt_of_block hbx
      have HCC : Hid (∀ w5, Below W2.drew.heap.size W2.drew w5 → w5.cell? ⟨b, 2, none⟩ = some (.map (some mb)) ∧ (w5.cell? ⟨w1.heap.size, 0, none⟩ = some (strV x.1) ∧ w5.cell? ⟨w1.heap.size, 1, none⟩ = some (strV x.2.1) ∧ w5.cell? ⟨w1.heap.size, 2, none⟩ = some (strV x.2.2))) := Hid.mk (fun w5 h5 => by
        have hb2 : b < W2.heap.size := World.block_lt_of_cell? _ _ k2
        have h6 := HD2.out.trans (h5.mono HD2.out.size)
        exact ⟨(h6.cell (p := ⟨b, 2, none⟩) hb2).trans k2, (h6.cell (p := ⟨w1.heap.size, 0, none⟩) hcbl).trans p0, (h6.cell (p := ⟨w1.heap.size, 1, none⟩) hcbl).trans p1, (h6.cell (p := ⟨w1.heap.size, 2, none⟩) hcbl).trans p2⟩)
      have HRG2 := Hid.mk (hrg1.below hB2)
      have HBW := Hid.mk (hBW.trans (HD2.out.mono hBW.size))
      have HRG3 := Hid.mk (HRG2.out.below HD2.out)
      have HW2 := Hid.mk hW2
      have HLT := Hid.mk hlt
      clear hW2 hB2 hbx hcbl hBW B1 hg1 hlt hxm hrg1
      by_cases hin : x ∈ F
      · rw [decide_eq_true hin] at CH
        have HC : Hid (z - 1 = cntv F (vs ++ [x])) := Hid.mk (by rw [cntv_in hin, HZ.out])
        clear hin
        go_wp2_with fail
        rw [← HW2.out]
        go_region_held3 (fun w' => w'.cell? ⟨b, 2, none⟩ = some (.map (some mb)) ∧ (w'.cell? ⟨w1.heap.size, 0, none⟩ = some (strV x.1) ∧ w'.cell? ⟨w1.heap.size, 1, none⟩ = some (strV x.2.1) ∧ w'.cell? ⟨w1.heap.size, 2, none⟩ = some (strV x.2.2)))
          (first | exact ⟨k2, p0, p1, p2⟩ | exact ⟨by assumption, by assumption, by assumption, by assumption⟩)
          (first | (go_at_call 43; refine CH.out.mono ?_; rintro e w4 ⟨rfl, hb4⟩; obtain ⟨r2, r3, r4, r5⟩ := HCC.out w4 hb4; have HRG4 := Hid.mk (HRG3.out.below hb4); have HB4 := Hid.mk (HBW.out.trans (hb4.mono HBW.out.size)); clear hb4))
        go_wp2
        go_roundw
        case rel => exact ⟨z - 1, _, _, by go_num, HC.out, HRG4.out, HB4.out⟩
        case measure => rw [HRG4.out.left_eq, HRG.out.left_eq]; exact HLT.out
      · rw [decide_eq_false hin] at CH
        have HC : Hid (z + 1 = cntv F (vs ++ [x])) := Hid.mk (by rw [cntv_out hin, HZ.out])
        clear hin
        go_wp2_with fail
        rw [← HW2.out]
        go_region_held3 (fun w' => w'.cell? ⟨b, 2, none⟩ = some (.map (some mb)) ∧ (w'.cell? ⟨w1.heap.size, 0, none⟩ = some (strV x.1) ∧ w'.cell? ⟨w1.heap.size, 1, none⟩ = some (strV x.2.1) ∧ w'.cell? ⟨w1.heap.size, 2, none⟩ = some (strV x.2.2)))
          (first | exact ⟨k2, p0, p1, p2⟩ | exact ⟨by assumption, by assumption, by assumption, by assumption⟩)
          (first | (go_at_call 43; refine CH.out.mono ?_; rintro e w4 ⟨rfl, hb4⟩; obtain ⟨r2, r3, r4, r5⟩ := HCC.out w4 hb4; have HRG4 := Hid.mk (HRG3.out.below hb4); have HB4 := Hid.mk (HBW.out.trans (hb4.mono HBW.out.size)); clear hb4))
        go_wp2
        go_roundw
        case rel => exact ⟨z + 1, _, _, by go_num, HC.out, HRG4.out, HB4.out⟩
        case measure => rw [HRG4.out.left_eq, HRG.out.left_eq]; exact HLT.out
end Go.Proofs.Ytiabnjjdeikefaa
