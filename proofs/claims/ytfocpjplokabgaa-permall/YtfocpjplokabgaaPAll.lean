/- The statement of a walk through all numbers. -/
import Derived.Test.YtfocpjplokabgaaPAllM
import Derived.Test.YtfocpjplokabgaaPSame
import Derived.Test.YtfocpjplokabgaaPOrders
namespace Go.Proofs.Ytfocpjplokabgaa
open Go.RowKit Go.Shelf

theorem put3 {o : Od} (ho : o.ok) {r t : R3} {k m n : Int} (h : key o r = [k, m, n]) : ((t.put o.z n).put o.y m).put o.x k = r := by
  obtain ⟨a, b, c⟩ := r
  obtain ⟨a2, b2, c2⟩ := t
  rcases od_cases ho with rfl | rfl | rfl | rfl | rfl | rfl <;> simp [key, R3.at] at h <;> obtain ⟨e1, e2, e3⟩ := h <;> subst e1 e2 e3 <;> simp [R3.put]
/-- Where the statement is: its walk, the row that it fills, the rows that it has got. -/
structure AllS (w : World) (b xb gord : Nat) (v : Value) (o : Od) (L : List R3) (s : Wk) (t : R3) (gv : Value) (d : List R3) (wr : World) : Prop where
  low : w.heap.size ≤ b
  og : gord < b
  wk : WAt (fun k => k < b) wr b xb v o L s
  at_ : RowB wr (b + 1) t
  ord : RowB wr gord o.r3
  own : wr.ownsRow (b + 1 + 1) 23 3 gv d.length (rowCs d)
  bel : Below w.heap.size w wr
section
variable {w wr : World} {b xb gord : Nat} {v : Value} {o : Od} {L : List R3} {s : Wk} {t : R3} {gv : Value} {d : List R3}
theorem AllS.lt (h : AllS w b xb gord v o L s t gv d wr) : b + 1 < wr.heap.size := lt_of_block h.at_
theorem AllS.fr {s' : Wk} {w' : World} (h : AllS w b xb gord v o L s t gv d wr) (hf : Fr (fun k => k < wr.heap.size ∧ k ≠ b) wr w') (hw : ∀ S : Nat → Prop, XAt S w' xb v o L → ¬ S b → WAt S w' b xb v o L s') : AllS w b xb gord v o L s' t gv d w' := by
  have hlt := h.lt
  have hfb : Fr (fun k => k < b) wr w' := hf.sub (fun k hk => ⟨by omega, by omega⟩)
  have hog := h.og
  have hlow := h.low
  refine ⟨h.low, h.og, hw _ (h.wk.x.fr hfb) (by omega), ?_, ?_, ?_, ?_⟩
  · exact (hf.block (b + 1) ⟨hlt, by omega⟩).trans h.at_
  · exact (hf.block gord ⟨by omega, by omega⟩).trans h.ord
  · refine owns_key h.own (fun g o' hg ho' => ?_)
    have := (h.own.lt g hg).1
    exact (hf.block g ⟨(h.own.lt g hg).2, by omega⟩).trans ho'
  · exact h.bel.trans (hf.below (fun k hk => ⟨by omega, by omega⟩))
theorem AllS.end_ {r : Wk × Nat} {f : Nat} {args : Array Value} (h : AllS w b xb gord v o L s t gv d wr) (hc : ∀ S, WAt S wr b xb v o L s → Low S wr → Calls Try.prog f args wr (WEnd S wr b xb v o L r)) : Calls Try.prog f args wr fun e w' => e = .returned (.int .i64 (r.2 : Int)) ∧ AllS w b xb gord v o L r.1 t gv d w' := by
  obtain ⟨lv, k1, k2⟩ := h.wk.k
  refine (hc (fun k => k < wr.heap.size ∧ k ≠ b) ⟨h.wk.x.sub (fun k hk hl => ⟨hl, by omega⟩), ⟨lv, ⟨k1.blk, fun hk => hk.2 rfl⟩, k2⟩, h.wk.ok⟩ (fun k hk => hk.1)).mono ?_
  rintro e w' ⟨he, hw, hf⟩
  obtain ⟨lv2, k3, k4⟩ := hw.k
  exact ⟨he, h.fr hf (fun S hx hn => ⟨hx, ⟨lv2, ⟨k3.blk, hn⟩, k4⟩, hw.ok⟩)⟩
theorem AllS.below {w' : World} (h : AllS w b xb gord v o L s t gv d wr) (hb : Below wr.heap.size wr w') : AllS w b xb gord v o L s t gv d w' := by
  obtain ⟨lv, k1, k2⟩ := h.wk.k
  have hlt := h.lt
  refine h.fr (fr_below (fun k hk => hk.1) hb) (fun S hx hn => ⟨hx, ⟨lv, ⟨(hb.block b (by omega)).trans k1.blk, hn⟩, k2⟩, h.wk.ok⟩)
theorem AllS.open (h : AllS w b xb gord v o L s t gv d wr) : Calls Try.prog 17 #[.pointer (some ⟨b, 0, none⟩)] wr fun e w' => e = .returned (.int .i64 ((wOpen o L s).2 : Int)) ∧ AllS w b xb gord v o L (wOpen o L s).1 t gv d w' := h.end_ (fun _ h1 h2 => open_any h1 h2)
theorem AllS.up (h : AllS w b xb gord v o L s t gv d wr) : Calls Try.prog 19 #[.pointer (some ⟨b, 0, none⟩)] wr fun e w' => e = .returned (.int .i64 ((wUp s).2 : Int)) ∧ AllS w b xb gord v o L (wUp s).1 t gv d w' := h.end_ (fun _ h1 h2 => up_any h1 h2)
theorem AllS.next (h : AllS w b xb gord v o L s t gv d wr) : Calls Try.prog 21 #[.pointer (some ⟨b, 0, none⟩)] wr fun e w' => e = .returned (.int .i64 ((wNext o L s).2 : Int)) ∧ AllS w b xb gord v o L (wNext o L s).1 t gv d w' := h.end_ (fun _ h1 h2 => next_any h1 h2)
theorem AllS.seek (h : AllS w b xb gord v o L s t gv d wr) (n : Int) : Calls Try.prog 23 #[.pointer (some ⟨b, 0, none⟩), .int .i64 n] wr fun e w' => e = .returned (.int .i64 ((wSeek o L s n).2 : Int)) ∧ AllS w b xb gord v o L (wSeek o L s n).1 t gv d w' := h.end_ (fun _ h1 h2 => seek_any h1 h2 n)
theorem AllS.key (h : AllS w b xb gord v o L s t gv d wr) : Calls Try.prog 25 #[.pointer (some ⟨b, 0, none⟩)] wr fun e w' => e = .returned (.tuple #[.int .i64 (wKey s).1, .bool (wKey s).2]) ∧ AllS w b xb gord v o L s t gv d w' := by
  refine (key_any h.wk).mono ?_
  rintro e w' ⟨he, hb⟩
  exact ⟨he, h.below hb⟩
theorem AllS.depth (h : AllS w b xb gord v o L s t gv d wr) : Calls Try.prog 27 #[.pointer (some ⟨b, 0, none⟩)] wr fun e w' => e = .returned (.int .i64 (s.p.length : Int)) ∧ w' = wr := depthS_any h.wk
theorem AllS.set (h : AllS w b xb gord v o L s t gv d wr) {p : Nat} (hp : p < 3) (x : Int) : AllS w b xb gord v o L s (t.put p x) gv d (wr.setCell ⟨b + 1, p, none⟩ (.int .i64 x)) := by
  obtain ⟨lv, k1, k2⟩ := h.wk.k
  have hog := h.og
  have hlow := h.low
  have other : ∀ k, k ≠ b + 1 → (wr.setCell ⟨b + 1, p, none⟩ (.int .i64 x)).heap[k]? = wr.heap[k]? := fun k hk => Below.heap_setCell wr ⟨b + 1, p, none⟩ _ k hk
  refine ⟨h.low, h.og, ⟨h.wk.x.setCell (by omega) _, ⟨lv, ⟨(other b (by omega)).trans k1.blk, k1.out⟩, k2⟩, h.wk.ok⟩, h.at_.set hp x, (other gord (by omega)).trans h.ord, ?_, h.bel.setCell (by show w.heap.size ≤ b + 1; omega) _⟩
  refine owns_key h.own (fun g o' hg ho' => ?_)
  have := (h.own.lt g hg).1
  exact (other g (by omega)).trans ho'
theorem AllS.grow {w' : World} {gv' : Value} {r : R3} (h : AllS w b xb gord v o L s t gv d wr) (hb : Below (b + 1 + 1) wr w') (hown : w'.ownsRow (b + 1 + 1) 23 3 gv' (d.length + 1) (rowCs d ++ enc3 r)) : AllS w b xb gord v o L s t gv' (d ++ [r]) w' := by
  obtain ⟨lv, k1, k2⟩ := h.wk.k
  have hog := h.og
  have hlow := h.low
  refine ⟨h.low, h.og, ⟨h.wk.x.keep hb.size (fun k hk _ => ⟨hk, hb.block k (by omega)⟩), ⟨lv, ⟨(hb.block b (by omega)).trans k1.blk, k1.out⟩, k2⟩, h.wk.ok⟩, (hb.block (b + 1) (by omega)).trans h.at_, (hb.block gord (by omega)).trans h.ord, ?_, h.bel.trans (hb.mono (by omega))⟩
  rw [rowCs_snoc, List.length_append, List.length_singleton]
  exact hown
theorem AllS.cells (h : AllS w b xb gord v o L s t gv d wr) : (wr.cell? ⟨gord, 0, none⟩ = some (.int .i64 (o.x : Int)) ∧ wr.cell? ⟨gord, 1, none⟩ = some (.int .i64 (o.y : Int)) ∧ wr.cell? ⟨gord, 2, none⟩ = some (.int .i64 (o.z : Int))) :=
  ⟨(h.ord.cell (p := 0) (by omega)).1, (h.ord.cell (p := 1) (by omega)).1, (h.ord.cell (p := 2) (by omega)).1⟩
theorem AllS.place (h : AllS w b xb gord v o L s t gv d wr) {p : Nat} (hp : p < 3) : (∃ x, wr.cell? ⟨b + 1, p, none⟩ = some x) ∧ wr.frozen? ⟨b + 1, p, none⟩ = false :=
  ⟨⟨_, (h.at_.cell hp).1⟩, (h.at_.cell hp).2⟩
end

set_option maxHeartbeats 16000000 in
set_option maxRecDepth 100000 in
theorem permAll_walk (v : Value) (rs : List R3) (turn : Int) (w : World) (hv : RowsAt w v rs) (_h1 : (Lit.int .i64 turn).wf = true) :
    Calls Try.prog 5 #[v, .int .i64 turn] w fun e w' => e = .returned (.bool true) ∧ Below w.heap.size w w' := by
  obtain ⟨W1, hW1⟩ : ∃ W1, W1 = w.alloc (.cells odCs 23) := ⟨_, rfl⟩
  have hb1 : Below w.heap.size w W1 := by rw [hW1]; exact (Below.refl _ _).alloc (Nat.le_refl _) _
  have hblk : W1.heap[w.heap.size]? = some (.cells odCs 23 (0, 0)) := by rw [hW1]; exact box_at w _
  obtain ⟨q1, K1, hq1, hk1, hK1, hkw1⟩ := six turn
  obtain ⟨o, ho⟩ : ∃ o, ods[K1]? = some o := ⟨_, List.getElem?_eq_getElem (by simpa [ods] using hK1)⟩
  have HO := Hid.mk (ods_ok ho)
  obtain ⟨a0, a1, a2⟩ := ods_at hblk ho
  have hsz : W1.heap.size = w.heap.size + 1 := by rw [hW1]; simp
  obtain ⟨W2, hW2⟩ : ∃ W2, W2 = W1.alloc (.cells #[.int .i64 o.r3.a, .int .i64 o.r3.b, .int .i64 o.r3.c] 23) := ⟨_, rfl⟩
  have hb2 : Below w.heap.size w W2 := by rw [hW2]; exact hb1.alloc hb1.size _
  have hrb : RowB W2 W1.heap.size o.r3 := by rw [hW2]; exact box_at W1 _
  have HV := Hid.mk (hv.below ((Below.refl _ _).trans hb2))
  have C1 := Hid.mk (indx_new (w := w) HO.out HV.out hb2)
  obtain ⟨_, hwf, ao, cap, rfl, _⟩ := hv
  have hK1I : (K1 : Int) < 6 := by omega
  obtain ⟨N, hN⟩ : ∃ N, N = rs.length := ⟨_, rfl⟩
  have HN := Hid.mk hN
  rw [← hN] at HV C1 ⊢
  have HW1 : Hid (W1 = w.alloc (.cells #[.int .i64 0, .int .i64 1, .int .i64 2, .int .i64 1, .int .i64 2, .int .i64 0, .int .i64 2, .int .i64 0, .int .i64 1, .int .i64 0, .int .i64 2, .int .i64 1, .int .i64 1, .int .i64 0, .int .i64 2, .int .i64 2, .int .i64 1, .int .i64 0] 23)) := Hid.mk hW1
  have q0 := a0
  have q1' := a1
  have q2' := a2
  rw [HW1.out] at q0 q1' q2'
  have HW2 := Hid.mk hW2
  have HB2 := Hid.mk hb2
  rw [hsz] at hrb
  have HRB := Hid.mk hrb
  have HWF := Hid.mk hwf
  have HSZ := Hid.mk hsz
  clear ho hblk hb1 hW1 hW2 hb2 hrb hN a0 a1 a2 hsz hwf
  by_cases hbig : 100 < N
  · have hbigI : (100 : Int) < (N : Int) := by omega
    go_enter Try.func5, Try.ntmps5
    go_wp2_with fail
    rw [← HW1.out]
    refine (awake_any _).mono ?_
    rintro e w3 ⟨rfl, hb3⟩
    rw [← HW2.out] at hb3
    have HF : Hid (Below w.heap.size w w3) := Hid.mk (HB2.out.trans (hb3.mono HB2.out.size))
    clear hb3
    go_wp2
    go_ret
    exact ⟨rfl, HF.out⟩
  · have hbigI : ¬ (100 : Int) < (N : Int) := by omega
    have hx3 : (o.x : Int) < 3 := by have := HO.out.1.1; omega
    have hy3 : (o.y : Int) < 3 := by have := HO.out.1.2.1; omega
    have hz3 : (o.z : Int) < 3 := by have := HO.out.1.2.2; omega
    go_enter Try.func5, Try.ntmps5
    go_wp2_with fail
    rw [← HW1.out, ← HW2.out]
    refine C1.out.mono ?_
    rintro e w2 ⟨xx, vx, L, rfl, hix, hdx, hb2⟩
    have HIX := Hid.mk hix
    have HDX := Hid.mk hdx
    have HRB2 := Hid.mk (HRB.out.below hb2)
    have hog : w.heap.size + 1 < w2.heap.size := lt_of_block (HRB.out.below hb2)
    have CW := Hid.mk (walk_any hix.1 (low_all w2))
    clear hix hdx hb2 C1 q0 q1' q2'
    obtain ⟨b, hb⟩ : ∃ b, b = w2.heap.size := ⟨_, rfl⟩
    rw [← hb] at CW hog
    have HBQ := Hid.mk hb
    clear hb
    go_wp2_with fail
    refine CW.out.mono ?_
    rintro e w3 ⟨rfl, hw3, hb3, hz⟩
    have HZ := Hid.mk hz
    have HAS : Hid (AllS w b xx (w.heap.size + 1) vx o L ⟨[], false⟩ ⟨0, 0, 0⟩ (.slice none 0 0) [] (w3.alloc (.cells #[.int .i64 0, .int .i64 0, .int .i64 0] 23))) := Hid.mk (by
      have hal : Below w3.heap.size w3 (w3.alloc (.cells #[.int .i64 0, .int .i64 0, .int .i64 0] 23)) := (Below.refl _ _).alloc (Nat.le_refl _) _
      have hb3' : Below w2.heap.size w2 w3 := by rw [← HBQ.out]; exact hb3
      have hbel : Below w.heap.size w w3 := HIX.out.2.trans (hb3'.mono HIX.out.2.size)
      have hbx := box_at w3 (.cells #[.int .i64 0, .int .i64 0, .int .i64 0] 23)
      rw [hz] at hbx
      refine ⟨by omega, hog, ?_, hbx, (HRB2.out.below hb3').below hal, World.ownsRow_nil _ (b + 1 + 1) _ _, hbel.trans (hal.mono hbel.size)⟩
      exact hw3.below hal)
    clear hw3 hb3 hz CW HIX HRB2 HRB
    have hL100 : L.length ≤ 100 := by have := HDX.out.len; rw [← HN.out] at this; omega
    have HST := Hid.mk HDX.out.strict
    obtain ⟨i0, hi0, hz0, hz1, hz2⟩ := info_parts infoR
    go_wp2
    rw [HZ.out]
    go_loopw [10, 12] (fun s10 s12 wr => ∃ (i : Nat) (s : Wk) (t : R3) (D : List R3), s12 = .int .i64 i ∧ i + rank s ≤ 7 * pos o L s + 3 ∧ D = L.take (pos o L s) ∧ AllS w b xx (w.heap.size + 1) vx o L s t s10 D wr) (fun _ s12 _ => 2000 - (intOf s12).toNat)
    case atStart => exact ⟨0, ⟨[], false⟩, ⟨0, 0, 0⟩, [], rfl, by rw [pos_root]; simp [rank], by rw [pos_root]; rfl, HAS.out⟩
    case round =>
      obtain ⟨i, s, t, D, rfl, hpot, hD, hall⟩ := hrel
      obtain ⟨a5, c5, rfl⟩ := own_slice hall.own
      have T5 := Hid.mk hall
      have HD := Hid.mk hD
      have HPOT := Hid.mk hpot
      have hi2 : i < 2000 := by have := pos_le o L s; omega
      have hi2I : (i : Int) < 2000 := by omega
      have hDl : D.length ≤ 100 := by rw [hD, List.length_take]; omega
      have HTU := Hid.mk (turn_of HST.out hall.wk.ok)
      have HOK := Hid.mk hall.wk.ok
      clear hall hD hpot HAS
      have CO := Hid.mk T5.out.open
      rcases HTU.out with hdown | htell | hon | hdone
      · have HN5 := Hid.mk (opened_pos HST.out HOK.out hdown)
        rw [hdown] at CO
        obtain ⟨s2, hs2⟩ : ∃ s2, s2 = (wOpen o L s).1 := ⟨_, rfl⟩
        rw [← hs2] at CO HN5
        clear hdown hs2 HTU
        go_wp2_with fail
        refine CO.out.mono ?_
        rintro e w6 ⟨rfl, ht⟩
        have T6 := Hid.mk ht
        clear ht CO
        go_wp2
        go_roundw
        case rel => exact ⟨i + 1, s2, t, D, by go_num, by have := HPOT.out; have := HN5.out; omega, by rw [HN5.out.1]; exact HD.out, T6.out⟩
        case measure => simp [intOf]; omega
      · obtain ⟨k, m, n, rfl, ho⟩ := htell
        rw [ho] at CO
        obtain ⟨r, hr1, hr2, hr3, hr4, hr5⟩ := tell_up HO.out HST.out HOK.out
        obtain ⟨⟨d1, d2⟩, ⟨d3, d4⟩⟩ := tell_down HST.out HOK.out
        have HT : Hid (L.take (pos o L (wNext o L ⟨[k, m, n], false⟩).1) = D ++ [r]) := Hid.mk (by rw [hr3, take_snoc hr1, HD.out])
        have HP : Hid (i + 1 + rank (wNext o L ⟨[k, m, n], false⟩).1 ≤ 7 * pos o L (wNext o L ⟨[k, m, n], false⟩).1 + 3) := Hid.mk (by
          have := HPOT.out
          have e : rank ⟨[k, m, n], false⟩ = 0 := by simp [rank]
          rw [e] at this
          rw [hr3]
          omega)
        have HPUT : Hid (((t.put o.z n).put o.y m).put o.x k = r) := Hid.mk (put3 HO.out hr2)
        have D1 := Hid.mk d1
        have D2 := Hid.mk d2
        have D3 := Hid.mk d3
        have D4 := Hid.mk d4
        have D5 := Hid.mk hr5
        have K3 : Hid (wKey ⟨[k, m, n], false⟩ = (n, true)) := Hid.mk (by simp [wKey, lastN])
        have K2 : Hid (wKey ⟨[k, m], false⟩ = (m, true)) := Hid.mk (by simp [wKey, lastN])
        have K1' : Hid (wKey ⟨[k], false⟩ = (k, true)) := Hid.mk (by simp [wKey, lastN])
        have U3 : Hid (wUp ⟨[k, m, n], false⟩ = (⟨[k, m], false⟩, 0)) := Hid.mk (by simp [wUp])
        have U2 : Hid (wUp ⟨[k, m], false⟩ = (⟨[k], false⟩, 0)) := Hid.mk (by simp [wUp])
        clear HTU ho hr1 hr2 hr3 hr4 hr5 d1 d2 d3 d4 HPOT HD HOK T5
        go_wp2_with fail
        refine CO.out.mono ?_
        rintro e w6 ⟨rfl, ht⟩
        have CK := Hid.mk ht.key
        rw [K3.out] at CK
        clear ht CO
        go_wp2_with fail
        refine CK.out.mono ?_
        rintro e w7 ⟨rfl, ht⟩
        have T7 := Hid.mk ht
        have CD := Hid.mk ht.depth
        have hl3 : ((([k, m, n] : List Int).length : Nat) : Int) = 3 := rfl
        rw [hl3] at CD
        clear ht CK hl3
        go_wp2_with fail
        refine CD.out.mono ?_
        rintro e w8 ⟨rfl, hw⟩
        subst hw
        obtain ⟨c0, c1, c2⟩ := T7.out.cells
        obtain ⟨⟨z, cz⟩, fz⟩ := T7.out.place (p := o.z) HO.out.1.2.2
        have T8 := Hid.mk (T7.out.set (p := o.z) HO.out.1.2.2 n)
        have CU := Hid.mk T8.out.up
        rw [U3.out] at CU
        clear CD
        go_wp2_with fail
        refine CU.out.mono ?_
        rintro e w9 ⟨rfl, ht⟩
        have CK := Hid.mk ht.key
        rw [K2.out] at CK
        clear ht CU T7 T8 c0 c1 c2 cz fz
        go_wp2_with fail
        refine CK.out.mono ?_
        rintro e w10 ⟨rfl, ht⟩
        obtain ⟨c0, c1, c2⟩ := ht.cells
        obtain ⟨⟨z2, cz⟩, fz⟩ := ht.place (p := o.y) HO.out.1.2.1
        have T10 := Hid.mk (ht.set (p := o.y) HO.out.1.2.1 m)
        have CU := Hid.mk T10.out.up
        rw [U2.out] at CU
        clear ht CK
        go_wp2_with fail
        refine CU.out.mono ?_
        rintro e w11 ⟨rfl, ht⟩
        have CK := Hid.mk ht.key
        rw [K1'.out] at CK
        clear ht CU T10 c0 c1 c2 cz fz
        go_wp2_with fail
        refine CK.out.mono ?_
        rintro e w12 ⟨rfl, ht⟩
        obtain ⟨c0, c1, c2⟩ := ht.cells
        obtain ⟨⟨z3, cz⟩, fz⟩ := ht.place (p := o.x) HO.out.1.1
        have hs12 := ht.set (p := o.x) HO.out.1.1 k
        rw [HPUT.out] at hs12
        obtain ⟨W12, hW12⟩ : ∃ W12, W12 = w12.setCell ⟨b + 1, o.x, none⟩ (.int .i64 k) := ⟨_, rfl⟩
        rw [← hW12] at hs12
        have r0 := (hs12.at_.cell (p := 0) (by omega)).1
        have r1 := (hs12.at_.cell (p := 1) (by omega)).1
        have r2 := (hs12.at_.cell (p := 2) (by omega)).1
        simp only [R3.at] at r0 r1 r2
        have r0' := r0
        have r1' := r1
        have r2' := r2
        rw [hW12] at r0' r1' r2'
        have T12 := Hid.mk hs12
        have HW12 := Hid.mk hW12
        have hlt12 : b + 1 < W12.heap.size := hs12.lt
        have OWN := Hid.mk hs12.own
        rw [hW12] at OWN
        have HSZ12 : Hid ((w12.setCell ⟨b + 1, o.x, none⟩ (.int .i64 k)).heap.size = w12.heap.size) := Hid.mk (by simp)
        clear ht CK hs12 hW12 r0 r1 r2
        go_wp2_with (at_builtin; refine wpList_append_lies _ rfl _ _ _ rfl (b + 1 + 1) 23 i0 _ 3 24 Try.underlying22 hi0 hz0 hz1 hz2 rfl (by decide) (.slice a5 D.length c5) _ _ (by rfl) (OWN.out.alloc _) ⟨w12.heap.size, 0, none⟩ 1 1 (enc3 r) (by rfl) (by rfl) ?d1 ?d2 (by decide) ?d3 ?d4 ?d5 (w12.heap.size + 1) (by simp) ?_)
        case d1 =>
          have hh := heap_alloc_new (w12.setCell ⟨b + 1, o.x, none⟩ (.int .i64 k)) (.cells #[.int .i64 r.a, .int .i64 r.b, .int .i64 r.c] 23)
          rw [HSZ12.out] at hh
          exact World.news_of_block (cs := #[.int .i64 r.a, .int .i64 r.b, .int .i64 r.c]) (t := 23) (fr := (0, 0)) hh
        case d2 => intro u hu; simp [enc3] at hu; rcases hu with rfl | rfl | rfl <;> rfl
        case d3 => unfold maxLen; omega
        case d4 => omega
        case d5 => rw [HW12.out, HSZ12.out] at hlt12; simp; omega
        intro gg cap7 w13 hown7 hgrow7 _ _
        have T13 : Hid (AllS w b xx (w.heap.size + 1) vx o L ⟨[k], false⟩ r (.slice (some ⟨gg, 0, none⟩) (D.length + 1) cap7) (D ++ [r]) w13) := Hid.mk (by
          refine T12.out.grow ?_ hown7
          rw [HW12.out] at hlt12 ⊢
          exact ((Below.refl _ _).alloc (by omega) _).grown hgrow7 (by simp at hlt12 ⊢; omega) (fun k' hk' => (OWN.out.lt k' hk').1))
        clear hown7 hgrow7 T12 OWN HW12 HSZ12 hlt12 r0' r1' r2' c0 c1 c2 cz fz
        have CO := Hid.mk T13.out.open
        rw [D1.out] at CO
        obtain ⟨sA, hsA⟩ : ∃ sA, sA = (wOpen o L ⟨[k], false⟩).1 := ⟨_, rfl⟩
        rw [← hsA] at CO D2
        clear hsA T13 D1
        go_wp2_with fail
        refine CO.out.mono ?_
        rintro e w14 ⟨rfl, ht⟩
        have CS := Hid.mk (ht.seek m)
        rw [D2.out] at CS
        clear ht CO D2
        go_wp2_with fail
        refine CS.out.mono ?_
        rintro e w15 ⟨rfl, ht⟩
        have CO := Hid.mk ht.open
        rw [D3.out] at CO
        obtain ⟨sB, hsB⟩ : ∃ sB, sB = (wOpen o L ⟨[k, m], false⟩).1 := ⟨_, rfl⟩
        rw [← hsB] at CO D4
        clear hsB ht D3 CS
        go_wp2_with fail
        refine CO.out.mono ?_
        rintro e w16 ⟨rfl, ht⟩
        have CS := Hid.mk (ht.seek n)
        rw [D4.out] at CS
        clear ht CO D4
        go_wp2_with fail
        refine CS.out.mono ?_
        rintro e w17 ⟨rfl, ht⟩
        have CN := Hid.mk ht.next
        rw [D5.out] at CN
        obtain ⟨sC, hsC⟩ : ∃ sC, sC = (wNext o L ⟨[k, m, n], false⟩).1 := ⟨_, rfl⟩
        rw [← hsC] at CN HT HP
        clear hsC ht D5 CS
        go_wp2_with fail
        refine CN.out.mono ?_
        rintro e w18 ⟨rfl, ht⟩
        have T18 := Hid.mk ht
        clear ht CN
        go_wp2
        go_roundw
        case rel => exact ⟨i + 1, sC, r, D ++ [r], by go_num, HP.out, HT.out.symm, T18.out⟩
        case measure => simp [intOf]; omega
      · obtain ⟨q, x, y, rfl, ho, hk⟩ := hon
        rw [ho] at CO
        have HU := Hid.mk (on_up HST.out HOK.out)
        obtain ⟨s5, hs5⟩ : ∃ s5, s5 = (⟨q ++ [x] ++ [y], true⟩ : Wk) := ⟨_, rfl⟩
        rw [← hs5] at CO hk HU HPOT HD T5
        clear HTU ho hs5 T5 HOK
        go_wp2_with fail
        refine CO.out.mono ?_
        rintro e w6 ⟨rfl, ht⟩
        have CK := Hid.mk ht.key
        rw [hk] at CK
        clear ht CO hk
        go_wp2_with fail
        refine CK.out.mono ?_
        rintro e w7 ⟨rfl, ht⟩
        have CU := Hid.mk ht.up
        rw [HU.out.1] at CU
        clear ht CK
        go_wp2_with fail
        refine CU.out.mono ?_
        rintro e w8 ⟨rfl, ht⟩
        have T8 := Hid.mk ht
        have CD := Hid.mk ht.depth
        obtain ⟨X, hX⟩ : ∃ X : Nat, (q ++ [x]).length = X + 1 := ⟨q.length, by simp⟩
        rw [hX] at CD
        clear ht CU hX
        go_wp2_with fail
        refine CD.out.mono ?_
        rintro e w9 ⟨rfl, hw⟩
        subst hw
        have hX0 : ¬ ((X + 1 : Nat) : Int) = 0 := by omega
        have CN := Hid.mk T8.out.next
        have HU2 := Hid.mk HU.out.2
        obtain ⟨s2, hs2⟩ : ∃ s2, s2 = (wNext o L ⟨q ++ [x], false⟩).1 := ⟨_, rfl⟩
        obtain ⟨e2, he2⟩ : ∃ e2, e2 = (wNext o L ⟨q ++ [x], false⟩).2 := ⟨_, rfl⟩
        rw [← hs2, ← he2] at CN
        rw [← hs2] at HU2
        clear hs2 he2 HU T8 CD
        go_wp2_with fail
        refine CN.out.mono ?_
        rintro e w10 ⟨rfl, ht⟩
        have T10 := Hid.mk ht
        clear ht CN
        go_wp2
        go_roundw
        case rel => exact ⟨i + 1, s2, t, D, by go_num, by have := HPOT.out; have := HU2.out; omega, by rw [HU2.out.1]; exact HD.out, T10.out⟩
        case measure => simp [intOf]; omega
      · obtain ⟨ho, hk, hu, hp⟩ := hdone
        rw [ho] at CO
        rw [hp, List.take_of_length_le (Nat.le_refl _)] at HD
        obtain rfl := HD.out
        have HL := Hid.mk (rfl : D = D)
        clear HTU ho hp T5 HD
        go_wp2_with fail
        refine CO.out.mono ?_
        rintro e w4 ⟨rfl, ht⟩
        have CK := Hid.mk ht.key
        rw [hk] at CK
        clear ht CO hk
        go_wp2_with fail
        refine CK.out.mono ?_
        rintro e w5 ⟨rfl, ht⟩
        have CU := Hid.mk ht.up
        clear ht CK
        rcases hu with ⟨hu1, hu2⟩ | ⟨hu1, hu2⟩
        · rw [hu1] at CU
          obtain ⟨s2, hs2⟩ : ∃ s2, s2 = (wUp s).1 := ⟨_, rfl⟩
          rw [← hs2] at CU
          clear hu1 hu2 hs2
          go_wp2_with fail
          refine CU.out.mono ?_
          rintro e w6 ⟨rfl, ht⟩
          have T6 := Hid.mk ht
          have CR := Hid.mk (Indx.rows (w := w) ⟨T6.out.wk.x.sub (fun _ _ hl => hl), T6.out.bel⟩)
          have HRD : Hid (RowsAt w6 (.slice a5 D.length c5) D) := Hid.mk (own_rows T6.out.own (by omega) (fun r hr => HWF.out r ((HDX.out.mem r).1 hr)))
          clear ht CU
          go_wp2_with fail
          refine CR.out.mono ?_
          rintro e w7 ⟨a7, c7, rfl, hr7, _, hb7⟩
          have R7 := Hid.mk hr7
          have D7 := Hid.mk (HRD.out.below hb7)
          have HB7 : Hid (Below w.heap.size w w7) := Hid.mk (T6.out.bel.trans (hb7.mono T6.out.bel.size))
          clear hr7 hb7 CR
          go_wp2_with fail
          refine (same_any D7.out R7.out).mono ?_
          rintro e w8 ⟨rfl, hb8⟩
          have HB8 : Hid (Below w.heap.size w w8) := Hid.mk (HB7.out.trans (hb8.mono HB7.out.size))
          clear hb8
          go_wp2_with fail
          refine (awake_any _).mono ?_
          rintro e w9 ⟨rfl, hb9⟩
          have HF : Hid (Below w.heap.size w w9) := Hid.mk (HB8.out.trans (hb9.mono HB8.out.size))
          clear hb9
          go_wp2
          go_ret
          exact ⟨rfl, HF.out⟩
        · rw [hu1, hu2] at CU
          clear hu1 hu2
          go_wp2_with fail
          refine CU.out.mono ?_
          rintro e w6 ⟨rfl, ht⟩
          have T6 := Hid.mk ht
          have CD := Hid.mk ht.depth
          have hl0 : ((([] : List Int).length : Nat) : Int) = 0 := rfl
          clear ht CU
          go_wp2_with fail
          refine CD.out.mono ?_
          rintro e w61 ⟨rfl, hw⟩
          subst hw
          have CR := Hid.mk (Indx.rows (w := w) ⟨T6.out.wk.x.sub (fun _ _ hl => hl), T6.out.bel⟩)
          have HRD : Hid (RowsAt w61 (.slice a5 D.length c5) D) := Hid.mk (own_rows T6.out.own (by omega) (fun r hr => HWF.out r ((HDX.out.mem r).1 hr)))
          clear CD
          go_wp2_with fail
          refine CR.out.mono ?_
          rintro e w7 ⟨a7, c7, rfl, hr7, _, hb7⟩
          have R7 := Hid.mk hr7
          have D7 := Hid.mk (HRD.out.below hb7)
          have HB7 : Hid (Below w.heap.size w w7) := Hid.mk (T6.out.bel.trans (hb7.mono T6.out.bel.size))
          clear hr7 hb7 CR
          go_wp2_with fail
          refine (same_any D7.out R7.out).mono ?_
          rintro e w8 ⟨rfl, hb8⟩
          have HB8 : Hid (Below w.heap.size w w8) := Hid.mk (HB7.out.trans (hb8.mono HB7.out.size))
          clear hb8
          go_wp2_with fail
          refine (awake_any _).mono ?_
          rintro e w9 ⟨rfl, hb9⟩
          have HF : Hid (Below w.heap.size w w9) := Hid.mk (HB8.out.trans (hb9.mono HB8.out.size))
          clear hb9
          go_wp2
          go_ret
          exact ⟨rfl, HF.out⟩
end Go.Proofs.Ytfocpjplokabgaa
