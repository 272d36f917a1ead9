/- New and Rows of an index. -/
import Derived.Test.YtfocpjplokabgaaPOrder
import Derived.Test.YtfocpjplokabgaaPSteps2
namespace Go.Proofs.Ytfocpjplokabgaa
open Go.RowKit Go.Sort Go.Lib Go.Shelf

theorem LRow.slice {B : Nat} {w : World} {v : Value} {d : List R3} (h : LRow B w v d) : ∃ ao n cap, v = .slice ao n cap := by
  rcases h with ⟨rfl, rfl⟩ | ⟨g, cap, h1, _⟩
  · exact ⟨none, 0, 0, rfl⟩
  · exact ⟨_, _, cap, h1⟩
set_option maxRecDepth 100000 in
theorem compact_nil (B : Nat) (w : World) : Calls Try.prog 33 #[.slice none 0 0] w fun e w' => ∃ v', e = .returned v' ∧ LRow B w' v' (dd []) ∧ Below B w w' := by
  go_enter Try.func33, Try.ntmps33
  go_wp2
  go_ret
  exact ⟨_, rfl, .inl ⟨rfl, rfl⟩, Below.refl _ _⟩
theorem compactL_any {B : Nat} {w : World} {v : Value} {d : List R3} (h : LRow B w v d) (hl : d.length * 24 ≤ 140737488355328) :
    Calls Try.prog 33 #[v] w fun e w' => ∃ v', e = .returned v' ∧ LRow B w' v' (dd d) ∧ Below B w w' := by
  rcases h with ⟨rfl, rfl⟩ | ⟨g, cap, rfl, h2, h3, h4⟩
  · exact compact_nil B w
  · refine (compact_any h2 h3 h4 hl).mono ?_
    rintro e w' ⟨rfl, h5, h6⟩
    have := dd_len d d.length
    rw [List.take_length] at this
    exact ⟨_, rfl, .inr ⟨g, cap, rfl, by omega, h3, h5⟩, h6⟩

set_option maxRecDepth 100000 in
set_option maxHeartbeats 1000000 in
theorem new_bad (r : R3) (hr : isOB r = false) (v : Value) (w : World) :
    Calls Try.prog 10 #[v, agg3 r] w fun e w' => e = .returned (.tuple #[.pointer none, .int .i64 1]) ∧ Below w.heap.size w w' := by
  have C := Hid.mk (isOrder_any r (w.alloc (.cells #[.int .i64 r.a, .int .i64 r.b, .int .i64 r.c] 23)))
  rw [hr] at C
  go_enter Try.func10, Try.ntmps10
  go_wp2_with fail
  refine C.out.mono ?_
  rintro e w1 ⟨rfl, hb⟩
  have HB : Hid (Below w.heap.size w w1) := Hid.mk (((Below.refl _ _).alloc (Nat.le_refl _) _).trans (hb.mono (by simp)))
  clear hb
  go_wp2
  go_ret2
  exact ⟨rfl, HB.out⟩

/-- What New leaves: an index in blocks of its own. -/
def NEnd (w : World) (o : Od) (rows : List R3) (e : Ending) (w' : World) : Prop :=
  ∃ (xb : Nat) (v : Value) (L : List R3), e = .returned (.tuple #[.pointer (some ⟨xb, 0, none⟩), .int .i64 0]) ∧ XAt (fun k => w.heap.size ≤ k ∧ k < w'.heap.size) w' xb v o L ∧ IdxOf o rows L ∧ Below w.heap.size w w'

set_option maxHeartbeats 4000000 in
set_option maxRecDepth 100000 in
theorem new_any {o : Od} (ho : o.ok) {w : World} {v : Value} {d : List R3} (h : RowsAt w v d) :
    Calls Try.prog 10 #[v, agg3 o.r3] w (NEnd w o d) := by
  obtain ⟨W1, hW1⟩ : ∃ W1, W1 = w.alloc (.cells #[.int .i64 o.r3.a, .int .i64 o.r3.b, .int .i64 o.r3.c] 23) := ⟨_, rfl⟩
  have b1 : Below w.heap.size w W1 := by rw [hW1]; exact (Below.refl _ _).alloc (Nat.le_refl _) _
  have r1 : RowB W1 w.heap.size o.r3 := by rw [hW1]; exact box_at w _
  have z1 : W1.heap.size = w.heap.size + 1 := by rw [hW1]; simp
  have C1 := Hid.mk (isOrder_any o.r3 W1)
  rw [isOB_od ho] at C1
  have hl := h.1
  have hwf := h.2.1
  have H1 := Hid.mk (h.below b1)
  have HW1 := Hid.mk hW1
  have HB1 := Hid.mk b1
  have HR1 := Hid.mk r1
  have HZ1 := Hid.mk z1
  have c0 := (r1.cell (p := 0) (by omega)).1
  have c1 := (r1.cell (p := 1) (by omega)).1
  have c2 := (r1.cell (p := 2) (by omega)).1
  simp only [R3.at] at c0 c1 c2
  have q0 := c0
  have q1 := c1
  have q2 := c2
  rw [hW1] at q0 q1 q2
  have HWF := Hid.mk hwf
  have HO := Hid.mk ho
  clear h b1 r1 z1 hW1 hwf ho
  go_enter Try.func10, Try.ntmps10
  go_wp2_with fail
  rw [← HW1.out]
  refine C1.out.mono ?_
  rintro e w2 ⟨rfl, hb2⟩
  have H2 := Hid.mk (H1.out.below hb2)
  have HR2 := Hid.mk (HR1.out.below hb2)
  have HB2 : Hid (Below w.heap.size w w2) := Hid.mk (HB1.out.trans (hb2.mono HB1.out.size))
  have HZ2 : Hid (w.heap.size + 1 ≤ w2.heap.size) := Hid.mk (by have := hb2.size; rw [HZ1.out] at this; exact this)
  clear hb2 q0 q1 q2 c0 c1 c2 H1 HR1 HB1
  go_wp2_with fail
  refine (clone_any H2.out).mono ?_
  rintro e w3 ⟨v3, rfl, hr3, hb3⟩
  have HR3 := Hid.mk hr3
  have HRB3 := Hid.mk (HR2.out.below hb3)
  have HB3 : Hid (Below w.heap.size w w3) := Hid.mk (HB2.out.trans (hb3.mono HB2.out.size))
  have HZ3 : Hid (w2.heap.size ≤ w3.heap.size) := Hid.mk hb3.size
  clear hr3 hb3
  go_wp2_with fail
  refine (sort_any HO.out HRB3.out.row (B := w2.heap.size) HZ2.out HZ3.out HR3.out hl).mono ?_
  rintro e w4 ⟨rfl, hr4, hb4⟩
  have hl4 : (sortR o d).length = d.length := (sortR_perm o d).length_eq
  have HR4 := Hid.mk hr4
  have HRB4 : Hid (RowB w4 w.heap.size o.r3) := Hid.mk ((hb4.block w.heap.size HZ2.out).trans HRB3.out)
  have HB4 : Hid (Below w.heap.size w w4) := Hid.mk (HB3.out.trans (hb4.mono (Nat.le_of_succ_le HZ2.out)))
  have HZ4 : Hid (w2.heap.size ≤ w4.heap.size) := Hid.mk (Nat.le_trans HZ3.out hb4.size)
  clear hr4 hb4 HR3 HRB3 HB3
  go_wp2_with fail
  have CC : Hid (∀ w5, Below w4.heap.size w4 w5 → Calls Try.prog 33 #[v3] w5 fun e w' => ∃ v', e = .returned v' ∧ LRow w2.heap.size w' v' (dd (sortR o d)) ∧ Below w2.heap.size w5 w') := Hid.mk (fun w5 h5 => compactL_any (HR4.out.below h5) (by omega))
  have HC : Hid (∀ w5, RowB w5 w.heap.size o.r3 → w5.cell? ⟨w.heap.size, 0, none⟩ = some (.int .i64 o.r3.a) ∧ w5.cell? ⟨w.heap.size, 1, none⟩ = some (.int .i64 o.r3.b) ∧ w5.cell? ⟨w.heap.size, 2, none⟩ = some (.int .i64 o.r3.c)) := Hid.mk (fun w5 h5 => ⟨(h5.cell (p := 0) (by omega)).1, (h5.cell (p := 1) (by omega)).1, (h5.cell (p := 2) (by omega)).1⟩)
  have k4 := HC.out w4 HRB4.out
  obtain ⟨k0, k1, k2⟩ := k4
  have CC2 := Hid.mk (CC.out w4.drew (Below.refl _ _).drew)
  go_region_held3 (fun w' => w'.cell? ⟨w.heap.size, 0, none⟩ = some (.int .i64 o.r3.a) ∧ w'.cell? ⟨w.heap.size, 1, none⟩ = some (.int .i64 o.r3.b) ∧ w'.cell? ⟨w.heap.size, 2, none⟩ = some (.int .i64 o.r3.c))
    (first | exact ⟨k0, k1, k2⟩ | (exact ⟨by assumption, by assumption, by assumption⟩) | (exact ⟨Lib.cell?_alloc_some _ (by assumption), Lib.cell?_alloc_some _ (by assumption), Lib.cell?_alloc_some _ (by assumption)⟩))
    (first | (go_at_call 33; refine CC2.out.mono ?_; rintro e w5 ⟨v5, rfl, hr5, hb5⟩; obtain ⟨a5, n5, cap5, rfl⟩ := hr5.slice; obtain ⟨m0, m1, m2⟩ := HC.out w5 ((hb5.block w.heap.size HZ2.out).trans HRB4.out); have HZ5 := Hid.mk (lt_of_block ((hb5.block w.heap.size HZ2.out).trans HRB4.out)); have HR5 := Hid.mk hr5; have HB5 := Hid.mk hb5; clear hr5 hb5))
  have hS : Hid (Below w.heap.size w w5) := Hid.mk (HB4.out.drew.trans (HB5.out.mono (Nat.le_of_succ_le HZ2.out)))
  have HX : Hid (IdxOf o d (dd (sortR o d))) := Hid.mk (idx_sorted HO.out d)
  have hB6 : Hid (Below w.heap.size w (w5.alloc (.cells #[.pointer (some ⟨w5.heap.size, 0, none⟩), .int .i64 o.r3.a, .int .i64 o.r3.b, .int .i64 o.r3.c, .slice a5 n5 cap5] 58))) := Hid.mk (hS.out.alloc hS.out.size _)
  have hB7 : Hid (Below w5.heap.size w5 (w5.alloc (.cells #[.pointer (some ⟨w5.heap.size, 0, none⟩), .int .i64 o.r3.a, .int .i64 o.r3.b, .int .i64 o.r3.c, .slice a5 n5 cap5] 58))) := Hid.mk ((Below.refl _ _).alloc (Nat.le_refl _) _)
  go_wp2
  go_ret2
  refine ⟨w5.heap.size, .slice a5 n5 cap5, dd (sortR o d), rfl, ⟨box_at w5 _, ⟨hS.out.size, by simp⟩, HO.out, HX.out.strict, ?_⟩, HX.out, hB6.out⟩
  refine (HR5.out.below hB7.out).rows ?_ (fun r hr => HWF.out r ((HX.out.mem r).1 hr)) (fun k h1 h2 => ⟨Nat.le_trans (Nat.le_of_succ_le HZ2.out) h1, h2⟩)
  have := HX.out.len
  omega

set_option maxRecDepth 100000 in
/-- Rows. -/
theorem rows_any {S : Nat → Prop} {w : World} {xb : Nat} {v : Value} {o : Od} {L : List R3} (h : XAt S w xb v o L) :
    Calls Try.prog 14 #[.pointer (some ⟨xb, 0, none⟩)] w fun e w' => ∃ ao n cap, e = .returned (.slice ao n cap) ∧ LRow w.heap.size w' (.slice ao n cap) L ∧ Below w.heap.size w w' := by
  obtain ⟨g0, g1, g2, g3, g4⟩ := five_cells h.blk
  have C := Hid.mk (given_any xb w g0)
  have C2 := Hid.mk (clone_any h.rows)
  clear h
  go_enter Try.func14, Try.ntmps14
  go_wp2_with fail
  refine C.out.mono ?_
  rintro e w1 ⟨rfl, hw⟩
  subst hw
  go_wp2_with fail
  refine C2.out.mono ?_
  rintro e w2 ⟨v2, rfl, hr, hb⟩
  obtain ⟨ao, n, cap, rfl⟩ := hr.slice
  have HR := Hid.mk hr
  have HB := Hid.mk hb
  clear hr hb
  go_wp2
  go_ret
  exact ⟨ao, n, cap, rfl, HR.out, HB.out⟩
end Go.Proofs.Ytfocpjplokabgaa
