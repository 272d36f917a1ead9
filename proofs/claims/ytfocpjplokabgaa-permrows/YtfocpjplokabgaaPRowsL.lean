/- The statement of an index of any rows, in any order. -/
import Derived.Test.YtfocpjplokabgaaPRefN
import Derived.Test.YtfocpjplokabgaaPOpenS
namespace Go.Proofs.Ytfocpjplokabgaa
open Go.RowKit Go.Shelf

/-- Both indices, of the same rows. -/
structure BothX (w w' : World) (xx gq : Nat) (vx : Value) (o : Od) (L : List R3) (aq : Option Addr) (M cq : Nat) : Prop where
  x : Indx w w' xx vx o L
  q : w'.cell? ⟨gq, 3, none⟩ = some (.slice aq M cq)
  lt : gq < w'.heap.size
  rows : RowsAt w' (.slice aq M cq) L
theorem BothX.below {w w' w'' : World} {xx gq : Nat} {vx : Value} {o : Od} {L : List R3} {aq : Option Addr} {M cq : Nat} (h : BothX w w' xx gq vx o L aq M cq) (hb : Below w'.heap.size w' w'') : BothX w w'' xx gq vx o L aq M cq :=
  ⟨h.x.below hb, (hb.cell (p := ⟨gq, 3, none⟩) h.lt).trans h.q, Nat.lt_of_lt_of_le h.lt hb.size, h.rows.below hb⟩

set_option maxHeartbeats 8000000 in
set_option maxRecDepth 100000 in
theorem permRows_walk (v : Value) (rs : List R3) (z : R3) (w : World) (hv : RowsAt w v rs) (_hz : z.wf) :
    Calls Try.prog 3 #[v, agg3 z] w fun e w' => e = .returned (.bool true) ∧ Below w.heap.size w w' := by
  obtain ⟨W1, hW1⟩ : ∃ W1, W1 = w.alloc (.cells #[.int .i64 z.a, .int .i64 z.b, .int .i64 z.c] 23) := ⟨_, rfl⟩
  have hb1 : Below w.heap.size w W1 := by rw [hW1]; exact (Below.refl _ _).alloc (Nat.le_refl _) _
  have hblk : RowB W1 w.heap.size z := by rw [hW1]; exact box_at w _
  have HV := Hid.mk (hv.below hb1)
  have HRB := Hid.mk hblk
  have HW1 := Hid.mk hW1
  have HB1 := Hid.mk hb1
  obtain ⟨_, _, ao, cap, rfl, _⟩ := hv
  obtain ⟨N, hN⟩ : ∃ N, N = rs.length := ⟨_, rfl⟩
  have HN := Hid.mk hN
  rw [← hN] at HV ⊢
  clear hN hb1 hblk hW1
  by_cases hbig : 100 < N
  · have hbigI : (100 : Int) < (N : Int) := by omega
    go_enter Try.func3, Try.ntmps3
    go_wp2_with fail
    rw [← HW1.out]
    refine (awake_any _).mono ?_
    rintro e w3 ⟨rfl, hb3⟩
    have HF : Hid (Below w.heap.size w w3) := Hid.mk (HB1.out.trans (hb3.mono HB1.out.size))
    clear hb3
    go_wp2
    go_ret
    exact ⟨rfl, HF.out⟩
  · have hbigI : ¬ (100 : Int) < (N : Int) := by omega
    have HC : Hid (∀ w5, RowB w5 w.heap.size z → w5.cell? ⟨w.heap.size, 0, none⟩ = some (.int .i64 z.a) ∧ w5.cell? ⟨w.heap.size, 1, none⟩ = some (.int .i64 z.b) ∧ w5.cell? ⟨w.heap.size, 2, none⟩ = some (.int .i64 z.c)) := Hid.mk (fun w5 h5 => ⟨(h5.cell (p := 0) (by omega)).1, (h5.cell (p := 1) (by omega)).1, (h5.cell (p := 2) (by omega)).1⟩)
    cases hz : isOB z with
    | false =>
      have C1 := Hid.mk (new_bad z hz (.slice ao N cap) W1)
      have HZ := Hid.mk hz
      clear hz
      go_enter Try.func3, Try.ntmps3
      go_wp2_with fail
      rw [← HW1.out]
      refine C1.out.mono ?_
      rintro e w2 ⟨rfl, hb2⟩
      have HB2 : Hid (Below w.heap.size w w2) := Hid.mk (HB1.out.trans (hb2.mono HB1.out.size))
      obtain ⟨c0, c1, c2⟩ := HC.out w2 (HRB.out.below hb2)
      have C2 := Hid.mk (rNew_bad z HZ.out (.slice ao N cap) w2)
      clear hb2 C1
      go_wp2_with fail
      refine C2.out.mono ?_
      rintro e w3 ⟨rfl, hb3⟩
      have HB3 : Hid (Below w.heap.size w w3) := Hid.mk (HB2.out.trans (hb3.mono HB2.out.size))
      clear hb3 C2 c0 c1 c2
      go_wp2_with fail
      refine (awake_any _).mono ?_
      rintro e w4 ⟨rfl, hb4⟩
      have HF : Hid (Below w.heap.size w w4) := Hid.mk (by
        have h5 := HB3.out.alloc HB3.out.size (.cells #[.int .i64 0, .int .i64 0, .int .i64 0, .slice none 0 0] 30)
        exact h5.trans (hb4.mono h5.size))
      clear hb4
      go_wp2
      go_ret
      exact ⟨rfl, HF.out⟩
    | true =>
      obtain ⟨o, ho, rfl⟩ := (isOB_iff z).1 hz
      have HO := Hid.mk ho
      have C1 := Hid.mk (indx_new (w := w) HO.out HV.out HB1.out)
      clear hz ho
      go_enter Try.func3, Try.ntmps3
      go_wp2_with fail
      rw [← HW1.out]
      refine C1.out.mono ?_
      rintro e w2 ⟨xx, vx, L, rfl, hix, hdx, hb2⟩
      have HIX := Hid.mk hix
      have HDX := Hid.mk hdx
      obtain ⟨c0, c1, c2⟩ := HC.out w2 (HRB.out.below hb2)
      have C2 := Hid.mk (rNew_any HO.out (HV.out.below hb2))
      clear hix hdx hb2 C1
      go_wp2_with fail
      refine C2.out.mono ?_
      rintro e w3 ⟨aq, cq, Lq, rfl, hrq, hdq, hb3⟩
      have HLQ : Lq = L := hdq.unique HDX.out (fun _ => Iff.rfl)
      subst HLQ
      obtain ⟨M, hM⟩ : ∃ M, M = Lq.length := ⟨_, rfl⟩
      have HM := Hid.mk hM
      have HI3 := Hid.mk (HIX.out.below hb3)
      have HRQ := Hid.mk hrq
      rw [← hM] at HRQ ⊢
      obtain ⟨W4, hW4⟩ : ∃ W4, W4 = w3.alloc (.cells #[.int .i64 o.r3.a, .int .i64 o.r3.b, .int .i64 o.r3.c, .slice aq M cq] 30) := ⟨_, rfl⟩
      have HBX : Hid (BothX w W4 xx w3.heap.size vx o Lq aq M cq) := Hid.mk (by
        have hal : Below w3.heap.size w3 W4 := by rw [hW4]; exact (Below.refl _ _).alloc (Nat.le_refl _) _
        have hbx : W4.heap[w3.heap.size]? = some (.cells #[.int .i64 o.r3.a, .int .i64 o.r3.b, .int .i64 o.r3.c, .slice aq M cq] 30 (0, 0)) := by rw [hW4]; exact box_at w3 _
        exact ⟨HI3.out.below hal, (four_cells hbx).1.2.2.2, lt_of_block hbx, HRQ.out.below hal⟩)
      have HW4 := Hid.mk hW4
      have HD4 : Hid (Below W4.heap.size W4 W4.drew) := Hid.mk (Below.refl _ _).drew
      have q3 := HBX.out.q
      have CL : Hid (Calls Try.prog 12 #[.pointer (some ⟨xx, 0, none⟩)] W4.drew fun e w' => e = .returned (.int .i64 (M : Int)) ∧ BothX w w' xx w3.heap.size vx o Lq aq M cq) := Hid.mk (by
        have h5 := HBX.out.below HD4.out
        refine h5.x.len.mono ?_
        rintro e w' ⟨he, hw⟩
        rw [hw, HM.out]
        rw [← HM.out]
        exact ⟨by rw [he, HM.out], h5⟩)
      clear hM hW4 hrq hdq hb3 C2 c0 c1 c2 HIX HI3 HRQ
      go_wp2_with fail
      rw [← HW4.out]
      go_region_held3 (fun w' => w'.cell? ⟨w3.heap.size, 3, none⟩ = some (.slice aq M cq))
        (first | exact q3 | assumption)
        (first
          | (go_at_call 12; refine CL.out.mono ?_; rintro e w5 ⟨rfl, hx5⟩; have q5 := hx5.q; have X5 := Hid.mk hx5; clear hx5)
          | (go_at_call 14; refine X5.out.x.rows.mono ?_; rintro e w6 ⟨a6, c6, rfl, hr6, hx6, hb6⟩; have X6 := Hid.mk (X5.out.below hb6); have q6 := X6.out.q; have R6 := Hid.mk hr6; clear hr6 hx6 hb6)
          | (go_at_call 13; refine (same_any R6.out X6.out.rows).mono ?_; rintro e w7 ⟨rfl, hb7⟩; have X7 := Hid.mk (X6.out.below hb7); have q7 := X7.out.q; clear hb7)
          | (go_at_call 9; refine (awake_any _).mono ?_; rintro e w8 ⟨rfl, hb8⟩; have X8 := Hid.mk (X7.out.below hb8); have q8 := X8.out.q; clear hb8))
      go_wp2
      go_ret
      exact ⟨rfl, X8.out.x.2⟩
end Go.Proofs.Ytfocpjplokabgaa
