/- Write, Fail and Begin of the document's journal. -/
import Derived.Test.YtnepednomejniaaJMA
namespace Go.Proofs.Ytnepednomejniaa
open Go.RowKit

theorem three_blocks (w : World) (o0 o1 o2 : Obj) : (((w.alloc o0).alloc o1).alloc o2).heap[w.heap.size]? = some o0 ∧ (((w.alloc o0).alloc o1).alloc o2).heap[w.heap.size + 1]? = some o1 ∧ (((w.alloc o0).alloc o1).alloc o2).heap[w.heap.size + 2]? = some o2 ∧ Below w.heap.size w (((w.alloc o0).alloc o1).alloc o2) := by
  obtain ⟨t0, t1, t2⟩ := two_blocks w o0 o1
  have s : ((w.alloc o0).alloc o1).heap.size = w.heap.size + 2 := by simp
  have t3 := box_at ((w.alloc o0).alloc o1) o2
  rw [s] at t3
  exact ⟨(Below.heap_alloc _ o2 _ (lt_of_block t0)).trans t0, (Below.heap_alloc _ o2 _ (lt_of_block t1)).trans t1, t3, t2.alloc (by omega) _⟩

theorem owns_set4 {w : World} {B b n : Nat} {e : TypeId} {size : Nat} {v : Value} {xs : List Value} (h : w.ownsRow B e size v n xs) (hb : b < B) (u0 u1 u2 u3 : Value) : (set4 w b u0 u1 u2 u3).ownsRow B e size v n xs := owns_set (owns_set (owns_set (owns_set h hb) hb) hb) hb
theorem own_cells_eq {w : World} {B B' g n cap : Nat} {e : TypeId} {size : Nat} {xs ys : List Value} (h1 : w.ownsRow B e size (.slice (some ⟨g, 0, none⟩) n cap) n xs) (h2 : w.ownsRow B' e size (.slice (some ⟨g, 0, none⟩) n cap) n ys) : xs = ys := by
  rcases h1.2 with ⟨h, _⟩ | ⟨g1, k1, c1, a1, _, a3, _, _, _, a7⟩
  · simp at h
  · rcases h2.2 with ⟨h, _⟩ | ⟨g2, k2, c2, b1, _, b3, _, _, _, b7⟩
    · simp at h
    · simp only [Value.slice.injEq, Option.some.injEq, Addr.mk.injEq, and_true, true_and] at a1 b1
      obtain ⟨rfl, rfl⟩ := a1
      obtain ⟨rfl, rfl⟩ := b1
      rw [a3] at b3
      simp only [Option.some.injEq, Obj.cells.injEq, and_true] at b3
      rw [← a7, ← b7, b3]

/-- What Write answers of the document's journal. -/
def RWEnd (w0 : World) (S : Nat → Prop) (w : World) (room sure : Nat) (vn ve : Value) (ns : List NoteD) (n : NoteD) (e : Ending) (w' : World) : Prop :=
  (¬ n.may ∧ e = .returned (.tuple #[qV room sure vn ve, .int .i64 1])) ∨
  (n.may ∧ room < (seals ns).length + (sealB n.body).length ∧ e = .returned (.tuple #[qV room sure vn ve, .int .i64 40])) ∨
  (n.may ∧ (seals (ns ++ [n])).length ≤ room ∧ ∃ vn' ve', e = .returned (.tuple #[qV room sure vn' ve', .int .i64 0]) ∧ QAt w0 (Plus S w.heap.size w'.heap.size) w' vn' ve' (ns ++ [n]))

set_option maxHeartbeats 4000000 in
set_option maxRecDepth 100000 in
theorem rWrite_any {w0 : World} {S : Nat → Prop} {w : World} {vn ve : Value} {ns : List NoteD} (h : QAt w0 S w vn ve ns) (room sure : Nat) (hfit : (seals ns).length ≤ room) (hrm : room ≤ 67108864) (hcn : ns.length ≤ 8388607) (hw0 : Below w0.heap.size w0 w) (va : Value) (n : NoteD) (ha : NoteAt w0 va n) :
    Calls Try.prog 23 #[qV room sure vn ve, va] w fun e w' => Below w.heap.size w w' ∧ RWEnd w0 S w room sure vn ve ns n e w' := by
  have NA0 := Hid.mk ha
  obtain ⟨x1, x2, x3, rfl, _⟩ := ha
  obtain ⟨i0, hi0, hz0, hz1, hz2⟩ := info_parts infoInt
  obtain ⟨j0, hj0, hy0, hy1, hy2⟩ := info_parts infoNote
  obtain ⟨y1, y2, y3, y4, y5, y6, y7, y8, y9, ec1, ec2, ec3⟩ := note_slices NA0.out
  subst ec1 ec2 ec3
  obtain ⟨a1, k1, a2, k2, ev1, ev2, hk1, hk2⟩ := h.slices
  subst ev1 ev2
  obtain ⟨t0, t1, t2, t3⟩ := three_blocks w (.cells #[.int .i64 room, .int .i64 sure, .slice a1 ns.length k1, .slice a2 ns.length k2] 30) (.cells #[.int .i64 n.kind, .slice y1 y2 y3, .slice y4 y5 y6, .slice y7 y8 y9] 37) (.cells #[.int .i64 0, .int .i64 0, .slice none 0 0, .slice none 0 0] 30)
  obtain ⟨W0, hW0⟩ : ∃ W0, W0 = ((w.alloc (.cells #[.int .i64 room, .int .i64 sure, .slice a1 ns.length k1, .slice a2 ns.length k2] 30)).alloc (.cells #[.int .i64 n.kind, .slice y1 y2 y3, .slice y4 y5 y6, .slice y7 y8 y9] 37)).alloc (.cells #[.int .i64 0, .int .i64 0, .slice none 0 0, .slice none 0 0] 30) := ⟨_, rfl⟩
  rw [← hW0] at t0 t1 t2 t3
  have hbw0 : Below w0.heap.size w0 W0 := hw0.trans (t3.mono hw0.size)
  have P1 := Hid.mk (rPack_any _ n W0 (NA0.out.below hbw0))
  have H0 := Hid.mk (h.below t3)
  have CELLS : Hid (∀ wr, Below W0.heap.size W0 wr → (wr.heap[w.heap.size]? = some (.cells #[.int .i64 room, .int .i64 sure, .slice a1 ns.length k1, .slice a2 ns.length k2] 30 (0, 0))) ∧ (wr.heap[w.heap.size + 1]? = some (.cells #[.int .i64 n.kind, .slice y1 y2 y3, .slice y4 y5 y6, .slice y7 y8 y9] 37 (0, 0))) ∧ (wr.heap[w.heap.size + 2]? = some (.cells #[.int .i64 0, .int .i64 0, .slice none 0 0, .slice none 0 0] 30 (0, 0))) ∧ Below w.heap.size w wr) := Hid.mk (fun wr hb => ⟨(hb.block _ (lt_of_block t0)).trans t0, (hb.block _ (lt_of_block t1)).trans t1, (hb.block _ (lt_of_block t2)).trans t2, t3.trans (hb.mono t3.size)⟩)
  obtain ⟨⟨q0, q1, q2, q3⟩, _⟩ := four_cells t1
  have HW0 := Hid.mk hW0
  have HWS : Hid (w.heap.size + 3 ≤ W0.heap.size) := Hid.mk (by have := lt_of_block t2; omega)
  clear h t0 t1 t2 t3 hW0 hbw0
  go_enter Try.func23, Try.ntmps23
  go_wp2_with fail
  rw [← HW0.out]
  go_wp2_with fail
  by_cases hm : n.may
  · rw [packV_may hm] at P1
    have hsl := sealB_len n.body
    have hbl := hm.2.2
    have HM := Hid.mk hm
    obtain ⟨l, hl⟩ : ∃ l, l = sealB n.body := ⟨_, rfl⟩
    rw [← hl] at P1 hsl
    have HL := Hid.mk hl
    have hll : l.length ≤ 1048584 := by omega
    have hzl := size_list l
    clear hm hl hbl hsl
    refine P1.out.mono ?_
    rintro e w2 ⟨rfl, hb2⟩
    have H2 := Hid.mk (H0.out.below hb2)
    have B2 := Hid.mk hb2
    obtain ⟨X, hX⟩ : ∃ X, X = (seals ns).length := ⟨_, rfl⟩
    have HX := Hid.mk hX
    have CB : Hid (∀ w3, Below w2.heap.size w2 w3 → Calls Try.prog 17 #[qV room sure (.slice a1 ns.length k1) (.slice a2 ns.length k2)] w3 fun e w' => e = .returned (.int .i64 (X : Int)) ∧ Below w3.heap.size w3 w') := Hid.mk (fun w3 h3 => by
      rw [hX]; exact rBytes_any (H2.out.below h3) room sure (by omega))
    rw [← hX] at hfit
    clear hX hb2 H0 P1 q0 q1 q2 q3
    obtain ⟨e0, e1, e2, _⟩ := CELLS.out _ B2.out
    obtain ⟨⟨r0, r1, r2, r3⟩, _⟩ := four_cells e0
    have hlt0 : w.heap.size < w2.heap.size := lt_of_block e0
    have S2 : Hid (w2.drew.cell? ⟨w.heap.size, 0, none⟩ = some (.int .i64 room) ∧ w2.drew.cell? ⟨w.heap.size, 1, none⟩ = some (.int .i64 sure) ∧ w2.drew.cell? ⟨w.heap.size, 2, none⟩ = some (.slice a1 ns.length k1) ∧ w2.drew.cell? ⟨w.heap.size, 3, none⟩ = some (.slice a2 ns.length k2) ∧ Below w2.heap.size w2 w2.drew) := Hid.mk ⟨r0, r1, r2, r3, (Below.refl _ _).drew⟩
    have KP : Hid (∀ w3 w4, (w3.cell? ⟨w.heap.size, 0, none⟩ = some (.int .i64 room) ∧ w3.cell? ⟨w.heap.size, 1, none⟩ = some (.int .i64 sure) ∧ w3.cell? ⟨w.heap.size, 2, none⟩ = some (.slice a1 ns.length k1) ∧ w3.cell? ⟨w.heap.size, 3, none⟩ = some (.slice a2 ns.length k2) ∧ Below w2.heap.size w2 w3) → Below w3.heap.size w3 w4 →
        (w4.cell? ⟨w.heap.size, 0, none⟩ = some (.int .i64 room) ∧ w4.cell? ⟨w.heap.size, 1, none⟩ = some (.int .i64 sure) ∧ w4.cell? ⟨w.heap.size, 2, none⟩ = some (.slice a1 ns.length k1) ∧ w4.cell? ⟨w.heap.size, 3, none⟩ = some (.slice a2 ns.length k2) ∧ Below w2.heap.size w2 w4)) := Hid.mk (fun w3 w4 h h4 => by
      obtain ⟨h0, h1, h2, h3, h6⟩ := h
      have l0 : w.heap.size < w3.heap.size := Nat.lt_of_lt_of_le hlt0 h6.size
      exact ⟨(h4.cell (p := ⟨w.heap.size, 0, none⟩) l0).trans h0, (h4.cell (p := ⟨w.heap.size, 1, none⟩) l0).trans h1, (h4.cell (p := ⟨w.heap.size, 2, none⟩) l0).trans h2, (h4.cell (p := ⟨w.heap.size, 3, none⟩) l0).trans h3, keepB h6 h4 (Nat.le_refl _)⟩)
    obtain ⟨Y, hY⟩ : ∃ Y, Y = room - X := ⟨_, rfl⟩
    have hwr : IntKind.i64.wrap ((room : Int) - (X : Int)) = (Y : Int) := by rw [IntKind.wrap_i64]; omega
    clear e0 e1 e2 r0 r1 r2 r3 hlt0
    go_wp2_with fail
    go_region_held (fun w' => w'.cell? ⟨w.heap.size, 0, none⟩ = some (.int .i64 room) ∧ w'.cell? ⟨w.heap.size, 1, none⟩ = some (.int .i64 sure) ∧ w'.cell? ⟨w.heap.size, 2, none⟩ = some (.slice a1 ns.length k1) ∧ w'.cell? ⟨w.heap.size, 3, none⟩ = some (.slice a2 ns.length k2) ∧ Below w2.heap.size w2 w')
      (first | exact S2.out | exact KP.out _ _ (by assumption) (by assumption))
      (first | (go_at_call 17; refine (CB.out _ (by assumption : _ ∧ _ ∧ _ ∧ _ ∧ Below w2.heap.size w2 _).2.2.2.2).mono ?_; rintro e w4 ⟨rfl, hb4⟩))
    all_goals (
      have hfin := (by assumption : _ ∧ _ ∧ _ ∧ _ ∧ Below w2.heap.size w2 w4).2.2.2.2
      have B4 := Hid.mk (keepB B2.out hfin (Nat.le_refl _))
      have H4 := Hid.mk (H2.out.below hfin)
      have CB4 := Hid.mk (CB.out _ hfin)
      obtain ⟨W4, hW4⟩ : ∃ W, W = w4 := ⟨_, rfl⟩
      subst hW4
      clear hfin hb4 S2 KP CB H2 B2
      obtain ⟨e0, e1, e2, hbw⟩ := CELLS.out _ B4.out
      obtain ⟨⟨r0, r1, r2, r3⟩, ⟨f0, f1, f2, f3⟩⟩ := four_cells e0
      obtain ⟨⟨m0, m1, m2, m3⟩, ⟨n0, n1, n2, n3⟩⟩ := four_cells e2
      by_cases hr : room < X + l.length
      · have hrI : (Y : Int) < (l.length : Int) := by omega
        obtain ⟨⟨z0, z1, z2, z3⟩, _⟩ := four_cells (set4_block e2 (.int .i64 room) (.int .i64 sure) (.slice a1 ns.length k1) (.slice a2 ns.length k2))
        have Z0 := Hid.mk z0
        have Z1 := Hid.mk z1
        have Z2 := Hid.mk z2
        have Z3 := Hid.mk z3
        have BF := Hid.mk (set4_below (b := w.heap.size + 2) hbw (by omega) (.int .i64 room) (.int .i64 sure) (.slice a1 ns.length k1) (.slice a2 ns.length k2))
        have HRR : Hid (room < (seals ns).length + (sealB n.body).length) := Hid.mk (by rw [← HX.out, ← HL.out]; exact hr)
        clear z0 z1 z2 z3 e0 e1 e2 hbw
        go_wp2
        refine bodyPost_ret (v := .tuple #[qV room sure (.slice a1 ns.length k1) (.slice a2 ns.length k2), .int .i64 40]) ?_ rfl ⟨BF.out, .inr (.inl ⟨HM.out, HRR.out, rfl⟩)⟩
        simp [results, Try.results23, go_sem, Z0.out, Z1.out, Z2.out, Z3.out]
      · have hrI : ¬ (Y : Int) < (l.length : Int) := by omega
        go_wp2_with fail
        refine CB4.out.mono ?_
        rintro e w5 ⟨rfl, hb5⟩
        have B5 := Hid.mk (keepB B4.out hb5 (Nat.le_refl _))
        have H5 := Hid.mk (H4.out.below hb5)
        have HS5 : Hid (W0.heap.size ≤ w5.heap.size) := Hid.mk B5.out.size
        clear r0 r1 r2 r3 f0 f1 f2 f3 m0 m1 m2 m3 n0 n1 n2 n3 e0 e1 e2 hbw hb5 H4 B4 CB4
        obtain ⟨e0, e1, e2, _⟩ := CELLS.out _ B5.out
        obtain ⟨⟨r0, r1, r2, r3⟩, _⟩ := four_cells e0
        have hel := endsOf_len ns
        clear e0 e1 e2
        go_wp2_with (at_builtin; refine wpList_copy_notes rfl (.tmp 33) (.tmp 35) rfl _ ns (by rfl) (by rfl) H5.out.notes (by omega) ?_)
        intro v6 w6 cs hown6 hcs6 hb6
        have B6 := Hid.mk (keepB B5.out hb6 (Nat.le_refl _))
        have H6 := Hid.mk (H5.out.below hb6)
        have O6 := Hid.mk hown6
        have HC6 := Hid.mk hcs6
        have HS6 : Hid (w5.heap.size ≤ w6.heap.size) := Hid.mk hb6.size
        clear r0 r1 r2 r3 hown6 hcs6 hb6 H5 B5
        obtain ⟨e0, e1, e2, _⟩ := CELLS.out _ B6.out
        obtain ⟨⟨r0, r1, r2, r3⟩, _⟩ := four_cells e0
        clear e0 e1 e2
        go_wp2_with (at_builtin; refine wpList_copy_ints rfl (.tmp 37) (.tmp 39) rfl _ (endsOf ns) (by rfl) (by rfl) H6.out.ends (by omega) ?_)
        intro v7 w7 hown7 hb7
        have B7 := Hid.mk (keepB B6.out hb7 (Nat.le_refl _))
        have O7 := Hid.mk (owns_below O6.out hb7)
        have I7 := Hid.mk (owns_base hown7 HS6.out)
        have HS7 : Hid (w5.heap.size ≤ w7.heap.size) := Hid.mk (Nat.le_trans HS6.out hb7.size)
        clear r0 r1 r2 r3 hown7 hb7 H6 B6 O6
        obtain ⟨e0, e1, e2, _⟩ := CELLS.out _ B7.out
        obtain ⟨⟨r0, r1, r2, r3⟩, _⟩ := four_cells e1
        clear e0 e1 e2
        go_wp2_with (at_builtin; refine wpList_append_lies _ rfl (.tmp 41) (.tmp 43) _ rfl w5.heap.size 37 j0 _ 4 80 Try.underlying27 hj0 hy0 hy1 hy2 rfl (by decide) v6 ns.length cs (by rfl) (O7.out.alloc _) ⟨w7.heap.size, 0, none⟩ 1 1 [.int .i64 n.kind, .slice y1 y2 y3, .slice y4 y5 y6, .slice y7 y8 y9] (by rfl) (by rfl) ?d1 ?d2 (by decide) ?d3 ?d4 ?d5 (w7.heap.size + 1) (by simp) ?_)
        case d1 => exact World.news_of_block (cs := #[.int .i64 n.kind, .slice y1 y2 y3, .slice y4 y5 y6, .slice y7 y8 y9]) (t := 37) (fr := (0, 0)) (heap_alloc_new w7 _)
        case d2 => intro u hu; simp at hu; rcases hu with rfl | rfl | rfl | rfl <;> rfl
        case d3 => unfold maxLen; omega
        case d4 => omega
        case d5 => have := HS7.out; simp; omega
        intro g8 cap8 w8 hown8 hgrow8 hat8 hlt8
        have al8 : Below w7.heap.size w7 (w7.alloc (.cells #[.int .i64 n.kind, .slice y1 y2 y3, .slice y4 y5 y6, .slice y7 y8 y9] 37)) := (Below.refl _ _).alloc (Nat.le_refl _) _
        have B8 := Hid.mk ((keepB B7.out al8 (Nat.le_refl _)).grown hgrow8 (by have := HS7.out; have := HS5.out; simp; omega) (fun k hk => Nat.le_trans HS5.out (own_ge O7.out hk)))
        have I8 := Hid.mk (owns_other (owns_below I7.out al8) (owns_below O7.out al8) hgrow8 (by decide))
        have G8 := Hid.mk (GoodRow.snoc (w := w7) (owns_base O7.out (Nat.le_trans hw0.size (by have := HS5.out; have := HWS.out; omega))) HC6.out NA0.out (owns_base hown8 (Nat.le_trans hw0.size (by have := HS5.out; have := HWS.out; omega))))
        have O8 := Hid.mk hown8
        have HS8 : Hid (w5.heap.size ≤ w8.heap.size) := Hid.mk (by have := HS7.out; have := hgrow8.size; simp at this; omega)
        clear r0 r1 r2 r3 hown8 hgrow8 hat8 hlt8 al8 O7 I7 B7
        obtain ⟨e0, e1, e2, hbw8⟩ := CELLS.out _ B8.out
        obtain ⟨⟨r0, r1, r2, r3⟩, ⟨f0, f1, f2, f3⟩⟩ := four_cells e0
        have e3 := four_set2 (v := .slice (some ⟨g8, 0, none⟩) (ns.length + 1) cap8) e0
        have e4 : (w8.setCell ⟨w.heap.size, 2, none⟩ (.slice (some ⟨g8, 0, none⟩) (ns.length + 1) cap8)).heap[w.heap.size + 2]? = _ := (Below.heap_setCell w8 ⟨w.heap.size, 2, none⟩ (.slice (some ⟨g8, 0, none⟩) (ns.length + 1) cap8) (w.heap.size + 2) (by simp)).trans e2
        have hlo : w.heap.size < w5.heap.size := by have := HS5.out; have := HWS.out; omega
        have O9 := Hid.mk (owns_set (i := 2) (u := .slice (some ⟨g8, 0, none⟩) (ns.length + 1) cap8) O8.out hlo)
        have I9 := Hid.mk (owns_set (i := 2) (u := .slice (some ⟨g8, 0, none⟩) (ns.length + 1) cap8) I8.out hlo)
        have bw9 := hbw8.setCell (p := ⟨w.heap.size, 2, none⟩) (Nat.le_refl _) (.slice (some ⟨g8, 0, none⟩) (ns.length + 1) cap8)
        have hz9 : (w8.setCell ⟨w.heap.size, 2, none⟩ (.slice (some ⟨g8, 0, none⟩) (ns.length + 1) cap8)).heap.size = w8.heap.size := by simp
        have HS9 : Hid (w5.heap.size ≤ (w8.setCell ⟨w.heap.size, 2, none⟩ (.slice (some ⟨g8, 0, none⟩) (ns.length + 1) cap8)).heap.size) := Hid.mk (by rw [hz9]; exact HS8.out)
        clear e0 e1 e2
        go_wp2_with (at_builtin; refine wpList_append_lies _ rfl (.tmp 46) (.tmp 48) _ rfl w5.heap.size 3 i0 _ 1 8 Try.underlying28 hi0 hz0 hz1 hz2 rfl (by decide) v7 _ _ (by rfl) (I9.out.alloc _) ⟨w8.heap.size, 0, none⟩ 1 1 [.int .i64 ((X : Int) + (l.length : Int))] (by rfl) (by rfl) ?d6 ?d7 (by decide) ?d8 ?d9 ?d10 (w8.heap.size + 1) (by simp) ?_)
        case d6 => exact World.news_of_block (cs := #[.int .i64 ((X : Int) + (l.length : Int))]) (t := 3) (fr := (0, 0)) (by rw [← hz9]; exact heap_alloc_new _ _)
        case d7 => intro u hu; rw [List.mem_singleton] at hu; subst hu; rfl
        case d8 => unfold maxLen; omega
        case d9 => omega
        case d10 => have := HS8.out; simp; omega
        intro g9 cap9 w10 hown10 hgrow10 hat10 hlt10
        have al10 : Below (w8.setCell ⟨w.heap.size, 2, none⟩ (.slice (some ⟨g8, 0, none⟩) (ns.length + 1) cap8)).heap.size (w8.setCell ⟨w.heap.size, 2, none⟩ (.slice (some ⟨g8, 0, none⟩) (ns.length + 1) cap8)) ((w8.setCell ⟨w.heap.size, 2, none⟩ (.slice (some ⟨g8, 0, none⟩) (ns.length + 1) cap8)).alloc (.cells #[.int .i64 ((X : Int) + (l.length : Int))] 3)) := (Below.refl _ _).alloc (Nat.le_refl _) _
        have hnr : ∀ k, v7.ownBlock = some k → w5.heap.size ≤ k := fun k hk => own_ge I9.out hk
        have e5 := blk_grown ((al10.block _ (lt_of_block e3)).trans e3) hgrow10 (fun hk => by have := hnr _ hk; omega)
        have e6 := blk_grown ((al10.block _ (lt_of_block e4)).trans e4) hgrow10 (fun hk => by have := hnr _ hk; have := HS5.out; have := HWS.out; omega)
        have O10 := owns_other (owns_below O9.out al10) (owns_below I9.out al10) hgrow10 (by decide)
        have bw10 := (bw9.trans (al10.mono bw9.size)).grown hgrow10 (by have := bw9.size; simp; have := HS8.out; omega) (fun k hk => by have := hnr k hk; omega)
        obtain ⟨vN, hvN⟩ : ∃ v, v = Value.slice (some ⟨g8, 0, none⟩) (ns.length + 1) cap8 := ⟨_, rfl⟩
        obtain ⟨vE, hvE⟩ : ∃ v, v = Value.slice (some ⟨g9, 0, none⟩) (ns.length + 1) cap9 := ⟨_, rfl⟩
        clear r0 r1 r2 r3 f0 f1 f2 f3 hgrow10 hat10 hlt10 al10 O9 I9 bw9 hz9 e3 e4 HS9 hbw8
        obtain ⟨⟨r0, r1, r2, r3⟩, ⟨f0, f1, f2, f3⟩⟩ := four_cells e5
        have e7 := four_set3 (v := .slice (some ⟨g9, 0, none⟩) (ns.length + 1) cap9) e5
        have e8 : (w10.setCell ⟨w.heap.size, 3, none⟩ (.slice (some ⟨g9, 0, none⟩) (ns.length + 1) cap9)).heap[w.heap.size + 2]? = _ := (Below.heap_setCell w10 ⟨w.heap.size, 3, none⟩ (.slice (some ⟨g9, 0, none⟩) (ns.length + 1) cap9) (w.heap.size + 2) (by simp)).trans e6
        obtain ⟨⟨p0, p1, p2, p3⟩, ⟨s0, s1, s2, s3⟩⟩ := four_cells e7
        obtain ⟨⟨m0, m1, m2, m3⟩, ⟨n0, n1, n2, n3⟩⟩ := four_cells e8
        obtain ⟨⟨z0, z1, z2, z3⟩, _⟩ := four_cells (set4_block e8 (.int .i64 room) (.int .i64 sure) (.slice (some ⟨g8, 0, none⟩) (ns.length + 1) cap8) (.slice (some ⟨g9, 0, none⟩) (ns.length + 1) cap9))
        have Z0 := Hid.mk z0
        have Z1 := Hid.mk z1
        have Z2 := Hid.mk z2
        have Z3 := Hid.mk z3
        have bwF := set4_below (b := w.heap.size + 2) (bw10.setCell (p := ⟨w.heap.size, 3, none⟩) (Nat.le_refl _) (.slice (some ⟨g9, 0, none⟩) (ns.length + 1) cap9)) (by omega) (.int .i64 room) (.int .i64 sure) (.slice (some ⟨g8, 0, none⟩) (ns.length + 1) cap8) (.slice (some ⟨g9, 0, none⟩) (ns.length + 1) cap9)
        have OF := owns_set4 (b := w.heap.size + 2) (owns_set (i := 3) (u := .slice (some ⟨g9, 0, none⟩) (ns.length + 1) cap9) O10 hlo) (by have := HS5.out; have := HWS.out; omega) (.int .i64 room) (.int .i64 sure) (.slice (some ⟨g8, 0, none⟩) (ns.length + 1) cap8) (.slice (some ⟨g9, 0, none⟩) (ns.length + 1) cap9)
        have IF := owns_set4 (b := w.heap.size + 2) (owns_set (i := 3) (u := .slice (some ⟨g9, 0, none⟩) (ns.length + 1) cap9) hown10 hlo) (by have := HS5.out; have := HWS.out; omega) (.int .i64 room) (.int .i64 sure) (.slice (some ⟨g8, 0, none⟩) (ns.length + 1) cap8) (.slice (some ⟨g9, 0, none⟩) (ns.length + 1) cap9)
        obtain ⟨WF, hWF⟩ : ∃ W, W = set4 (w10.setCell ⟨w.heap.size, 3, none⟩ (.slice (some ⟨g9, 0, none⟩) (ns.length + 1) cap9)) (w.heap.size + 2) (.int .i64 room) (.int .i64 sure) (.slice (some ⟨g8, 0, none⟩) (ns.length + 1) cap8) (.slice (some ⟨g9, 0, none⟩) (ns.length + 1) cap9) := ⟨_, rfl⟩
        have hEnd : Below w.heap.size w WF ∧ RWEnd w0 S w room sure (.slice a1 ns.length k1) (.slice a2 ns.length k2) ns n (.returned (.tuple #[qV room sure (.slice (some ⟨g8, 0, none⟩) (ns.length + 1) cap8) (.slice (some ⟨g9, 0, none⟩) (ns.length + 1) cap9), .int .i64 0])) WF := by
          rw [← hWF] at bwF OF IF
          have eZ : (seals (ns ++ [n])).length = X + l.length := by rw [HX.out, HL.out, seals_snoc, List.length_append]
          refine ⟨bwF, .inr (.inr ⟨HM.out, by omega, _, _, rfl, ?_, ?_⟩)⟩
          · obtain ⟨cs', gg1, gg2⟩ := G8.out
            have hcs : cs' = cs ++ [.int .i64 n.kind, .slice y1 y2 y3, .slice y4 y5 y6, .slice y7 y8 y9] := own_cells_eq (by simpa using gg1) O8.out
            subst hcs
            refine goodRow_S ⟨_, owns_base (by simpa using OF) (Nat.le_trans hw0.size (by have := HS5.out; have := HWS.out; omega)), gg2⟩ (fun g hg => .inr ?_)
            have e1 : g8 = g := by simpa [Value.ownBlock] using hg
            subst e1
            exact ⟨by have := (OF.lt g8 rfl).1; omega, (OF.lt g8 rfl).2⟩
          · have hI : WF.ownsRow w5.heap.size 3 1 (.slice (some ⟨g9, 0, none⟩) (ns.length + 1) cap9) (endsOf (ns ++ [n])).length (intCs (endsOf (ns ++ [n]))) := by
              rw [endsOf_len, List.length_append, List.length_singleton, endsOf_snoc, intCs_snoc, eZ]
              exact IF
            refine ints_S hI (fun g hg => .inr ?_)
            have e1 : g9 = g := by simpa [Value.ownBlock] using hg
            subst e1
            exact ⟨by have := (IF.lt g9 rfl).1; omega, (IF.lt g9 rfl).2⟩
        rw [hWF] at hEnd
        have HE := Hid.mk hEnd
        clear hEnd z0 z1 z2 z3 e5 e6 e7 e8 bwF OF IF hWF O10 bw10 hown10 hvN hvE
        go_wp2
        refine bodyPost_ret (v := .tuple #[qV room sure (.slice (some ⟨g8, 0, none⟩) (ns.length + 1) cap8) (.slice (some ⟨g9, 0, none⟩) (ns.length + 1) cap9), .int .i64 0]) ?_ rfl HE.out
        simp [results, Try.results23, go_sem, Z0.out, Z1.out, Z2.out, Z3.out])
  · rw [packV_not hm] at P1
    have HM := Hid.mk hm
    clear hm
    refine P1.out.mono ?_
    rintro e w2 ⟨rfl, hb2⟩
    obtain ⟨e0, e1, e2, hbw⟩ := CELLS.out _ hb2
    obtain ⟨⟨r0, r1, r2, r3⟩, ⟨f0, f1, f2, f3⟩⟩ := four_cells e0
    obtain ⟨⟨m0, m1, m2, m3⟩, ⟨n0, n1, n2, n3⟩⟩ := four_cells e2
    obtain ⟨⟨z0, z1, z2, z3⟩, _⟩ := four_cells (set4_block e2 (.int .i64 room) (.int .i64 sure) (.slice a1 ns.length k1) (.slice a2 ns.length k2))
    have Z0 := Hid.mk z0
    have Z1 := Hid.mk z1
    have Z2 := Hid.mk z2
    have Z3 := Hid.mk z3
    have BF := Hid.mk (set4_below (b := w.heap.size + 2) hbw (by omega) (.int .i64 room) (.int .i64 sure) (.slice a1 ns.length k1) (.slice a2 ns.length k2))
    clear z0 z1 z2 z3 e0 e1 e2 hbw hb2 q0 q1 q2 q3
    go_wp2
    refine bodyPost_ret (v := .tuple #[qV room sure (.slice a1 ns.length k1) (.slice a2 ns.length k2), .int .i64 1]) ?_ rfl ⟨BF.out, .inl ⟨HM.out, rfl⟩⟩
    simp [results, Try.results23, go_sem, Z0.out, Z1.out, Z2.out, Z3.out]
end Go.Proofs.Ytnepednomejniaa

namespace Go.Proofs.Ytnepednomejniaa
open Go.RowKit

theorem Whole.one {ns : List NoteD} {T m k : Nat} (h : Whole ns T m) (g : Whole ns T k) : m = k := by
  obtain ⟨h1, h2, h3⟩ := h
  obtain ⟨g1, g2, g3⟩ := g
  rcases Nat.lt_trichotomy m k with hc | hc | hc
  · have := h3 (by omega)
    have := g2 m hc
    omega
  · exact hc
  · have := g3 (by omega)
    have := h2 k hc
    omega
theorem NotesS.take {w0 : World} {S : Nat → Prop} {w : World} {ao : Option Addr} {cap : Nat} {ns : List NoteD} (h : NotesS w0 S w (.slice ao ns.length cap) ns) (m : Nat) (hm : m ≤ ns.length) : NotesS w0 S w (.slice ao m m) (ns.take m) := by
  obtain ⟨ao', cap', e1, _, h3⟩ := h
  simp only [Value.slice.injEq, true_and] at e1
  obtain ⟨rfl, rfl⟩ := e1
  have hl : (ns.take m).length = m := by rw [List.length_take]; omega
  refine ⟨ao, m, by rw [hl], by omega, ?_⟩
  rcases h3 with rfl | ⟨b, cur, fz, a1, a2, a3, a4⟩
  · left; simp
  · refine .inr ⟨b, cur, fz, a1, a2, a3, fun j n hj => a4 j n ?_⟩
    rw [List.getElem?_take] at hj
    split at hj
    · exact hj
    · simp at hj
theorem IntsS.take {S : Nat → Prop} {w : World} {ao : Option Addr} {cap : Nat} {xs : List Int} (h : IntsS S w (.slice ao xs.length cap) xs) (m : Nat) (hm : m ≤ xs.length) : IntsS S w (.slice ao m m) (xs.take m) := by
  obtain ⟨ao', cap', e1, _, h3⟩ := h
  simp only [Value.slice.injEq, true_and] at e1
  obtain ⟨rfl, rfl⟩ := e1
  have hl : (xs.take m).length = m := by rw [List.length_take]; omega
  refine ⟨ao, m, by rw [hl], by omega, ?_⟩
  rcases h3 with rfl | ⟨b, cur, fz, a1, a2, a3, a4⟩
  · left; simp
  · refine .inr ⟨b, cur, fz, a1, a2, a3, fun j n hj => a4 j n ?_⟩
    rw [List.getElem?_take] at hj
    split at hj
    · exact hj
    · simp at hj
theorem QAt.take {w0 : World} {S : Nat → Prop} {w : World} {a1 a2 : Option Addr} {c1 c2 : Nat} {ns : List NoteD} (h : QAt w0 S w (.slice a1 ns.length c1) (.slice a2 ns.length c2) ns) (m : Nat) (hm : m ≤ ns.length) : QAt w0 S w (.slice a1 m m) (.slice a2 m m) (ns.take m) := by
  refine ⟨h.notes.take m hm, ?_⟩
  have h2 := h.ends
  rw [← endsOf_len ns] at h2
  rw [endsOf_take ns m hm]
  exact h2.take m (by rw [endsOf_len]; exact hm)
/-- A block that is no row of the document's journal is written. -/
theorem QAt.set {w0 : World} {S : Nat → Prop} {w : World} {vn ve : Value} {ns : List NoteD} {b i : Nat} {u : Value} {cs : Array Value} {fz : Nat × Nat} (h : QAt w0 S w vn ve ns) (hb : w.heap[b]? = some (.cells cs 30 fz)) : QAt w0 S (w.setCell ⟨b, i, none⟩ u) vn ve ns := by
  refine ⟨h.notes.keep (fun k cur f h1 h2 => ⟨h1, (Below.heap_setCell w ⟨b, i, none⟩ u k (fun e => ?_)).trans h2⟩), h.ends.keep (fun k cur f h1 h2 => ⟨h1, (Below.heap_setCell w ⟨b, i, none⟩ u k (fun e => ?_)).trans h2⟩)⟩
  · have e2 : k = b := e
    subst e2
    rw [hb] at h2
    simp at h2
  · have e2 : k = b := e
    subst e2
    rw [hb] at h2
    simp at h2

set_option maxHeartbeats 4000000 in
set_option maxRecDepth 100000 in
theorem rFail_any {w0 : World} {S : Nat → Prop} {w : World} {vn ve : Value} {ns : List NoteD} (h : QAt w0 S w vn ve ns) (room sure : Nat) (hsu : sure ≤ (seals ns).length) (hfit : (seals ns).length ≤ 67108864) (hn : ns.length ≤ 8388608) (keep : Int) :
    Calls Try.prog 25 #[qV room sure vn ve, .int .i64 keep] w fun e w' => ∃ m vn' ve', e = .returned (qV room (seals (ns.take m)).length vn' ve') ∧ Whole ns (thereOf (seals ns).length sure keep) m ∧ QAt w0 S w' vn' ve' (ns.take m) ∧ Below w.heap.size w w' := by
  obtain ⟨a1, k1, a2, k2, ev1, ev2, hk1, hk2⟩ := h.slices
  subst ev1 ev2
  obtain ⟨t0, t1, t2⟩ := two_blocks w (.cells #[.int .i64 room, .int .i64 sure, .slice a1 ns.length k1, .slice a2 ns.length k2] 30) (.cells #[.int .i64 0, .int .i64 0, .slice none 0 0, .slice none 0 0] 30)
  obtain ⟨W0, hW0⟩ : ∃ W0, W0 = (w.alloc (.cells #[.int .i64 room, .int .i64 sure, .slice a1 ns.length k1, .slice a2 ns.length k2] 30)).alloc (.cells #[.int .i64 0, .int .i64 0, .slice none 0 0, .slice none 0 0] 30) := ⟨_, rfl⟩
  rw [← hW0] at t0 t1 t2
  have H0 := Hid.mk (h.below t2)
  have CELLS : Hid (∀ wr, Below W0.heap.size W0 wr → (wr.heap[w.heap.size]? = some (.cells #[.int .i64 room, .int .i64 sure, .slice a1 ns.length k1, .slice a2 ns.length k2] 30 (0, 0))) ∧ (wr.heap[w.heap.size + 1]? = some (.cells #[.int .i64 0, .int .i64 0, .slice none 0 0, .slice none 0 0] 30 (0, 0))) ∧ Below w.heap.size w wr) := Hid.mk (fun wr hb => ⟨(hb.block _ (lt_of_block t0)).trans t0, (hb.block _ (lt_of_block t1)).trans t1, t2.trans (hb.mono t2.size)⟩)
  obtain ⟨X, hX⟩ : ∃ X, X = (seals ns).length := ⟨_, rfl⟩
  have HX := Hid.mk hX
  have CB : Hid (∀ w3, Below W0.heap.size W0 w3 → Calls Try.prog 17 #[qV room sure (.slice a1 ns.length k1) (.slice a2 ns.length k2)] w3 fun e w' => e = .returned (.int .i64 (X : Int)) ∧ Below w3.heap.size w3 w') := Hid.mk (fun w3 h3 => by
      rw [hX]; exact rBytes_any (H0.out.below h3) room sure (by omega))
  rw [← hX] at hfit hsu ⊢
  have HT := Hid.mk (thereOf_le X sure keep hsu)
  obtain ⟨⟨r0, r1, r2, r3⟩, _⟩ := four_cells t0
  have hlt0 : w.heap.size < W0.heap.size := lt_of_block t0
  have S2 : Hid (W0.drew.cell? ⟨w.heap.size, 0, none⟩ = some (.int .i64 room) ∧ W0.drew.cell? ⟨w.heap.size, 1, none⟩ = some (.int .i64 sure) ∧ W0.drew.cell? ⟨w.heap.size, 2, none⟩ = some (.slice a1 ns.length k1) ∧ W0.drew.cell? ⟨w.heap.size, 3, none⟩ = some (.slice a2 ns.length k2) ∧ Below W0.heap.size W0 W0.drew) := Hid.mk ⟨r0, r1, r2, r3, (Below.refl _ _).drew⟩
  have KP : Hid (∀ w3 w4, (w3.cell? ⟨w.heap.size, 0, none⟩ = some (.int .i64 room) ∧ w3.cell? ⟨w.heap.size, 1, none⟩ = some (.int .i64 sure) ∧ w3.cell? ⟨w.heap.size, 2, none⟩ = some (.slice a1 ns.length k1) ∧ w3.cell? ⟨w.heap.size, 3, none⟩ = some (.slice a2 ns.length k2) ∧ Below W0.heap.size W0 w3) → Below w3.heap.size w3 w4 →
        (w4.cell? ⟨w.heap.size, 0, none⟩ = some (.int .i64 room) ∧ w4.cell? ⟨w.heap.size, 1, none⟩ = some (.int .i64 sure) ∧ w4.cell? ⟨w.heap.size, 2, none⟩ = some (.slice a1 ns.length k1) ∧ w4.cell? ⟨w.heap.size, 3, none⟩ = some (.slice a2 ns.length k2) ∧ Below W0.heap.size W0 w4)) := Hid.mk (fun w3 w4 h h4 => by
      obtain ⟨h0, h1, h2, h3, h6⟩ := h
      have l0 : w.heap.size < w3.heap.size := Nat.lt_of_lt_of_le hlt0 h6.size
      exact ⟨(h4.cell (p := ⟨w.heap.size, 0, none⟩) l0).trans h0, (h4.cell (p := ⟨w.heap.size, 1, none⟩) l0).trans h1, (h4.cell (p := ⟨w.heap.size, 2, none⟩) l0).trans h2, (h4.cell (p := ⟨w.heap.size, 3, none⟩) l0).trans h3, keepB h6 h4 (Nat.le_refl _)⟩)
  obtain ⟨Y, hY⟩ : ∃ Y, Y = X - sure := ⟨_, rfl⟩
  have hwr : IntKind.i64.wrap ((X : Int) - (sure : Int)) = (Y : Int) := by rw [IntKind.wrap_i64]; omega
  have HW0 := Hid.mk hW0
  have HY := Hid.mk hY
  have hY2 : Y ≤ 67108864 := by omega
  clear h t0 t1 t2 hW0 hX r0 r1 r2 r3 hlt0 hY
  go_enter Try.func25, Try.ntmps25
  go_wp2_with fail
  rw [← HW0.out]
  go_region_held (fun w' => w'.cell? ⟨w.heap.size, 0, none⟩ = some (.int .i64 room) ∧ w'.cell? ⟨w.heap.size, 1, none⟩ = some (.int .i64 sure) ∧ w'.cell? ⟨w.heap.size, 2, none⟩ = some (.slice a1 ns.length k1) ∧ w'.cell? ⟨w.heap.size, 3, none⟩ = some (.slice a2 ns.length k2) ∧ Below W0.heap.size W0 w')
      (first | exact S2.out | exact KP.out _ _ (by assumption) (by assumption))
      (first | (go_at_call 17; refine (CB.out _ (by assumption : _ ∧ _ ∧ _ ∧ _ ∧ Below W0.heap.size W0 _).2.2.2.2).mono ?_; rintro e w4 ⟨rfl, hb4⟩))
  all_goals (
    have hfin := (by assumption : _ ∧ _ ∧ _ ∧ _ ∧ Below W0.heap.size W0 w4).2.2.2.2
    have B4 := Hid.mk hfin
    obtain ⟨W4, hW4⟩ : ∃ W, W = w4 := ⟨_, rfl⟩
    subst hW4
    clear hfin hb4 S2 KP CB
    obtain ⟨e0, e1, hbw⟩ := CELLS.out _ B4.out
    obtain ⟨⟨r0, r1, r2, r3⟩, _⟩ := four_cells e0
    clear e0 e1 hbw
    by_cases hkp : 0 < keep
    · go_wp2_with fail
      go_quiet (fail)
      obtain ⟨T, hT⟩ : ∃ T, T = thereOf X sure keep := ⟨_, rfl⟩
      have hTT : wrap64 ((sure : Int) + keep % ((Y : Int) + 1)) = (T : Int) := by
        have e1 : keep = ((max keep 0).toNat : Int) := by omega
        have e2 : (Y : Int) + 1 = ((X - sure + 1 : Nat) : Int) := by have := HY.out; omega
        have h3 := HT.out
        rw [e1, e2, ← Int.natCast_emod, ← Int.natCast_add, hT]
        unfold thereOf at h3 ⊢
        have e4 : (max ((max keep 0).toNat : Int) 0).toNat = (max keep 0).toNat := by omega
        exact wrap_in _ (by omega) (by omega)
      rw [hTT]
      have HTE := Hid.mk hT
      clear hTT hT
      have hbq := below_drewN (Below.refl W4.heap.size W4) nq
      obtain ⟨W5, hW5⟩ : ∃ W, W = W4.drewN nq := ⟨_, rfl⟩
      rw [← hW5] at hbq ⊢
      have B5 := Hid.mk (keepB B4.out hbq (Nat.le_refl _))
      have H5 := Hid.mk (H0.out.below B5.out)
      clear hbq hW5 r0 r1 r2 r3 B4
      obtain ⟨e0, e1, hbw⟩ := CELLS.out _ B5.out
      obtain ⟨⟨r0, r1, r2, r3⟩, _⟩ := four_cells e0
      have hoe := H5.out.ends.at_ (by rw [endsOf_len]; omega)
      obtain ⟨_, ao, cp, hve, hcs⟩ := hoe.parts
      rw [endsOf_len] at hve
      simp only [Value.slice.injEq, true_and] at hve
      obtain ⟨rfl, rfl⟩ := hve
      have HCS := Hid.mk hcs
      have hel := Hid.mk (endsOf_len ns)
      clear hoe hcs
      go_wp2
      go_loop [7] (fun c => ∃ i : Nat, c = .int .i64 i ∧ i ≤ ns.length ∧ ∀ k, k < i → endAt ns k ≤ T) (fun c => ns.length - (intOf c).toNat)
      case atStart => exact ⟨0, rfl, Nat.zero_le _, by intro k hk; omega⟩
      case round =>
        obtain ⟨i, rfl, hil, hall⟩ := hrel
        have HALL := Hid.mk hall
        clear hall
        have hgo : (i < ns.length ∧ endAt ns i ≤ T) ∨ Whole ns T i := by
          by_cases h1 : i < ns.length
          · by_cases h2 : endAt ns i ≤ T
            · exact .inl ⟨h1, h2⟩
            · exact .inr ⟨hil, HALL.out, fun _ => by omega⟩
          · exact .inr ⟨hil, HALL.out, fun h => absurd h h1⟩
        by_cases hlt : i < ns.length
        · have hltI : (i : Int) < (ns.length : Int) := by omega
          have hx := endsOf_at ns i hlt
          rcases HCS.out with hnil | ⟨g, o, rfl, hl, hc⟩
          · rw [hnil] at hx; simp at hx
          · have hcx : W5.cell? ⟨g, o + i, none⟩ = some (.int .i64 (endAt ns i : Nat)) := hc i _ hx
            obtain ⟨E, hE⟩ : ∃ E, E = endAt ns i := ⟨_, rfl⟩
            rw [← hE] at hcx hgo
            have HE := Hid.mk hE
            clear hc hx hE
            rcases hgo with ⟨_, hET⟩ | hwh
            · have hETI : (E : Int) ≤ (T : Int) := by omega
              have HA2 : Hid (∀ k, k < i + 1 → endAt ns k ≤ T) := Hid.mk (fun k hk => by
                rcases Nat.lt_or_ge k i with h1 | h1
                · exact HALL.out k h1
                · have : k = i := by omega
                  subst this
                  rw [← HE.out]; exact hET)
              go_wp2
              go_round
              case rel => exact ⟨i + 1, by go_num, by omega, HA2.out⟩
              case measure => simp [intOf]; omega
            · have hETI : ¬ (E : Int) ≤ (T : Int) := by have := hwh.2.2 hlt; rw [← HE.out] at this; omega
              have HWH := Hid.mk hwh
              clear hwh HE
              have hi1 : (i : Int) ≤ (k1 : Int) := by omega
              have hi2 : (i : Int) ≤ (k2 : Int) := by omega
              have e2 := four_set2 (v := .slice a1 i i) e0
              have e3 := four_set3 (v := .slice (some ⟨g, o, none⟩) i i) e2
              have x1 : (W5.setCell ⟨w.heap.size, 2, none⟩ (.slice a1 i i)).heap[w.heap.size + 1]? = _ := (Below.heap_setCell W5 ⟨w.heap.size, 2, none⟩ (.slice a1 i i) (w.heap.size + 1) (by simp)).trans e1
              have x2 : ((W5.setCell ⟨w.heap.size, 2, none⟩ (.slice a1 i i)).setCell ⟨w.heap.size, 3, none⟩ (.slice (some ⟨g, o, none⟩) i i)).heap[w.heap.size + 1]? = _ := (Below.heap_setCell (W5.setCell ⟨w.heap.size, 2, none⟩ (.slice a1 i i)) ⟨w.heap.size, 3, none⟩ (.slice (some ⟨g, o, none⟩) i i) (w.heap.size + 1) (by simp)).trans x1
              have HQ := ((H5.out.set (i := 2) (u := .slice a1 i i) e0).set (i := 3) (u := .slice (some ⟨g, o, none⟩) i i) e2).take i hil
              have hbF := (hbw.setCell (p := ⟨w.heap.size, 2, none⟩) (Nat.le_refl _) (.slice a1 i i)).setCell (p := ⟨w.heap.size, 3, none⟩) (Nat.le_refl _) (.slice (some ⟨g, o, none⟩) i i)
              obtain ⟨⟨_, _, p2, p3⟩, ⟨_, _, q2, q3⟩⟩ := four_cells e0
              obtain ⟨⟨s0, s1, s2, s3⟩, ⟨u0, u1, u2, u3⟩⟩ := four_cells e2
              obtain ⟨⟨v0, v1, v2, v3⟩, _⟩ := four_cells e3
              obtain ⟨W6, hW6⟩ : ∃ W, W = (W5.setCell ⟨w.heap.size, 2, none⟩ (.slice a1 i i)).setCell ⟨w.heap.size, 3, none⟩ (.slice (some ⟨g, o, none⟩) i i) := ⟨_, rfl⟩
              have CS := rSure_any (by rw [hW6]; exact HQ : QAt w0 S W6 _ _ _) room sure (by rw [List.length_take]; omega)
              rw [hW6] at CS
              have CS := Hid.mk CS
              have X2 := Hid.mk x2
              have HBF := Hid.mk hbF
              have HQF := Hid.mk HQ
              clear hW6 e2 e3 x1 x2 HQ hbF e0 e1 hbw
              obtain ⟨V, hV⟩ : ∃ V, V = (seals (ns.take i)).length := ⟨_, rfl⟩
              rw [← hV] at CS
              have HV := Hid.mk hV
              clear hV
              go_wp2_with fail
              refine CS.out.mono ?_
              rintro e w7 ⟨rfl, hb7⟩
              have e4 := (hb7.block _ (lt_of_block X2.out)).trans X2.out
              obtain ⟨⟨m0, m1, m2, m3⟩, ⟨n0, n1, n2, n3⟩⟩ := four_cells e4
              obtain ⟨⟨z0, z1, z2, z3⟩, _⟩ := four_cells (set4_block e4 (.int .i64 room) (.int .i64 V) (.slice a1 i i) (.slice (some ⟨g, o, none⟩) i i))
              have Z0 := Hid.mk z0
              have Z1 := Hid.mk z1
              have Z2 := Hid.mk z2
              have Z3 := Hid.mk z3
              have BF := Hid.mk (set4_below (b := w.heap.size + 1) (HBF.out.trans (hb7.mono HBF.out.size)) (by omega) (.int .i64 room) (.int .i64 V) (.slice a1 i i) (.slice (some ⟨g, o, none⟩) i i))
              have QF := Hid.mk ((((HQF.out.below hb7).set (i := 0) (u := .int .i64 room) e4).set (i := 1) (u := .int .i64 V) (four_set0 e4)).set (i := 2) (u := .slice a1 i i) (four_set1 (four_set0 e4)) |>.set (i := 3) (u := .slice (some ⟨g, o, none⟩) i i) (four_set2 (four_set1 (four_set0 e4))))
              clear z0 z1 z2 z3 e4 hb7
              go_wp2
              refine bodyPost_ret (v := qV room V (.slice a1 i i) (.slice (some ⟨g, o, none⟩) i i)) ?_ rfl ⟨i, _, _, by rw [← HV.out], by rw [← HTE.out]; exact HWH.out, QF.out, BF.out⟩
              simp [results, Try.results25, go_sem, Z0.out, Z1.out, Z2.out, Z3.out]
        · have hltI : ¬ (i : Int) < (ns.length : Int) := by omega
          have hwh : Whole ns T i := by
            rcases hgo with h1 | h1
            · exact absurd h1.1 hlt
            · exact h1
          have HWH := Hid.mk hwh
          clear hwh hgo
          have hi1 : (i : Int) ≤ (k1 : Int) := by omega
          have hi2 : (i : Int) ≤ (k2 : Int) := by omega
          have e2 := four_set2 (v := .slice a1 i i) e0
          have e3 := four_set3 (v := .slice a2 i i) e2
          have x1 : (W5.setCell ⟨w.heap.size, 2, none⟩ (.slice a1 i i)).heap[w.heap.size + 1]? = _ := (Below.heap_setCell W5 ⟨w.heap.size, 2, none⟩ (.slice a1 i i) (w.heap.size + 1) (by simp)).trans e1
          have x2 : ((W5.setCell ⟨w.heap.size, 2, none⟩ (.slice a1 i i)).setCell ⟨w.heap.size, 3, none⟩ (.slice a2 i i)).heap[w.heap.size + 1]? = _ := (Below.heap_setCell (W5.setCell ⟨w.heap.size, 2, none⟩ (.slice a1 i i)) ⟨w.heap.size, 3, none⟩ (.slice a2 i i) (w.heap.size + 1) (by simp)).trans x1
          have HQ := ((H5.out.set (i := 2) (u := .slice a1 i i) e0).set (i := 3) (u := .slice a2 i i) e2).take i hil
          have hbF := (hbw.setCell (p := ⟨w.heap.size, 2, none⟩) (Nat.le_refl _) (.slice a1 i i)).setCell (p := ⟨w.heap.size, 3, none⟩) (Nat.le_refl _) (.slice a2 i i)
          obtain ⟨⟨_, _, p2, p3⟩, ⟨_, _, q2, q3⟩⟩ := four_cells e0
          obtain ⟨⟨s0, s1, s2, s3⟩, ⟨u0, u1, u2, u3⟩⟩ := four_cells e2
          obtain ⟨⟨v0, v1, v2, v3⟩, _⟩ := four_cells e3
          obtain ⟨W6, hW6⟩ : ∃ W, W = (W5.setCell ⟨w.heap.size, 2, none⟩ (.slice a1 i i)).setCell ⟨w.heap.size, 3, none⟩ (.slice a2 i i) := ⟨_, rfl⟩
          have CS := rSure_any (by rw [hW6]; exact HQ : QAt w0 S W6 _ _ _) room sure (by rw [List.length_take]; omega)
          rw [hW6] at CS
          have CS := Hid.mk CS
          have X2 := Hid.mk x2
          have HBF := Hid.mk hbF
          have HQF := Hid.mk HQ
          clear hW6 e2 e3 x1 x2 HQ hbF e0 e1 hbw
          obtain ⟨V, hV⟩ : ∃ V, V = (seals (ns.take i)).length := ⟨_, rfl⟩
          rw [← hV] at CS
          have HV := Hid.mk hV
          clear hV
          go_wp2_with fail
          refine CS.out.mono ?_
          rintro e w7 ⟨rfl, hb7⟩
          have e4 := (hb7.block _ (lt_of_block X2.out)).trans X2.out
          obtain ⟨⟨m0, m1, m2, m3⟩, ⟨n0, n1, n2, n3⟩⟩ := four_cells e4
          obtain ⟨⟨z0, z1, z2, z3⟩, _⟩ := four_cells (set4_block e4 (.int .i64 room) (.int .i64 V) (.slice a1 i i) (.slice a2 i i))
          have Z0 := Hid.mk z0
          have Z1 := Hid.mk z1
          have Z2 := Hid.mk z2
          have Z3 := Hid.mk z3
          have BF := Hid.mk (set4_below (b := w.heap.size + 1) (HBF.out.trans (hb7.mono HBF.out.size)) (by omega) (.int .i64 room) (.int .i64 V) (.slice a1 i i) (.slice a2 i i))
          have QF := Hid.mk ((((HQF.out.below hb7).set (i := 0) (u := .int .i64 room) e4).set (i := 1) (u := .int .i64 V) (four_set0 e4)).set (i := 2) (u := .slice a1 i i) (four_set1 (four_set0 e4)) |>.set (i := 3) (u := .slice a2 i i) (four_set2 (four_set1 (four_set0 e4))))
          clear z0 z1 z2 z3 e4 hb7
          go_wp2
          refine bodyPost_ret (v := qV room V (.slice a1 i i) (.slice a2 i i)) ?_ rfl ⟨i, _, _, by rw [← HV.out], by rw [← HTE.out]; exact HWH.out, QF.out, BF.out⟩
          simp [results, Try.results25, go_sem, Z0.out, Z1.out, Z2.out, Z3.out]
    · obtain ⟨T, hT⟩ : ∃ T, T = thereOf X sure keep := ⟨_, rfl⟩
      have hTs : sure = T := by
        rw [hT]; unfold thereOf
        have e1 : (max keep 0).toNat = 0 := by omega
        rw [e1, Nat.zero_mod]; rfl
      have HTE := Hid.mk hT
      clear hT
      subst hTs
      obtain ⟨W5, hW5⟩ : ∃ W, W = W4 := ⟨_, rfl⟩
      subst hW5
      have B5 := Hid.mk B4.out
      have H5 := Hid.mk (H0.out.below B5.out)
      obtain ⟨e0, e1, hbw⟩ := CELLS.out _ B5.out
      have hoe := H5.out.ends.at_ (by rw [endsOf_len]; omega)
      obtain ⟨_, ao, cp, hve, hcs⟩ := hoe.parts
      rw [endsOf_len] at hve
      simp only [Value.slice.injEq, true_and] at hve
      obtain ⟨rfl, rfl⟩ := hve
      have HCS := Hid.mk hcs
      have hel := Hid.mk (endsOf_len ns)
      clear hoe hcs
      go_wp2
      go_loop [7] (fun c => ∃ i : Nat, c = .int .i64 i ∧ i ≤ ns.length ∧ ∀ k, k < i → endAt ns k ≤ sure) (fun c => ns.length - (intOf c).toNat)
      case atStart => exact ⟨0, rfl, Nat.zero_le _, by intro k hk; omega⟩
      case round =>
        obtain ⟨i, rfl, hil, hall⟩ := hrel
        have HALL := Hid.mk hall
        clear hall
        have hgo : (i < ns.length ∧ endAt ns i ≤ sure) ∨ Whole ns sure i := by
          by_cases h1 : i < ns.length
          · by_cases h2 : endAt ns i ≤ sure
            · exact .inl ⟨h1, h2⟩
            · exact .inr ⟨hil, HALL.out, fun _ => by omega⟩
          · exact .inr ⟨hil, HALL.out, fun h => absurd h h1⟩
        by_cases hlt : i < ns.length
        · have hltI : (i : Int) < (ns.length : Int) := by omega
          have hx := endsOf_at ns i hlt
          rcases HCS.out with hnil | ⟨g, o, rfl, hl, hc⟩
          · rw [hnil] at hx; simp at hx
          · have hcx : W5.cell? ⟨g, o + i, none⟩ = some (.int .i64 (endAt ns i : Nat)) := hc i _ hx
            obtain ⟨E, hE⟩ : ∃ E, E = endAt ns i := ⟨_, rfl⟩
            rw [← hE] at hcx hgo
            have HE := Hid.mk hE
            clear hc hx hE
            rcases hgo with ⟨_, hET⟩ | hwh
            · have hETI : (E : Int) ≤ (sure : Int) := by omega
              have HA2 : Hid (∀ k, k < i + 1 → endAt ns k ≤ sure) := Hid.mk (fun k hk => by
                rcases Nat.lt_or_ge k i with h1 | h1
                · exact HALL.out k h1
                · have : k = i := by omega
                  subst this
                  rw [← HE.out]; exact hET)
              go_wp2
              go_round
              case rel => exact ⟨i + 1, by go_num, by omega, HA2.out⟩
              case measure => simp [intOf]; omega
            · have hETI : ¬ (E : Int) ≤ (sure : Int) := by have := hwh.2.2 hlt; rw [← HE.out] at this; omega
              have HWH := Hid.mk hwh
              clear hwh HE
              have hi1 : (i : Int) ≤ (k1 : Int) := by omega
              have hi2 : (i : Int) ≤ (k2 : Int) := by omega
              have e2 := four_set2 (v := .slice a1 i i) e0
              have e3 := four_set3 (v := .slice (some ⟨g, o, none⟩) i i) e2
              have x1 : (W5.setCell ⟨w.heap.size, 2, none⟩ (.slice a1 i i)).heap[w.heap.size + 1]? = _ := (Below.heap_setCell W5 ⟨w.heap.size, 2, none⟩ (.slice a1 i i) (w.heap.size + 1) (by simp)).trans e1
              have x2 : ((W5.setCell ⟨w.heap.size, 2, none⟩ (.slice a1 i i)).setCell ⟨w.heap.size, 3, none⟩ (.slice (some ⟨g, o, none⟩) i i)).heap[w.heap.size + 1]? = _ := (Below.heap_setCell (W5.setCell ⟨w.heap.size, 2, none⟩ (.slice a1 i i)) ⟨w.heap.size, 3, none⟩ (.slice (some ⟨g, o, none⟩) i i) (w.heap.size + 1) (by simp)).trans x1
              have HQ := ((H5.out.set (i := 2) (u := .slice a1 i i) e0).set (i := 3) (u := .slice (some ⟨g, o, none⟩) i i) e2).take i hil
              have hbF := (hbw.setCell (p := ⟨w.heap.size, 2, none⟩) (Nat.le_refl _) (.slice a1 i i)).setCell (p := ⟨w.heap.size, 3, none⟩) (Nat.le_refl _) (.slice (some ⟨g, o, none⟩) i i)
              obtain ⟨⟨_, _, p2, p3⟩, ⟨_, _, q2, q3⟩⟩ := four_cells e0
              obtain ⟨⟨s0, s1, s2, s3⟩, ⟨u0, u1, u2, u3⟩⟩ := four_cells e2
              obtain ⟨⟨v0, v1, v2, v3⟩, _⟩ := four_cells e3
              obtain ⟨W6, hW6⟩ : ∃ W, W = (W5.setCell ⟨w.heap.size, 2, none⟩ (.slice a1 i i)).setCell ⟨w.heap.size, 3, none⟩ (.slice (some ⟨g, o, none⟩) i i) := ⟨_, rfl⟩
              have CS := rSure_any (by rw [hW6]; exact HQ : QAt w0 S W6 _ _ _) room sure (by rw [List.length_take]; omega)
              rw [hW6] at CS
              have CS := Hid.mk CS
              have X2 := Hid.mk x2
              have HBF := Hid.mk hbF
              have HQF := Hid.mk HQ
              clear hW6 e2 e3 x1 x2 HQ hbF e0 e1 hbw
              obtain ⟨V, hV⟩ : ∃ V, V = (seals (ns.take i)).length := ⟨_, rfl⟩
              rw [← hV] at CS
              have HV := Hid.mk hV
              clear hV
              go_wp2_with fail
              refine CS.out.mono ?_
              rintro e w7 ⟨rfl, hb7⟩
              have e4 := (hb7.block _ (lt_of_block X2.out)).trans X2.out
              obtain ⟨⟨m0, m1, m2, m3⟩, ⟨n0, n1, n2, n3⟩⟩ := four_cells e4
              obtain ⟨⟨z0, z1, z2, z3⟩, _⟩ := four_cells (set4_block e4 (.int .i64 room) (.int .i64 V) (.slice a1 i i) (.slice (some ⟨g, o, none⟩) i i))
              have Z0 := Hid.mk z0
              have Z1 := Hid.mk z1
              have Z2 := Hid.mk z2
              have Z3 := Hid.mk z3
              have BF := Hid.mk (set4_below (b := w.heap.size + 1) (HBF.out.trans (hb7.mono HBF.out.size)) (by omega) (.int .i64 room) (.int .i64 V) (.slice a1 i i) (.slice (some ⟨g, o, none⟩) i i))
              have QF := Hid.mk ((((HQF.out.below hb7).set (i := 0) (u := .int .i64 room) e4).set (i := 1) (u := .int .i64 V) (four_set0 e4)).set (i := 2) (u := .slice a1 i i) (four_set1 (four_set0 e4)) |>.set (i := 3) (u := .slice (some ⟨g, o, none⟩) i i) (four_set2 (four_set1 (four_set0 e4))))
              clear z0 z1 z2 z3 e4 hb7
              go_wp2
              refine bodyPost_ret (v := qV room V (.slice a1 i i) (.slice (some ⟨g, o, none⟩) i i)) ?_ rfl ⟨i, _, _, by rw [← HV.out], by rw [← HTE.out]; exact HWH.out, QF.out, BF.out⟩
              simp [results, Try.results25, go_sem, Z0.out, Z1.out, Z2.out, Z3.out]
        · have hltI : ¬ (i : Int) < (ns.length : Int) := by omega
          have hwh : Whole ns sure i := by
            rcases hgo with h1 | h1
            · exact absurd h1.1 hlt
            · exact h1
          have HWH := Hid.mk hwh
          clear hwh hgo
          have hi1 : (i : Int) ≤ (k1 : Int) := by omega
          have hi2 : (i : Int) ≤ (k2 : Int) := by omega
          have e2 := four_set2 (v := .slice a1 i i) e0
          have e3 := four_set3 (v := .slice a2 i i) e2
          have x1 : (W5.setCell ⟨w.heap.size, 2, none⟩ (.slice a1 i i)).heap[w.heap.size + 1]? = _ := (Below.heap_setCell W5 ⟨w.heap.size, 2, none⟩ (.slice a1 i i) (w.heap.size + 1) (by simp)).trans e1
          have x2 : ((W5.setCell ⟨w.heap.size, 2, none⟩ (.slice a1 i i)).setCell ⟨w.heap.size, 3, none⟩ (.slice a2 i i)).heap[w.heap.size + 1]? = _ := (Below.heap_setCell (W5.setCell ⟨w.heap.size, 2, none⟩ (.slice a1 i i)) ⟨w.heap.size, 3, none⟩ (.slice a2 i i) (w.heap.size + 1) (by simp)).trans x1
          have HQ := ((H5.out.set (i := 2) (u := .slice a1 i i) e0).set (i := 3) (u := .slice a2 i i) e2).take i hil
          have hbF := (hbw.setCell (p := ⟨w.heap.size, 2, none⟩) (Nat.le_refl _) (.slice a1 i i)).setCell (p := ⟨w.heap.size, 3, none⟩) (Nat.le_refl _) (.slice a2 i i)
          obtain ⟨⟨_, _, p2, p3⟩, ⟨_, _, q2, q3⟩⟩ := four_cells e0
          obtain ⟨⟨s0, s1, s2, s3⟩, ⟨u0, u1, u2, u3⟩⟩ := four_cells e2
          obtain ⟨⟨v0, v1, v2, v3⟩, _⟩ := four_cells e3
          obtain ⟨W6, hW6⟩ : ∃ W, W = (W5.setCell ⟨w.heap.size, 2, none⟩ (.slice a1 i i)).setCell ⟨w.heap.size, 3, none⟩ (.slice a2 i i) := ⟨_, rfl⟩
          have CS := rSure_any (by rw [hW6]; exact HQ : QAt w0 S W6 _ _ _) room sure (by rw [List.length_take]; omega)
          rw [hW6] at CS
          have CS := Hid.mk CS
          have X2 := Hid.mk x2
          have HBF := Hid.mk hbF
          have HQF := Hid.mk HQ
          clear hW6 e2 e3 x1 x2 HQ hbF e0 e1 hbw
          obtain ⟨V, hV⟩ : ∃ V, V = (seals (ns.take i)).length := ⟨_, rfl⟩
          rw [← hV] at CS
          have HV := Hid.mk hV
          clear hV
          go_wp2_with fail
          refine CS.out.mono ?_
          rintro e w7 ⟨rfl, hb7⟩
          have e4 := (hb7.block _ (lt_of_block X2.out)).trans X2.out
          obtain ⟨⟨m0, m1, m2, m3⟩, ⟨n0, n1, n2, n3⟩⟩ := four_cells e4
          obtain ⟨⟨z0, z1, z2, z3⟩, _⟩ := four_cells (set4_block e4 (.int .i64 room) (.int .i64 V) (.slice a1 i i) (.slice a2 i i))
          have Z0 := Hid.mk z0
          have Z1 := Hid.mk z1
          have Z2 := Hid.mk z2
          have Z3 := Hid.mk z3
          have BF := Hid.mk (set4_below (b := w.heap.size + 1) (HBF.out.trans (hb7.mono HBF.out.size)) (by omega) (.int .i64 room) (.int .i64 V) (.slice a1 i i) (.slice a2 i i))
          have QF := Hid.mk ((((HQF.out.below hb7).set (i := 0) (u := .int .i64 room) e4).set (i := 1) (u := .int .i64 V) (four_set0 e4)).set (i := 2) (u := .slice a1 i i) (four_set1 (four_set0 e4)) |>.set (i := 3) (u := .slice a2 i i) (four_set2 (four_set1 (four_set0 e4))))
          clear z0 z1 z2 z3 e4 hb7
          go_wp2
          refine bodyPost_ret (v := qV room V (.slice a1 i i) (.slice a2 i i)) ?_ rfl ⟨i, _, _, by rw [← HV.out], by rw [← HTE.out]; exact HWH.out, QF.out, BF.out⟩
          simp [results, Try.results25, go_sem, Z0.out, Z1.out, Z2.out, Z3.out])
end Go.Proofs.Ytnepednomejniaa

namespace Go.Proofs.Ytnepednomejniaa
open Go.RowKit

theorem seals_count13 : ∀ {ns : List NoteD}, (∀ n ∈ ns, n.may) → 13 * ns.length ≤ (seals ns).length
  | [], _ => by simp
  | n :: ns, h => by
    have a := seals_count13 (ns := ns) (fun m hm => h m (by simp [hm]))
    have b := body_ge (h n (by simp)).1
    have c := sealB_len n.body
    rw [seals_cons, List.length_append, List.length_cons]; omega

/-- What Write answers of the document's journal: the number x, and the journal. -/
def RW2 (w0 : World) (S : Nat → Prop) (w : World) (room : Nat) (vn ve : Value) (ns : List NoteD) (n : NoteD) (x : Int) (vn' ve' : Value) (w' : World) : Prop :=
  (x = 1 ∧ ¬ n.may ∧ vn' = vn ∧ ve' = ve) ∨ (x = 40 ∧ n.may ∧ room < (seals ns).length + (sealB n.body).length ∧ vn' = vn ∧ ve' = ve) ∨
  (x = 0 ∧ n.may ∧ (seals (ns ++ [n])).length ≤ room ∧ QAt w0 (Plus S w.heap.size w'.heap.size) w' vn' ve' (ns ++ [n]))
theorem rWrite2 {w0 : World} {S : Nat → Prop} {w : World} {vn ve : Value} {ns : List NoteD} (h : QAt w0 S w vn ve ns) (room sure : Nat) (hfit : (seals ns).length ≤ room) (hrm : room ≤ 67108864) (hcn : ns.length ≤ 8388607) (hw0 : Below w0.heap.size w0 w) (va : Value) (n : NoteD) (ha : NoteAt w0 va n) :
    Calls Try.prog 23 #[qV room sure vn ve, va] w fun e w' => ∃ (x : Int) (b1 : Option Addr) (l1 d1 : Nat) (b2 : Option Addr) (l2 d2 : Nat), e = .returned (.tuple #[qV room sure (.slice b1 l1 d1) (.slice b2 l2 d2), .int .i64 x]) ∧ RW2 w0 S w room vn ve ns n x (.slice b1 l1 d1) (.slice b2 l2 d2) w' ∧ Below w.heap.size w w' := by
  obtain ⟨a1, k1, a2, k2, ev1, ev2, _, _⟩ := h.slices
  refine (rWrite_any h room sure hfit hrm hcn hw0 va n ha).mono ?_
  rintro e w' ⟨hb, h1 | h1 | ⟨h1, h2, vn', ve', h3, h4⟩⟩
  · subst ev1 ev2
    exact ⟨1, _, _, _, _, _, _, h1.2, .inl ⟨rfl, h1.1, rfl, rfl⟩, hb⟩
  · subst ev1 ev2
    exact ⟨40, _, _, _, _, _, _, h1.2.2, .inr (.inl ⟨rfl, h1.1, h1.2.1, rfl, rfl⟩), hb⟩
  · obtain ⟨b1, d1, b2, d2, e1, e2, _, _⟩ := h4.slices
    subst e1 e2
    exact ⟨0, _, _, _, _, _, _, h3, .inr (.inr ⟨rfl, h1, h2, h4⟩), hb⟩

/-- What Begin answers of the document's journal. -/
def RBEnd (w0 : World) (S : Nat → Prop) (w : World) (room sure : Nat) (vn ve : Value) (l : List NoteD) (e : Ending) (w' : World) : Prop :=
  (¬ (∀ n ∈ l, n.may) ∧ e = .returned (.tuple #[qV room sure vn ve, .int .i64 1])) ∨
  ((∀ n ∈ l, n.may) ∧ room < (seals l).length ∧ e = .returned (.tuple #[qV room sure vn ve, .int .i64 40])) ∨
  ((∀ n ∈ l, n.may) ∧ (seals l).length ≤ room ∧ ∃ vn' ve', e = .returned (.tuple #[qV room (seals l).length vn' ve', .int .i64 0]) ∧ QAt w0 (Plus S w.heap.size w'.heap.size) w' vn' ve' l)

set_option maxHeartbeats 4000000 in
set_option maxRecDepth 100000 in
theorem rBegin_any {w0 : World} {S : Nat → Prop} {w : World} {vn ve : Value} {ns : List NoteD} (h : QAt w0 S w vn ve ns) (room sure : Nat) (hrm : room ≤ 67108864) (hw0 : Below w0.heap.size w0 w) (vl : Value) (l : List NoteD) (hvl : NotesAt w0 vl l) :
    Calls Try.prog 26 #[qV room sure vn ve, vl] w fun e w' => Below w.heap.size w w' ∧ RBEnd w0 S w room sure vn ve l e w' := by
  obtain ⟨a1, k1, a2, k2, ev1, ev2, hk1, hk2⟩ := h.slices
  subst ev1 ev2
  clear h
  obtain ⟨hlen, ao, cap, rfl, hc⟩ := hvl
  have HC := Hid.mk hc
  obtain ⟨t0, t1, t2⟩ := two_blocks w (.cells #[.int .i64 room, .int .i64 sure, .slice a1 ns.length k1, .slice a2 ns.length k2] 30) (.cells #[.int .i64 0, .int .i64 0, .slice none 0 0, .slice none 0 0] 30)
  obtain ⟨W0, hW0⟩ : ∃ W0, W0 = (w.alloc (.cells #[.int .i64 room, .int .i64 sure, .slice a1 ns.length k1, .slice a2 ns.length k2] 30)).alloc (.cells #[.int .i64 0, .int .i64 0, .slice none 0 0, .slice none 0 0] 30) := ⟨_, rfl⟩
  rw [← hW0] at t0 t1 t2
  have CELLS : Hid (∀ wr, Below W0.heap.size W0 wr → (wr.heap[w.heap.size]? = some (.cells #[.int .i64 room, .int .i64 sure, .slice a1 ns.length k1, .slice a2 ns.length k2] 30 (0, 0))) ∧ (wr.heap[w.heap.size + 1]? = some (.cells #[.int .i64 0, .int .i64 0, .slice none 0 0, .slice none 0 0] 30 (0, 0))) ∧ Below w.heap.size w wr) := Hid.mk (fun wr hb => ⟨(hb.block _ (lt_of_block t0)).trans t0, (hb.block _ (lt_of_block t1)).trans t1, t2.trans (hb.mono t2.size)⟩)
  have BW0 : Hid (∀ wr, Below W0.heap.size W0 wr → Below w0.heap.size w0 wr) := Hid.mk (fun wr hb => hw0.trans ((t2.trans (hb.mono t2.size)).mono hw0.size))
  have ARG : Hid (∀ wr, Below W0.heap.size W0 wr → ∀ (i : Nat) n, l[i]? = some n → ∃ g o c1 c2 c3 : _, ao = some ⟨g, o, none⟩ ∧ g < w0.heap.size ∧ wr.cell? ⟨g, o + i * 4, none⟩ = some (.int .i64 n.kind) ∧ wr.cell? ⟨g, o + i * 4 + 1, none⟩ = some c1 ∧ wr.cell? ⟨g, o + i * 4 + 2, none⟩ = some c2 ∧ wr.cell? ⟨g, o + i * 4 + 3, none⟩ = some c3 ∧ NoteAt w0 (.agg #[.int .i64 n.kind, c1, c2, c3]) n) := Hid.mk (fun wr hb i n hn => by
    rcases HC.out with hnil | ⟨g, o, rfl, hl, hc⟩
    · rw [hnil] at hn; simp at hn
    · obtain ⟨c1, c2, c3, p0, p1, p2, p3, pn⟩ := hc i n hn
      have key : ∀ j u, w0.cell? ⟨g, j, none⟩ = some u → wr.cell? ⟨g, j, none⟩ = some u := fun j u h2 => ((BW0.out _ hb).cell (p := ⟨g, j, none⟩) hl).trans h2
      exact ⟨g, o, c1, c2, c3, rfl, hl, key _ _ p0, key _ _ p1, key _ _ p2, key _ _ p3, pn⟩)
  have HW0 := Hid.mk hW0
  have HWS : Hid (w.heap.size + 2 ≤ W0.heap.size) := Hid.mk (by have := lt_of_block t1; omega)
  clear hc t0 t1 t2 hW0 HC
  go_enter Try.func26, Try.ntmps26
  go_wp2
  go_loopw [6] (fun c wr => ∃ i : Nat, c = .int .i64 i ∧ i ≤ l.length ∧ (∀ n ∈ l.take i, n.may) ∧ Below W0.heap.size W0 wr) (fun c _ => l.length - (intOf c).toNat)
  case atStart => exact ⟨0, rfl, Nat.zero_le _, by simp, by rw [HW0.out]; exact Below.refl _ _⟩
  case round =>
    obtain ⟨i, rfl, hil, hmay, hb⟩ := hrel
    have HM := Hid.mk hmay
    have HB := Hid.mk hb
    clear hmay hb
    obtain ⟨W1, hW1⟩ : ∃ W, W = wr := ⟨_, rfl⟩
    subst hW1
    by_cases hlt : i < l.length
    · obtain ⟨n, hn⟩ : ∃ n, l[i]? = some n := ⟨_, List.getElem?_eq_getElem hlt⟩
      have hltI : (i : Int) < (l.length : Int) := by omega
      obtain ⟨g, o, c1, c2, c3, rfl, hg, r0, r1, r2, r3, pn⟩ := ARG.out _ HB.out i n hn
      have CC := Hid.mk (rCheck_any _ n W1 (pn.below (BW0.out _ HB.out)))
      by_cases hm : n.may
      · rw [if_pos hm] at CC
        have HM2 : Hid (∀ m ∈ l.take (i + 1), m.may) := Hid.mk (by
          rw [List.take_add_one, hn, Option.toList_some]
          intro m hmm
          rcases List.mem_append.1 hmm with hmm | hmm
          · exact HM.out m hmm
          · rw [List.mem_singleton] at hmm; rw [hmm]; exact hm)
        clear hm hn pn
        go_wp2_with fail
        refine CC.out.mono ?_
        rintro e w2 ⟨rfl, hb2⟩
        have B2 := Hid.mk (keepB HB.out hb2 (Nat.le_refl _))
        clear hb2 r0 r1 r2 r3 CC
        go_wp2
        go_roundw
        case rel => exact ⟨i + 1, by go_num, by omega, HM2.out, B2.out⟩
        case measure => simp [intOf]; omega
      · rw [if_neg hm] at CC
        have HNO : Hid (¬ ∀ n ∈ l, n.may) := Hid.mk (fun h => hm (h n (List.mem_of_getElem? hn)))
        clear hm hn pn
        go_wp2_with fail
        refine CC.out.mono ?_
        rintro e w2 ⟨rfl, hb2⟩
        have B2 := Hid.mk (keepB HB.out hb2 (Nat.le_refl _))
        clear hb2 r0 r1 r2 r3 CC
        obtain ⟨e0, e1, hbw⟩ := CELLS.out _ B2.out
        obtain ⟨⟨r0, r1, r2, r3⟩, _⟩ := four_cells e0
        obtain ⟨⟨m0, m1, m2, m3⟩, ⟨n0, n1, n2, n3⟩⟩ := four_cells e1
        obtain ⟨⟨z0, z1, z2, z3⟩, _⟩ := four_cells (set4_block e1 (.int .i64 room) (.int .i64 sure) (.slice a1 ns.length k1) (.slice a2 ns.length k2))
        have Z0 := Hid.mk z0
        have Z1 := Hid.mk z1
        have Z2 := Hid.mk z2
        have Z3 := Hid.mk z3
        have BF := Hid.mk (set4_below (b := w.heap.size + 1) hbw (by omega) (.int .i64 room) (.int .i64 sure) (.slice a1 ns.length k1) (.slice a2 ns.length k2))
        clear z0 z1 z2 z3 e0 e1 hbw
        go_wp2
        refine bodyPost_ret (v := .tuple #[qV room sure (.slice a1 ns.length k1) (.slice a2 ns.length k2), .int .i64 1]) ?_ rfl ⟨BF.out, .inl ⟨HNO.out, rfl⟩⟩
        simp [results, Try.results26, go_sem, Z0.out, Z1.out, Z2.out, Z3.out]
    · have hltI : ¬ (i : Int) < (l.length : Int) := by omega
      have hall : l.take i = l := List.take_of_length_le (by omega)
      have hm := HM.out
      rw [hall] at hm
      have HMA := Hid.mk hm
      clear hm hall HM
      obtain ⟨e0, e1, hbw⟩ := CELLS.out _ HB.out
      obtain ⟨⟨r0, r1, r2, r3⟩, _⟩ := four_cells e0
      clear e0 e1 hbw
      have hszW : W0.heap.size ≤ W1.heap.size := HB.out.size
      have hbox := box_at W1 (.cells #[.int .i64 room, .int .i64 0, .slice none 0 0, .slice none 0 0] 30)
      have B1 := Hid.mk (keepB HB.out ((Below.refl W1.heap.size W1).alloc (Nat.le_refl _) (.cells #[.int .i64 room, .int .i64 0, .slice none 0 0, .slice none 0 0] 30)) (Nat.le_refl _))
      have HBX := Hid.mk hbox
      have HSZ := Hid.mk hszW
      clear hbox hszW
      go_wp2
      go_loopw [8] (fun c wr => ∃ (j : Nat) (vn ve : Value), c = .int .i64 j ∧ j ≤ l.length ∧ (seals (l.take j)).length ≤ room ∧ wr.heap[W1.heap.size]? = some (.cells #[.int .i64 room, .int .i64 0, vn, ve] 30 (0, 0)) ∧ QAt w0 (fun k => w.heap.size ≤ k) wr vn ve (l.take j) ∧ Below W0.heap.size W0 wr) (fun c _ => l.length - (intOf c).toNat)
      case atStart => exact ⟨0, _, _, rfl, Nat.zero_le _, by simp [seals], HBX.out, QAt.nil _ _ _, B1.out⟩
      case round =>
        obtain ⟨j, vn, ve, rfl, hjl, hfit, hblk, hq, hb⟩ := hrel
        have HBK := Hid.mk hblk
        have HQ := Hid.mk hq
        have HBB := Hid.mk hb
        obtain ⟨x1, y1, x2, y2, ex1, ex2, _, _⟩ := hq.slices
        subst ex1 ex2
        clear hblk hq hb B1 HBX
        obtain ⟨W2, hW2⟩ : ∃ W, W = wr := ⟨_, rfl⟩
        subst hW2
        obtain ⟨⟨q0, q1, q2, q3⟩, ⟨f0, f1, f2, f3⟩⟩ := four_cells HBK.out
        have hcnt := seals_count13 (ns := l.take j) (fun n hn => HMA.out n (List.mem_of_mem_take hn))
        by_cases hlt2 : j < l.length
        · obtain ⟨n, hn⟩ : ∃ n, l[j]? = some n := ⟨_, List.getElem?_eq_getElem hlt2⟩
          have hlt2I : (j : Int) < (l.length : Int) := by omega
          obtain ⟨g, o, c1, c2, c3, rfl, hg, s0, s1, s2, s3, pn⟩ := ARG.out _ HBB.out j n hn
          have hmn := Hid.mk (HMA.out n (List.mem_of_getElem? hn))
          have HTK : Hid (l.take (j + 1) = l.take j ++ [n]) := Hid.mk (by rw [List.take_add_one, hn, Option.toList_some])
          have hjl2 : (l.take j).length ≤ 8388607 := by omega
          have hltg : g < W2.heap.size := World.block_lt_of_cell? W2 _ s0
          have hltb : W1.heap.size < W2.heap.size := lt_of_block HBK.out
          obtain ⟨y3, y4, y5, y6, y7, y8, y9, y10, y11, ec1, ec2, ec3⟩ := note_slices pn
          subst ec1 ec2 ec3
          have CW : Hid (∀ w3, Below W2.heap.size W2 w3 → Calls Try.prog 23 #[qV room 0 (.slice x1 (l.take j).length y1) (.slice x2 (l.take j).length y2), .agg #[.int .i64 n.kind, .slice y3 y4 y5, .slice y6 y7 y8, .slice y9 y10 y11]] w3 fun e w' => ∃ (x : Int) (b1 : Option Addr) (l1 d1 : Nat) (b2 : Option Addr) (l2 d2 : Nat), e = .returned (.tuple #[qV room 0 (.slice b1 l1 d1) (.slice b2 l2 d2), .int .i64 x]) ∧ RW2 w0 (fun k => w.heap.size ≤ k) w3 room (.slice x1 (l.take j).length y1) (.slice x2 (l.take j).length y2) (l.take j) n x (.slice b1 l1 d1) (.slice b2 l2 d2) w' ∧ Below w3.heap.size w3 w') := Hid.mk (fun w3 h3 => rWrite2 (HQ.out.below h3) room 0 hfit hrm hjl2 (BW0.out _ (keepB HBB.out h3 (Nat.le_refl _))) _ n pn)
          obtain ⟨M, hM⟩ : ∃ M, M = (l.take j).length := ⟨_, rfl⟩
          rw [← hM] at CW q2 q3 HBK
          have HMM := Hid.mk hM
          clear hn pn f0 f1 f2 f3 hM r0 r1 r2 r3
          go_wp2_with fail
          go_region_law (go_simp; first
            | (refine (CW.out W2.drew (Below.refl _ _).drew).mono ?_; rintro e w4 ⟨x, b1, l1, d1, b2, l2, d2, rfl, hrw, hb4⟩)
            | (refine (CW.out (W2.alloc (.cells #[.int .i64 0, .int .i64 0, .slice none 0 0, .slice none 0 0] 30)).drew ((Below.refl _ _).alloc (Nat.le_refl _) _).drew).mono ?_; rintro e w4 ⟨x, b1, l1, d1, b2, l2, d2, rfl, hrw, hb4⟩; have nb := (hb4.block W2.heap.size (by simp)).trans (box_at W2 (.cells #[.int .i64 0, .int .i64 0, .slice none 0 0, .slice none 0 0] 30)); obtain ⟨⟨nb0, nb1, nb2, nb3⟩, ⟨nf0, nf1, nf2, nf3⟩⟩ := four_cells nb))
          all_goals (
            have HR0 : (x = 40 ∧ room < (seals (l.take (j + 1))).length) ∨ (x = 0 ∧ (seals (l.take (j + 1))).length ≤ room ∧ QAt w0 (fun k => w.heap.size ≤ k) w4 (.slice b1 l1 d1) (.slice b2 l2 d2) (l.take (j + 1))) := by
              have hlo : w.heap.size ≤ W2.heap.size := by have := HBB.out.size; have := HWS.out; omega
              rw [HTK.out]
              rcases hrw with h | h | h
              · exact absurd hmn.out h.2.1
              · exact .inl ⟨h.1, by rw [seals_snoc, List.length_append]; exact h.2.2.1⟩
              · refine .inr ⟨h.1, h.2.2.1, h.2.2.2.keep (fun k _ hk ho => ⟨?_, ho⟩)⟩
                rcases hk with hk | hk
                · exact hk
                · have h1 := hk.1
                  first
                    | (have h2 : W2.heap.size ≤ k := h1
                       exact Nat.le_trans hlo h2)
                    | (have h2 : W2.heap.size + 1 ≤ k := by simpa using h1
                       exact Nat.le_trans hlo (by omega))
            first
              | (obtain ⟨W5, hW5⟩ : ∃ W, W = w4.alloc (.cells #[.int .i64 room, .int .i64 0, .slice b1 l1 d1, .slice b2 l2 d2] 30) := ⟨_, rfl⟩
                 rw [← hW5]
                 obtain ⟨nbk, hnbk⟩ : ∃ b, b = w4.heap.size := ⟨_, rfl⟩
                 rw [← hnbk]
                 have F1 : W5.heap[nbk]? = some (.cells #[.int .i64 room, .int .i64 0, .slice b1 l1 d1, .slice b2 l2 d2] 30) := by rw [hW5, hnbk]; exact box_at w4 _
                 have F2 : Below W2.heap.size W2 W5 := by
                   rw [hW5]
                   exact (((Below.refl W2.heap.size W2).drew).trans hb4).alloc hb4.size _
                 have F3 : QAt w0 (fun k => w.heap.size ≤ k) w4 (.slice b1 l1 d1) (.slice b2 l2 d2) (l.take (j + 1)) → QAt w0 (fun k => w.heap.size ≤ k) W5 (.slice b1 l1 d1) (.slice b2 l2 d2) (l.take (j + 1)) := fun h => by
                   rw [hW5]; exact h.below ((Below.refl _ _).alloc (Nat.le_refl _) _)
                 have F1 := Hid.mk F1
                 have F2 := Hid.mk F2
                 have F3 := Hid.mk F3
                 clear hW5 hnbk)
              | (obtain ⟨W5, hW5⟩ : ∃ W, W = set4 w4 W2.heap.size (.int .i64 room) (.int .i64 0) (.slice b1 l1 d1) (.slice b2 l2 d2) := ⟨_, rfl⟩
                 rw [show (((w4.setCell ⟨W2.heap.size, 0, none⟩ (.int .i64 room)).setCell ⟨W2.heap.size, 1, none⟩ (.int .i64 0)).setCell ⟨W2.heap.size, 2, none⟩ (.slice b1 l1 d1)).setCell ⟨W2.heap.size, 3, none⟩ (.slice b2 l2 d2) = W5 from hW5.symm]
                 obtain ⟨nbk, hnbk⟩ : ∃ b, b = W2.heap.size := ⟨_, rfl⟩
                 rw [← hnbk]
                 have F1 : W5.heap[nbk]? = some (.cells #[.int .i64 room, .int .i64 0, .slice b1 l1 d1, .slice b2 l2 d2] 30) := by rw [hW5, hnbk]; exact set4_block nb _ _ _ _
                 have F2 : Below W2.heap.size W2 W5 := by
                   rw [hW5]
                   exact set4_below ((((Below.refl W2.heap.size W2).alloc (Nat.le_refl _) (.cells #[.int .i64 0, .int .i64 0, .slice none 0 0, .slice none 0 0] 30)).drew).trans (hb4.mono (by simp))) (Nat.le_refl _) _ _ _ _
                 have F3 : QAt w0 (fun k => w.heap.size ≤ k) w4 (.slice b1 l1 d1) (.slice b2 l2 d2) (l.take (j + 1)) → QAt w0 (fun k => w.heap.size ≤ k) W5 (.slice b1 l1 d1) (.slice b2 l2 d2) (l.take (j + 1)) := fun h => by
                   rw [hW5]; exact (((h.set nb).set (four_set0 nb)).set (four_set1 (four_set0 nb))).set (four_set2 (four_set1 (four_set0 nb)))
                 have F1 := Hid.mk F1
                 have F2 := Hid.mk F2
                 have F3 := Hid.mk F3
                 clear hW5 hnbk nb nb0 nb1 nb2 nb3 nf0 nf1 nf2 nf3)
            have B5 := Hid.mk (keepB HBB.out F2.out (Nat.le_refl _))
            have HR := Hid.mk HR0
            clear HR0 hrw hb4 q0 q1 q2 q3 s0 s1 s2 s3 CW
            obtain ⟨e0, e1, hbw⟩ := CELLS.out _ B5.out
            rcases HR.out with ⟨rfl, hroom⟩ | ⟨rfl, hfit2, hq4⟩
            · have HRM : Hid (room < (seals l).length) := Hid.mk (by have := seals_le l (j + 1); omega)
              obtain ⟨⟨r0, r1, r2, r3⟩, _⟩ := four_cells e0
              obtain ⟨⟨m0, m1, m2, m3⟩, ⟨n0, n1, n2, n3⟩⟩ := four_cells e1
              obtain ⟨⟨z0, z1, z2, z3⟩, _⟩ := four_cells (set4_block e1 (.int .i64 room) (.int .i64 sure) (.slice a1 ns.length k1) (.slice a2 ns.length k2))
              have Z0 := Hid.mk z0
              have Z1 := Hid.mk z1
              have Z2 := Hid.mk z2
              have Z3 := Hid.mk z3
              have BF := Hid.mk (set4_below (b := w.heap.size + 1) hbw (by omega) (.int .i64 room) (.int .i64 sure) (.slice a1 ns.length k1) (.slice a2 ns.length k2))
              clear z0 z1 z2 z3 e0 e1 hbw hroom
              go_wp2
              refine bodyPost_ret (v := .tuple #[qV room sure (.slice a1 ns.length k1) (.slice a2 ns.length k2), .int .i64 40]) ?_ rfl ⟨BF.out, .inr (.inl ⟨HMA.out, HRM.out, rfl⟩)⟩
              simp [results, Try.results26, go_sem, Z0.out, Z1.out, Z2.out, Z3.out]
            · have Q5 := F3.out hq4
              have e5 := (F2.out.block _ (lt_of_block HBK.out)).trans HBK.out
              obtain ⟨⟨r0, r1, r2, r3⟩, _⟩ := four_cells F1.out
              obtain ⟨⟨m0, m1, m2, m3⟩, ⟨n0, n1, n2, n3⟩⟩ := four_cells e5
              have HB6 := Hid.mk (set4_block e5 (.int .i64 room) (.int .i64 0) (.slice b1 l1 d1) (.slice b2 l2 d2))
              have Q6 := Hid.mk ((((Q5.set (i := 0) (u := .int .i64 room) e5).set (i := 1) (u := .int .i64 0) (four_set0 e5)).set (i := 2) (u := .slice b1 l1 d1) (four_set1 (four_set0 e5))).set (i := 3) (u := .slice b2 l2 d2) (four_set2 (four_set1 (four_set0 e5))))
              have B6 := Hid.mk (set4_below (b := W1.heap.size) B5.out HSZ.out (.int .i64 room) (.int .i64 0) (.slice b1 l1 d1) (.slice b2 l2 d2))
              clear e0 e1 hbw Q5 e5 hq4
              go_wp2
              go_roundw
              case rel => exact ⟨j + 1, _, _, by go_num, by omega, hfit2, HB6.out, Q6.out, B6.out⟩
              case measure => simp [intOf]; omega)
        · have hlt2I : ¬ (j : Int) < (l.length : Int) := by omega
          have hall : l.take j = l := List.take_of_length_le (by omega)
          have hq := HQ.out
          rw [hall] at hq hfit hcnt q2 q3
          have CS := Hid.mk (rSure_any hq room 0 (by omega))
          have HQL := Hid.mk hq
          have HFT := Hid.mk hfit
          obtain ⟨V, hV⟩ : ∃ V, V = (seals l).length := ⟨_, rfl⟩
          rw [← hV] at CS
          have HV := Hid.mk hV
          clear hq hV hall HQ r0 r1 r2 r3 f0 f1 f2 f3
          go_wp2_with fail
          refine CS.out.mono ?_
          rintro e w3 ⟨rfl, hb3⟩
          have B3 := Hid.mk (keepB HBB.out hb3 (Nat.le_refl _))
          have Q3 := HQL.out.below hb3
          obtain ⟨_, e1, hbw⟩ := CELLS.out _ B3.out
          obtain ⟨⟨m0, m1, m2, m3⟩, ⟨n0, n1, n2, n3⟩⟩ := four_cells e1
          obtain ⟨⟨z0, z1, z2, z3⟩, _⟩ := four_cells (set4_block e1 (.int .i64 room) (.int .i64 V) (.slice x1 l.length y1) (.slice x2 l.length y2))
          have Z0 := Hid.mk z0
          have Z1 := Hid.mk z1
          have Z2 := Hid.mk z2
          have Z3 := Hid.mk z3
          have BF := set4_below (b := w.heap.size + 1) hbw (by omega) (.int .i64 room) (.int .i64 V) (.slice x1 l.length y1) (.slice x2 l.length y2)
          have Q6 := ((((Q3.set (i := 0) (u := .int .i64 room) e1).set (i := 1) (u := .int .i64 V) (four_set0 e1)).set (i := 2) (u := .slice x1 l.length y1) (four_set1 (four_set0 e1))).set (i := 3) (u := .slice x2 l.length y2) (four_set2 (four_set1 (four_set0 e1))))
          have hEnd : Below w.heap.size w (set4 w3 (w.heap.size + 1) (.int .i64 room) (.int .i64 V) (.slice x1 l.length y1) (.slice x2 l.length y2)) ∧ RBEnd w0 S w room sure (.slice a1 ns.length k1) (.slice a2 ns.length k2) l (.returned (.tuple #[qV room V (.slice x1 l.length y1) (.slice x2 l.length y2), .int .i64 0])) (set4 w3 (w.heap.size + 1) (.int .i64 room) (.int .i64 V) (.slice x1 l.length y1) (.slice x2 l.length y2)) :=
            ⟨BF, .inr (.inr ⟨HMA.out, HFT.out, _, _, by rw [HV.out], Q6.keep (fun k o hk ho => ⟨.inr ⟨hk, lt_of_block ho⟩, ho⟩)⟩)⟩
          have HE := Hid.mk hEnd
          clear z0 z1 z2 z3 e1 hbw BF Q6 Q3 hEnd hb3 CS q0 q1 q2 q3
          go_wp2
          refine bodyPost_ret (v := .tuple #[qV room V (.slice x1 l.length y1) (.slice x2 l.length y2), .int .i64 0]) ?_ rfl HE.out
          simp [results, Try.results26, go_sem, Z0.out, Z1.out, Z2.out, Z3.out]
end Go.Proofs.Ytnepednomejniaa
