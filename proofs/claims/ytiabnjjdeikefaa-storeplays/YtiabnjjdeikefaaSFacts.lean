/- maps.Clone, factsOf, Match, Facts of the program. -/
import Derived.Test.YtiabnjjdeikefaaSIter
import Derived.Shelf.SlMaps.Clone
namespace Go.Proofs.Ytiabnjjdeikefaa
open Go.RowKit Go.Shelf
attribute [local go_sem] Oper.semAt_some

set_option maxRecDepth 100000 in
set_option maxHeartbeats 2000000 in
theorem mapClone_any {w : World} {b : Nat} {F : List Tri} (h : MSet w b F) :
    Calls Try.prog 45 #[.map (some b)] w fun e w' => e = .returned (.map (some w.heap.size)) ∧ MSet w' w.heap.size F ∧ Below w.heap.size w w' := by
  obtain ⟨D, ⟨es, clock, hb, h1⟩, h2⟩ := h
  have hq := fun w => run_eql_map_nil_sl (P := Try.prog) w 59 _ _ (some b) Try.underlying59
  have HE : Hid (MSet (w.alloc (.map es clock)) w.heap.size F) := Hid.mk ⟨D, ⟨es, clock, box_at w _, h1⟩, h2⟩
  clear h1 h2
  go_enter Try.func45, Try.ntmps45
  go_wp2
  rw [run_callFunc_extern Try.func56 (by kernel_rfl) (by kernel_rfl) (by kernel_rfl) (e := Extern.MapsClone.clone) (by kernel_rfl), run_maps_clone_sl w 59 hb]
  simp only [Result.andThen]
  rw [Oper.upon_value]
  go_wp2
  rw [run_typeAssert_map_sl _ 59 _ _ _ _ Try.underlying59]
  simp only [Result.andThen]
  rw [Oper.upon_value]
  go_wp2
  go_ret
  exact ⟨rfl, HE.out, (Below.refl _ w).alloc (Nat.le_refl _) _⟩

/-- Facts that turned one behind the other. -/
def turnsF (F : List Tri) (pre : List PT) : List Tri := pre.foldl (fun l q => turnL l q.1.2.2) F
theorem turnsF_snoc (F : List Tri) (pre : List PT) (q : PT) : turnsF F (pre ++ [q]) = turnL (turnsF F pre) q.1.2.2 := by simp [turnsF]
theorem turnsF_len (F : List Tri) (pre : List PT) : (turnsF F pre).length ≤ F.length + pre.length := by
  induction pre generalizing F with
  | nil => simp [turnsF]
  | cons q pre ih =>
    have h1 := ih (turnL F q.1.2.2)
    have h2 := turnL_len F q.1.2.2
    have h3 : turnsF F (q :: pre) = turnsF (turnL F q.1.2.2) pre := rfl
    rw [h3]; simp; omega
def parP (pre : List PT) (x : Tri) : Bool := pre.foldl (fun acc q => acc ^^ decide (q.1.2.2 = x)) false
theorem parP_snoc (pre : List PT) (q : PT) (x : Tri) : parP (pre ++ [q]) x = (parP pre x ^^ decide (q.1.2.2 = x)) := by simp [parP]
theorem mem_turnsF (F : List Tri) (x : Tri) : ∀ (n : Nat) (pre : List PT), pre.length = n → decide (x ∈ turnsF F pre) = (decide (x ∈ F) ^^ parP pre x)
  | 0, pre, h => by
    have : pre = [] := List.length_eq_zero_iff.1 h
    subst this
    simp only [turnsF, parP, List.foldl_nil, Bool.xor_false]
    exact decide_eq_decide.2 Iff.rfl
  | n + 1, pre, h => by
    rcases List.eq_nil_or_concat pre with rfl | ⟨l, q, rfl⟩
    · simp at h
    · rw [List.concat_eq_append] at h ⊢
      rw [turnsF_snoc, mem_turnL_dec, mem_turnsF F x n l (by simpa using h), parP_snoc, Bool.xor_assoc]
theorem parT_upto (ts : List (Nat × Tri)) (hw : ∀ p ∈ ts, isTW p.2 = true) (v : Nat) (x : Tri) : ∀ k, k ≤ ts.length → (∀ q ∈ uptoE ts hw k, v < q.1.2.1) → parT (ts.drop (ts.length - k)) v x = parP (uptoE ts hw k) x
  | 0, _, _ => by simp [uptoE, parP, parT]
  | k + 1, hk, h => by
    have hs := uptoE_succ ts hw k
    have ih := parT_upto ts hw v x k (by omega) (fun q hq => h q (by rw [hs]; exact List.mem_append_left _ hq))
    obtain ⟨p, hp⟩ : ∃ p, ts[ts.length - (k + 1)]? = some p := ⟨_, List.getElem?_eq_getElem (by omega)⟩
    have hfe := fromEnd_at ts hw (j := k) (i := ts.length - (k + 1)) (by omega) hp
    have hv := h (fromEnd ts hw k) (by rw [hs]; simp)
    rw [hfe] at hv
    have hd : ts.drop (ts.length - (k + 1)) = p :: ts.drop (ts.length - k) := by
      rw [List.drop_eq_getElem_cons (by omega)]
      rw [List.getElem?_eq_getElem (by omega)] at hp
      rw [Option.some.inj hp, show ts.length - (k + 1) + 1 = ts.length - k by omega]
    have e : parT (p :: ts.drop (ts.length - k)) v x = ((decide (v < p.1) && decide (p.2 = x)) ^^ parT (ts.drop (ts.length - k)) v x) := rfl
    rw [hd, e, ih, hs, parP_snoc, hfe, decide_eq_true hv, Bool.true_and, Bool.xor_comm]
/-- All have turned. -/
theorem Hist.turns_all {All : List (List Tri)} {ts : List (Nat × Tri)} (h : Hist All ts) (hw : ∀ p ∈ ts, isTW p.2 = true) {v : Nat} {G : List Tri} (hG : All[v]? = some G) (hall : ∀ q ∈ uptoE ts hw ts.length, v < q.1.2.1) (x : Tri) : x ∈ G ↔ x ∈ turnsF (lastT All) (uptoE ts hw ts.length) := by
  have h1 := h.at hG (i := 0) (fun j p hj => absurd hj (by omega)) x
  have h2 := parT_upto ts hw v x ts.length (Nat.le_refl _) hall
  rw [Nat.sub_self] at h2
  have h3 := mem_turnsF (lastT All) x _ (uptoE ts hw ts.length) rfl
  rw [h2, ← h3] at h1
  exact decide_eq_decide.1 h1
/-- All behind a version have turned. -/
theorem Hist.turns_some {All : List (List Tri)} {ts : List (Nat × Tri)} (h : Hist All ts) (hw : ∀ p ∈ ts, isTW p.2 = true) {v : Nat} {G : List Tri} (hG : All[v]? = some G) {k : Nat} (hk : k < ts.length) (hall : ∀ q ∈ uptoE ts hw k, v < q.1.2.1) (hx : (fromEnd ts hw k).1.2.1 ≤ v) (x : Tri) : x ∈ G ↔ x ∈ turnsF (lastT All) (uptoE ts hw k) := by
  have h1 := h.at hG (i := ts.length - k) (fun j p hj hp => by
    obtain ⟨p', hp'⟩ : ∃ p, ts[ts.length - (k + 1)]? = some p := ⟨_, List.getElem?_eq_getElem (by omega)⟩
    have hfe := fromEnd_at ts hw (j := k) (i := ts.length - (k + 1)) (by omega) hp'
    rw [hfe] at hx
    by_cases e : j = ts.length - (k + 1)
    · subst e
      rw [hp] at hp'
      rw [Option.some.inj hp']; exact hx
    · have h3 := List.pairwise_iff_getElem.1 h.vers j (ts.length - (k + 1)) (by omega) (by omega) (by omega)
      rw [List.getElem?_eq_getElem (by omega)] at hp hp'
      rw [Option.some.inj hp, Option.some.inj hp'] at h3
      exact Nat.le_trans h3 hx) x
  have h2 := parT_upto ts hw v x k (by omega) hall
  have h3 := mem_turnsF (lastT All) x _ (uptoE ts hw k) rfl
  rw [h2, ← h3] at h1
  exact decide_eq_decide.1 h1

theorem keepLow {A B : World} {row : Option Nat} {B0 k : Nat} (hg : A.grownBy B row) (hr : ∀ r, row = some r → B0 ≤ r ∧ ∃ o : Obj, A.heap[r]? = some o ∧ o.isCells = false) (hk : k < B0) {o : Obj} (h : A.heap[k]? = some o) : B.heap[k]? = some o :=
  (hg.block k (lt_of_block h) (fun e => by have := (hr k e.symm).1; omega)).trans h
theorem keepCells {A B : World} {row : Option Nat} {B0 k : Nat} (hg : A.grownBy B row) (hr : ∀ r, row = some r → B0 ≤ r ∧ ∃ o : Obj, A.heap[r]? = some o ∧ o.isCells = false) {cs : Array Value} {y : TypeId} {fz : Nat × Nat} (h : A.heap[k]? = some (.cells cs y fz)) : B.heap[k]? = some (.cells cs y fz) :=
  (hg.block k (lt_of_block h) (fun e => by
    obtain ⟨_, o, ho, hc⟩ := hr k e.symm
    rw [h] at ho; cases ho; cases hc)).trans h
theorem fr_keep {A : World} {c B0 : Nat} (W : World) (l : Nat) (o' : Obj) (hl : B0 ≤ l) (hA : A.heap.size = B0) : Fr (fun k => k < A.heap.size ∧ k ≠ c) W (W.putObj l o') := by
  have hg := grownBy_putObj' W l o'
  exact ⟨hg.os, hg.tape, hg.output, hg.size, fun k hk => World.putObj_heap_other (by rw [hA] at hk; omega)⟩

set_option maxRecDepth 100000 in
set_option maxHeartbeats 8000000 in
theorem factsOf_any {S : Nat → Prop} {w : World} {b mb N : Nat} {vt : Value} {All : List (List Tri)} {ts : List (Nat × Tri)} (hA : SAt S w b mb N vt (lastT All) ts) (hH : Hist All ts) (hl : ts.length ≤ 100000000) {v : Nat} {G : List Tri} (hG : All[v]? = some G) :
    Calls Try.prog 36 #[.pointer (some ⟨b, 0, none⟩), .int .i64 (v : Int)] w fun e w' => ∃ c, e = .returned (.map (some c)) ∧ MSet w' c G ∧ Below w.heap.size w w' := by
  obtain ⟨F, hF⟩ : ∃ F, F = lastT All := ⟨_, rfl⟩
  rw [← hF] at hA
  have hFl : F.length ≤ 4096 := by rw [hF]; exact hH.few _ (lastT_mem hH.one)
  have HF := Hid.mk hF
  have hw : ∀ p ∈ ts, isTW p.2 = true := fun p hp => hH.word_turn hp
  have HH := Hid.mk hH
  have HGn := Hid.mk (hH.rise G (List.mem_of_getElem? hG)).nodup
  have HG := Hid.mk hG
  clear hF hH hG
  obtain ⟨W1, hW1⟩ : ∃ W1, W1 = w.alloc (.cells #[.int .i64 (v : Int)] 3) := ⟨_, rfl⟩
  have hB1 : Below w.heap.size w W1 := by rw [hW1]; exact (Below.refl _ _).alloc (Nat.le_refl _) _
  have bV : Boxed W1 w.heap.size 3 (.int .i64 (v : Int)) := by rw [hW1]; exact box_at w _
  have A1 := hA.below hB1
  obtain ⟨⟨g0, g1, g2, g3⟩, _⟩ := four_cells A1.blk
  have C1 := Hid.mk (mapClone_any A1.om)
  have HA1 := Hid.mk A1
  have HB1 := Hid.mk hB1
  have HBV := Hid.mk bV
  have HW1 := Hid.mk hW1
  rw [hW1] at g0 g1 g2 g3
  clear hA A1 hB1 bV hW1
  refine (callsIn_wide (n := 5)).1 ?_
  refine callsIn_of_wp_marks Try.func36 rfl trivial ?_ rfl
  simp only [Try.ntmps36, List.size_toArray, List.length_cons, List.length_nil, Nat.reduceAdd, Nat.reduceSub, Array.replicate_succ, Array.replicate_zero, List.push_toArray, List.append_toArray, List.nil_append, List.cons_append]
  gi_wp2_with fail
  rw [← HW1.out]
  refine ⟨trivial, (callsIn_wide.2 C1.out).mono ?_⟩
  rintro e w2 ⟨rfl, hM2, hb2⟩
  obtain ⟨c, hc⟩ : ∃ c, c = W1.heap.size := ⟨_, rfl⟩
  rw [← hc] at hM2 ⊢
  obtain ⟨W3, hW3⟩ : ∃ W3, W3 = w2.alloc (.cells #[.map (some c)] 59) := ⟨_, rfl⟩
  have hB3 : Below w2.heap.size w2 W3 := by rw [hW3]; exact (Below.refl _ _).alloc (Nat.le_refl _) _
  have bM3 : Boxed W3 w2.heap.size 59 (.map (some c)) := by rw [hW3]; exact box_at w2 _
  have A3 := (HA1.out.below hb2).below hB3
  have bV3 : Boxed W3 w.heap.size 3 (.int .i64 (v : Int)) := (hB3.block _ (Nat.lt_of_lt_of_le HBV.out.lt hb2.size)).trans ((hb2.block _ HBV.out.lt).trans HBV.out)
  clear g0 g1 g2 g3
  obtain ⟨⟨g0, g1, g2, g3⟩, _⟩ := four_cells A3.blk
  rw [hW3] at g0 g1 g2 g3
  obtain ⟨ao, cap, hvt⟩ := own_slice A3.ot
  subst hvt
  obtain ⟨nt, hnt⟩ : ∃ nt, nt = ts.length := ⟨_, rfl⟩
  rw [← hnt] at g3 hl
  have HNT := Hid.mk hnt
  have CB := Hid.mk (backward_any ao nt cap W3)
  have HM3 := Hid.mk (hM2.below hB3)
  have HB3 := Hid.mk ((HB1.out.trans (hb2.mono HB1.out.size)).trans (hB3.mono (HB1.out.trans (hb2.mono HB1.out.size)).size))
  have HA3 := Hid.mk A3
  have HBV3 := Hid.mk bV3
  have HBM3 := Hid.mk bM3
  have HW3 := Hid.mk hW3
  have hcw : w.heap.size < c := by rw [hc]; exact HBV.out.lt
  have hcm : c < w2.heap.size := hM2.lt
  clear hc hW3 hB3 bM3 A3 bV3 hM2 hb2 hnt C1
  gi_wp2_with fail
  rw [← HW3.out]
  refine ⟨trivial, (callsIn_wide.2 CB.out).mono ?_⟩
  rintro e w4 ⟨rfl, hw4⟩
  have hB4 : Below W3.heap.size W3 w4 := by rw [hw4]; exact (Below.refl _ _).alloc (Nat.le_refl _) _
  have bS4 : Boxed w4 W3.heap.size 60 (.slice ao nt cap) := by rw [hw4]; exact box_at W3 _
  have A4 := HA3.out.below hB4
  have bV4 : Boxed w4 w.heap.size 3 (.int .i64 (v : Int)) := (hB4.block _ HBV3.out.lt).trans HBV3.out
  have bM4 : Boxed w4 w2.heap.size 59 (.map (some c)) := (hB4.block _ HBM3.out.lt).trans HBM3.out
  have M4 := HM3.out.below hB4
  have hB04 : Below w.heap.size w w4 := HB3.out.trans (hB4.mono HB3.out.size)
  have hw2l : w2.heap.size < W3.heap.size := HBM3.out.lt
  clear g0 g1 g2 g3 hB4 hw4 CB
  have hsl : SlS csU 4 (fun k => k < w4.heap.size ∧ k ≠ c) w4 (.slice ao nt cap) ts := by
    have h1 := own_sl csU_len A4.ot rfl
    rw [← HNT.out] at h1
    refine h1.sub (fun g hg hlt => ⟨hlt, fun e => ?_⟩)
    have h2 := (own_cells A4.ot (g := g) (by rw [← HNT.out]; exact hg))
    obtain ⟨es, cc, ho⟩ := M4.obj
    obtain ⟨cs, fz, h2⟩ := h2
    rw [e, ho] at h2; cases h2
  gi_wp2_with fail
  have hc4 : c < w4.heap.size := M4.lt
  have hv4 : w.heap.size < w4.heap.size := bV4.lt
  have hm4 : w2.heap.size < w4.heap.size := bM4.lt
  have HSL := Hid.mk hsl
  have HBS4 := Hid.mk bS4
  have hs4 : W3.heap.size < w4.heap.size ∧ W3.heap.size ≠ c := ⟨bS4.lt, by omega⟩
  clear hsl bS4 A4
  refine wpIn_rangeFunc_ownH (F := Fence.wide) rfl (by omega) (gf := 57) (lb := #[.pointer (some ⟨W3.heap.size, 0, none⟩)]) rfl trivial (enters_of Try.func57 (by kernel_rfl) rfl)
    (back_stops Fence.wide (5 - 1) trivial rfl (by omega) W3.heap.size (fun k => k < w4.heap.size ∧ k ≠ c) hs4 (.slice ao nt cap) ts hw (by rw [← HNT.out]; omega) w4 hs4.1 HBS4.out.cell HSL.out)
    (fun h k => h.trans k) (fun W l o o' hl _ _ _ => fr_keep W l o' hl rfl) (Below.refl _ _) (fun _ => rfl)
    (fun pre W => Boxed W w.heap.size 3 (.int .i64 (v : Int)) ∧ Boxed W w2.heap.size 59 (.map (some c)) ∧ MSet W c (turnsF F pre) ∧ (∀ q ∈ pre, v < q.1.2.1) ∧ Below w.heap.size w W ∧ w4.heap.size ≤ W.heap.size)
    (fun cd pre W => cd = .exit 0 ∧ Boxed W w2.heap.size 59 (.map (some c)) ∧ (∃ pre' q, pre = pre' ++ [q] ∧ q.1.2.1 ≤ v ∧ (∀ q ∈ pre', v < q.1.2.1) ∧ MSet W c (turnsF F pre')) ∧ Below w.heap.size w W)
    (fun pre A B row hs hg hr => by
      obtain ⟨h1, h2, h3, h4, h5, h6⟩ := hs
      exact ⟨keepLow hg hr hv4 h1, keepLow hg hr hm4 h2, h3.key (fun o ho => keepLow hg hr hc4 ho), h4, h5.grown hg h5.size (fun k e => by have := (hr k e).1; omega), Nat.le_trans h6 hg.size⟩)
    (fun cd pre A B row hs hg hr => by
      obtain ⟨h0, h2, ⟨pre', q, e1, e2, e3, h3⟩, h5⟩ := hs
      exact ⟨h0, keepLow hg hr hm4 h2, ⟨pre', q, e1, e2, e3, h3.key (fun o ho => keepLow hg hr hc4 ho)⟩, h5.grown hg h5.size (fun k e => by have := (hr k e).1; omega)⟩)
    ⟨bV4, bM4, M4, by simp, hB04, Nat.le_refl _⟩
    (fun x a' W => ∃ Bx, w4.heap.size ≤ Bx ∧ W.heap[Bx]? = some (.cells #[.int .i64 (x.1.2.1 : Int), strV x.1.2.2.1, strV x.1.2.2.2.1, strV x.1.2.2.2.2] 72 (0, 0)) ∧ a' = { tmps := #[.pointer (some ⟨b, 0, none⟩), .int .i64 (v : Int), undef, .pointer (some ⟨w.heap.size, 0, none⟩), .map none, .pointer (some ⟨w2.heap.size, 0, none⟩), undef, .pointer (some ⟨Bx, 0, none⟩), .pointer (some ⟨b, 0, none⟩), .pointer (some ⟨b, 0, none⟩), .pointer (some ⟨b, 2, none⟩), .map (some mb), .map (some c), .pointer (some ⟨b, 0, none⟩), .pointer (some ⟨b, 0, none⟩), .pointer (some ⟨b, 3, none⟩), .slice ao nt cap, .func (.func 57) #[] #[.pointer (some ⟨W3.heap.size, 0, none⟩)], .int .i64 (x.1.1 : Int), aggU x.1.2, undef, undef, undef, undef, undef, undef, undef, undef, undef], defers := [] })
    (fun x a' _ A B row hs hg hr => by
      obtain ⟨Bx, h1, h2, h3⟩ := hs
      exact ⟨Bx, h1, keepCells hg hr h2, h3⟩)
    ?assign ?body ?done ?stop
  case assign =>
    rintro l pre x W K ⟨h1, h2, h3, h4, h5, h6⟩ hK
    gi_wp2
    have ba : Below W.heap.size W (W.alloc (.cells #[.int .i64 (x.1.2.1 : Int), strV x.1.2.2.1, strV x.1.2.2.2.1, strV x.1.2.2.2.2] 72)) := (Below.refl _ _).alloc (Nat.le_refl _) _
    refine hK _ _ ((KeepsOthers.alloc _ _).from _) ⟨rfl, rfl, rfl, ba.size, fun k hk => ba.block k ?_⟩ ⟨h1.alloc _, h2.alloc _, h3.below ba, h4, h5.trans (ba.mono h5.size), Nat.le_trans h6 ba.size⟩ ⟨W.heap.size, h6, box_at W _, rfl⟩
    exact Nat.lt_of_lt_of_le hk.1 h6
  case body =>
    rintro l pre x a' W hl ⟨r, hr⟩ ⟨h1, h2, h3, h4, h5, h6⟩ ⟨Bx, hBx, bX, rfl⟩ hlt
    obtain ⟨⟨x0, x1, x2, x3⟩, _⟩ := four_cells bX
    have cV := h1.cell
    have cM := h2.cell
    by_cases hv : x.1.2.1 ≤ v
    · have hvI : (x.1.2.1 : Int) ≤ (v : Int) := by omega
      gi_wp2
      exact ⟨KeepsFrom.refl _ _, rfl, h2, ⟨pre, x, rfl, hv, h4, h3⟩, h5⟩
    · have hvI : ¬ (x.1.2.1 : Int) ≤ (v : Int) := by omega
      have CT := Hid.mk (turn_any h3 x.2 (by have := turnsF_len F pre; rw [← HNT.out] at hlt; omega))
      gi_wp2_with (refine ⟨trivial, ?_⟩; gi_at_call 35; refine (CallsIn.inRound l (callsIn_wide.2 CT.out)).mono ?_; rintro e w5 ⟨rfl, hM5, hg5⟩)
      refine ⟨KeepsFrom.of_grownBy hg5 (fun j e => by cases e; exact hc4), ⟨hg5.os, hg5.tape, hg5.output, hg5.size, fun k hk => hg5.block k (Nat.lt_of_lt_of_le hk.1 h6) (fun e => hk.2 (Option.some.inj e))⟩, blk_grown h1 hg5 (fun e => by cases e; omega), blk_grown h2 hg5 (fun e => by cases e; omega), by rw [turnsF_snoc]; exact hM5, ?_, h5.grown hg5 h5.size (fun k e => by cases e; omega), Nat.le_trans h6 hg5.size⟩
      intro q hq
      rcases List.mem_append.1 hq with hq | hq
      · exact h4 q hq
      · rw [List.mem_singleton] at hq; rw [hq]; omega
  case done =>
    rintro D zs W hD rfl ⟨h1, h2, h3, h4, h5, h6⟩ hK
    have cM := h2.cell
    have hm := h3.perm HGn.out (fun x => by have := HH.out.turns_all hw HG.out h4 x; rw [← HF.out] at this; exact this)
    gi_wp2
    refine ⟨by simp, .inl ⟨_, _, rfl, run_takeDeferred hK, ?_⟩⟩
    exact ⟨_, results_tmp rfl _ _ _, c, rfl, hm.key (fun o ho => (World.putObj_heap_other (by omega)).trans ho), h5.trans (belowK_b (w := w) (Nat.le_refl _) W D _ _ (by omega) hK rfl rfl)⟩
  case stop =>
    rintro D cd pre W hD ⟨k, hk, hpre⟩ ⟨rfl, h2, ⟨pre', q, e1, e2, e3, h3⟩, h5⟩ hK
    have cM := h2.cell
    obtain ⟨k', rfl⟩ : ∃ k', k = k' + 1 := by
      cases k with
      | zero => rw [hpre] at e1; simp [uptoE] at e1
      | succ k' => exact ⟨k', rfl⟩
    rw [hpre, uptoE_succ] at e1
    obtain ⟨e4, e5⟩ := List.append_inj' e1 rfl
    simp only [List.cons.injEq, and_true] at e5
    subst e4 e5
    have hm := h3.perm HGn.out (fun x => by have := HH.out.turns_some hw HG.out (by omega) e3 e2 x; rw [← HF.out] at this; exact this)
    gi_wp2
    refine ⟨by simp, .inl ⟨_, _, rfl, run_takeDeferred hK, ?_⟩⟩
    exact ⟨_, results_tmp rfl _ _ _, c, rfl, hm.key (fun o ho => (World.putObj_heap_other (by omega)).trans ho), h5.trans (belowK_b (w := w) (Nat.le_refl _) W D _ _ (by omega) hK rfl rfl)⟩
end Go.Proofs.Ytiabnjjdeikefaa
