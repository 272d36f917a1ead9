/- LinkAll: behind whatever script of up to 150 acts on a line of two ends, once all that an end sends again comes, in whatever order, all that was put has come and nothing waits: for every epochs, script and turn. -/
import Derived.Test.YtifmpcldiimdbaaXELRows
namespace Go.Proofs.Ytifmpcldiimdbaa
open Go.RowKit Go.Shelf

theorem infoI : (Try.prog.info? 3).map (fun i => (i.zero, i.size, i.bytes)) = some (some (.int .i64 0), 1, 8) := by kernel_rfl
section
variable {w0 : World} {T : Nat → Prop} {W W' : World} {x : Nat} {V : LV} {e : Nat → En} {U : Nat → List (List UInt8)} {n c : Nat → Nat}
/-- What puts ends with. -/
def PutsE (w0 : World) (T : Nat → Prop) (x : Nat) (V : LV) (e : Nat → En) (U : Nat → List (List UInt8)) (n c : Nat → Nat) (k : Nat) (r : Ending) (w' : World) : Prop :=
  r = .returned (.tuple #[]) ∧ ∃ T' V', LnB w0 T' w' x V' (upd e k (putE (e k) (nk 5 (n k))).1) (upd U (1 - k) (sendU (U (1 - k)) (putE (e k) (nk 5 (n k))).2.1)) (upd n k (n k + 1)) c ∧ V'.b = V.b ∧ ∀ j, T j → T' j
set_option maxRecDepth 100000 in
set_option maxHeartbeats 1000000 in
theorem puts_any (h : LnB w0 T W x V e U n c) {k : Nat} (hk : k < 2) (hn : n k ≤ 1000) (hok : (putE (e k) (nk 5 (n k))).2.2 = 0) :
    Calls Try.prog 46 #[.pointer (some ⟨x, 0, none⟩), .int .i64 (k : Int)] W (PutsE w0 T x V e U n c k) := by
  obtain ⟨i0, hi0, hz0, hz1, hz2⟩ := info_partsE infoI
  obtain ⟨m, hm⟩ : ∃ m, n k = m := ⟨_, rfl⟩
  obtain ⟨pa, pc, hp⟩ := own_slice (h.rp k hk).1
  rw [hm] at hp hn hok
  obtain ⟨k2', hk2'⟩ : ∃ j, 1 - k = j := ⟨_, rfl⟩
  have hk2 : k2' < 2 := by omega
  have hkI : (k : Int) < 2 := by omega
  have h1k : (1 : Int) - (k : Int) = (k2' : Int) := by omega
  have ba : Below W.heap.size W (W.alloc (.cells #[.int .i64 (m : Int)] 3)) := (Below.refl _ _).alloc (Nat.le_refl _) _
  have h1 := h.nw ba
  obtain ⟨q0, -⟩ := h.cells _ _ (lnC_p V hk)
  obtain ⟨q1, -⟩ := h.cells _ _ (lnC_end V hk)
  rw [hp] at q0
  have CP := Hid.mk (putT2_any (h1.at_k hk) h1.low (.agg #[.int .i64 5, .slice (some ⟨W.heap.size, 0, none⟩) 1 1, .slice none 0 0, .slice none 0 0]) (nk 5 m) ⟨_, _, _, rfl, ints_new (ns := [(m : Int)]) (box_at W _) (by simp), strs_nil _, rows_nil _⟩ ⟨by simp [nk], by simp [nk]⟩)
  unfold PtT2 at CP
  rw [hok] at CP
  obtain ⟨e', he'⟩ : ∃ y, (putE (e k) (nk 5 m)).1 = y := ⟨_, rfl⟩
  obtain ⟨ps, hps⟩ : ∃ y, (putE (e k) (nk 5 m)).2.1 = y := ⟨_, rfl⟩
  rw [he', hps] at CP
  have H1 := Hid.mk h1
  have HM := Hid.mk hm
  have HP := Hid.mk hp
  have HPU : Hid (upd e k e' = upd e k (putE (e k) (nk 5 (n k))).1 ∧ sendU (U k2') ps = sendU (U (1 - k)) (putE (e k) (nk 5 (n k))).2.1 ∧ k2' = 1 - k) := Hid.mk ⟨by rw [hm, he'], by rw [hm, hps, hk2'], hk2'.symm⟩
  clear h ba h1 hm hp hok he' hps hk2'
  go_enter Try.func46, Try.ntmps46
  go_wp2_with fail
  refine CP.out.mono ?_
  clear CP
  rintro r w4 ⟨⟨a0, l0, c0, rfl, ho, ht4⟩, hf4⟩
  obtain ⟨T4, hT4⟩ : ∃ T4 : Nat → Prop, T4 = fun j => Nw T W (W.alloc (.cells #[.int .i64 (m : Int)] 3)) j ∨ (Value.slice a0 l0 c0).ownBlock = some j := ⟨_, rfl⟩
  rw [← hT4] at ht4
  obtain ⟨o1, o2, o3⟩ := oneT_cells ho
  have hlow4 : Low T4 w4 := fun j hj => by
    rw [hT4] at hj
    rcases hj with hj | hj
    · exact Nat.lt_of_lt_of_le (H1.out.low j hj) hf4.size
    · rcases ho with ⟨_, e0⟩ | ⟨g, t, _, e0, _, hb⟩
      · rw [e0] at hj; cases hj
      · rw [e0] at hj
        have : g = j := by simpa [Value.ownBlock] using hj
        subst this
        exact lt_of_block hb
  have hl4 : LnB w0 T4 w4 x V (upd e k e') U n c := H1.out.fr hf4 (fun j hj => by rw [hT4]; exact .inl hj) (two_back hk ht4) hlow4
  have HTX4 : Hid (TxR T4 w4 (.slice a0 l0 c0) ps) := Hid.mk (by
    rcases ho with ⟨e1, e0⟩ | ⟨g, t, e1, e0, _, hb⟩
    · rw [e0, e1]; exact ⟨none, 0, rfl, fun _ => ⟨rfl, rfl⟩, by simp, .inl rfl⟩
    · rw [hT4, e0, e1]
      refine ⟨_, 1, rfl, fun h => (by cases h), by simp, .inr ⟨g, 0, _, rfl, .inr rfl, hb, fun j t' hj => ?_⟩⟩
      have : j = 0 := by have := (List.getElem?_eq_some_iff.1 hj).1; simp at this; exact this
      subst this
      simp at hj
      subst hj
      rfl)
  have HPS : Hid (ps.length ≤ 1) := Hid.mk (by omega)
  have bb : Below w4.heap.size w4 (w4.alloc (.cells #[.int .i64 (m : Int)] 3)).drew := below_drewE ((Below.refl _ _).alloc (Nat.le_refl _) _)
  have hl5 := hl4.nw bb
  have HL5 := Hid.mk hl5
  have HO5 : Hid ((w4.alloc (.cells #[.int .i64 (m : Int)] 3)).drew.ownsRow w0.heap.size 3 1 (.slice pa m pc) m (rngC m)) := Hid.mk (by
    have h := (hl5.rp k hk).1
    rw [HP.out, HM.out] at h
    exact h)
  have HNW : Hid (∀ ad, (some ⟨w4.heap.size, 0, none⟩ : Option Addr) = some ad → ∀ (j : Nat) u, [Value.int .i64 (m : Int)][j]? = some u → (w4.alloc (.cells #[.int .i64 (m : Int)] 3)).drew.cell? (ad.add j) = some u) := Hid.mk (fun ad had j u hj => by
    injection had with had
    subst had
    have hj0 : j = 0 := by have := (List.getElem?_eq_some_iff.1 hj).1; simp at this; exact this
    subst hj0
    simp at hj
    subst hj
    exact new_cell w4 _ _)
  have HZ5 : Hid (w0.heap.size ≤ (w4.alloc (.cells #[.int .i64 (m : Int)] 3)).drew.heap.size) := Hid.mk (hl5.bel.size)
  have ht5 : ∀ w9 : World, (w4.alloc (.cells #[.int .i64 (m : Int)] 3)).drew.grownBy w9 (Value.slice pa m pc).ownBlock → ∀ {g : Nat} {cur : Array Value} {t : TypeId}, (w4.alloc (.cells #[.int .i64 (m : Int)] 3)).drew.heap[g]? = some (.cells cur t (0, 0)) → t ≠ 3 → w9.heap[g]? = some (.cells cur t (0, 0)) := fun w9 hg {g cur t} hgg htt => (hg.block g (lt_of_block hgg) (fun e => by
    rcases HO5.out.2 with ⟨h0, _⟩ | ⟨g', cap, cur', e1, _, e3, _⟩
    · rw [h0] at e; cases e
    · rw [e1] at e
      simp only [Value.ownBlock, Option.some.injEq] at e
      subst e
      rw [hgg] at e3
      simp only [Option.some.injEq, Obj.cells.injEq] at e3
      exact htt e3.2.1)).trans hgg
  have HQ9 : Hid (∀ w9 : World, (w4.alloc (.cells #[.int .i64 (m : Int)] 3)).drew.grownBy w9 (Value.slice pa m pc).ownBlock → w9.cell? ⟨x, 4 + k, none⟩ = some (.slice pa m pc) ∧ w9.frozen? ⟨x, 4 + k, none⟩ = false) := Hid.mk (fun w9 hg => by
    have hb := ht5 w9 hg hl5.blk (by decide)
    have hc := lnC_p V hk
    rw [HP.out] at hc
    exact ⟨by simp only [World.cell?, hb]; exact hc, by simp [World.frozen?, hb]⟩)
  have HSK : Hid (∀ w9 : World, (w4.alloc (.cells #[.int .i64 (m : Int)] 3)).drew.grownBy w9 (Value.slice pa m pc).ownBlock → ∀ (g : Nat) (cur : Array Value) (v : Value), w4.heap[g]? = some (.cells cur 9 (0, 0)) → (w9.setCell ⟨x, 4 + k, none⟩ v).heap[g]? = some (.cells cur 9 (0, 0))) := Hid.mk (fun w9 hg g cur v hgg => by
    have h9 := ht5 w9 hg ((bb.block g (lt_of_block hgg)).trans hgg) (by decide)
    refine (set1_other (fun e => ?_) v).trans h9
    have hb := ht5 w9 hg hl5.blk (by decide)
    rw [← e, h9] at hb
    simp only [Option.some.injEq, Obj.cells.injEq] at hb
    exact absurd hb.2.1 (by decide))
  have HTT : Hid (∀ j, T j → T4 j) := Hid.mk (fun j hj => by rw [hT4]; exact .inl (.inl hj))
  obtain ⟨y0, -⟩ := hl4.cells _ _ (lnC_p V hk)
  rw [HP.out] at y0
  have y1 : (w4.alloc (.cells #[.int .i64 (m : Int)] 3)).cell? ⟨x, 4 + k, none⟩ = some (.slice pa m pc) := (((Below.refl w4.heap.size w4).alloc (Nat.le_refl _) _).cell (p := ⟨x, 4 + k, none⟩) (World.block_lt_of_cell? _ _ y0)).trans y0
  clear hl4 hl5 bb ht5 hlow4 ht4 hf4 o1 o2 o3 ho hT4 q0 q1 H1
  go_wp2_with fail
  refine wp_region_held_drew (S := fun u => True) (by kernel_rfl) ?_ (fun hHeld => ?_)
  · exact trivial
  refine wpAnyH_take (i := 0) (oi := { dst := some 29, op := Go.Op.move (Go.Operand.tmp 0), type := 57, pos := "law.go:173", after := #[], guard := none }) (v := ?_) rfl (by kernel_rfl) (by kernel_rfl) (by kernel_rfl) (fun _ _ _ h => h) (Or.inl ⟨by rfl, ?_⟩) hHeld ?_
  rotate_left 1
  · intro W hSw
    obtain - := hSw
    go_simp
    try with_reducible rfl
  simp only [Act.put, List.setIfInBounds_toArray, List.set_cons_zero, List.set_cons_succ]
  refine wpAnyH_take (i := 1) (oi := { dst := some 30, op := Go.Op.move (Go.Operand.tmp 1), type := 3, pos := "law.go:173", after := #[], guard := none }) (v := ?_) rfl (by kernel_rfl) (by kernel_rfl) (by kernel_rfl) (fun _ _ _ h => h) (Or.inl ⟨by rfl, ?_⟩) hHeld ?_
  rotate_left 1
  · intro W hSw
    obtain - := hSw
    go_simp
    try with_reducible rfl
  simp only [Act.put, List.setIfInBounds_toArray, List.set_cons_zero, List.set_cons_succ]
  refine wpAnyH_take (i := 2) (oi := { dst := some 31, op := Go.Op.move (Go.Operand.tmp 0), type := 57, pos := "law.go:173", after := #[], guard := none }) (v := ?_) rfl (by kernel_rfl) (by kernel_rfl) (by kernel_rfl) (fun _ _ _ h => h) (Or.inl ⟨by rfl, ?_⟩) hHeld ?_
  rotate_left 1
  · intro W hSw
    obtain - := hSw
    go_simp
    try with_reducible rfl
  simp only [Act.put, List.setIfInBounds_toArray, List.set_cons_zero, List.set_cons_succ]
  refine wpAnyH_take (i := 3) (oi := { dst := some 32, op := Go.Op.move (Go.Operand.tmp 1), type := 3, pos := "law.go:173", after := #[], guard := none }) (v := ?_) rfl (by kernel_rfl) (by kernel_rfl) (by kernel_rfl) (fun _ _ _ h => h) (Or.inl ⟨by rfl, ?_⟩) hHeld ?_
  rotate_left 1
  · intro W hSw
    obtain - := hSw
    go_simp
    try with_reducible rfl
  simp only [Act.put, List.setIfInBounds_toArray, List.set_cons_zero, List.set_cons_succ]
  refine wpAnyH_take (i := 4) (oi := { dst := some 33, op := Go.Op.nilCheck (Go.Operand.tmp 31), type := 0, pos := "law.go:173", after := #[{ on := 2, ground := Go.Ground.data }], guard := none }) (v := ?_) rfl (by kernel_rfl) (by kernel_rfl) (by kernel_rfl) (fun _ _ _ h => h) (Or.inl ⟨by rfl, ?_⟩) hHeld ?_
  rotate_left 1
  · intro W hSw
    obtain - := hSw
    go_simp
    try with_reducible rfl
  simp only [Act.put, List.setIfInBounds_toArray, List.set_cons_zero, List.set_cons_succ]
  refine wpAnyH_take (i := 5) (oi := { dst := some 34, op := Go.Op.fieldAddr 63 (Go.Operand.tmp 33) 2, type := 0, pos := "law.go:173", after := #[{ on := 4, ground := Go.Ground.data }], guard := none }) (v := ?_) rfl (by kernel_rfl) (by kernel_rfl) (by kernel_rfl) (fun _ _ _ h => h) (Or.inl ⟨by rfl, ?_⟩) hHeld ?_
  rotate_left 1
  · intro W hSw
    obtain - := hSw
    go_simp
    try with_reducible rfl
  simp only [Act.put, List.setIfInBounds_toArray, List.set_cons_zero, List.set_cons_succ]
  refine wpAnyH_take (i := 6) (oi := { dst := some 35, op := Go.Op.indexAddr 61 (Go.Operand.tmp 34) (Go.Operand.tmp 32), type := 0, pos := "law.go:173", after := #[{ on := 5, ground := Go.Ground.data }, { on := 3, ground := Go.Ground.data }], guard := none }) (v := ?_) rfl (by kernel_rfl) (by kernel_rfl) (by kernel_rfl) (fun _ _ _ h => h) (Or.inl ⟨by rfl, ?_⟩) hHeld ?_
  rotate_left 1
  · intro W hSw
    obtain - := hSw
    go_simp
    try with_reducible rfl
  simp only [Act.put, List.setIfInBounds_toArray, List.set_cons_zero, List.set_cons_succ]
  refine wpAnyH_take (i := 8) (oi := { dst := some 37, op := Go.Op.move (Go.Operand.tmp 4), type := 3, pos := "law.go:173", after := #[], guard := none }) (v := ?_) rfl (by kernel_rfl) (by kernel_rfl) (by kernel_rfl) (fun _ _ _ h => h) (Or.inl ⟨by rfl, ?_⟩) hHeld ?_
  rotate_left 1
  · intro W hSw
    obtain - := hSw
    go_simp
    try with_reducible rfl
  simp only [Act.put, List.setIfInBounds_toArray, List.set_cons_zero, List.set_cons_succ]
  refine wpAnyH_take (i := 11) (oi := { dst := some 40, op := Go.Op.nilCheck (Go.Operand.tmp 29), type := 0, pos := "law.go:173", after := #[{ on := 0, ground := Go.Ground.data }], guard := none }) (v := ?_) rfl (by kernel_rfl) (by kernel_rfl) (by kernel_rfl) (fun _ _ _ h => h) (Or.inl ⟨by rfl, ?_⟩) hHeld ?_
  rotate_left 1
  · intro W hSw
    obtain - := hSw
    go_simp
    try with_reducible rfl
  simp only [Act.put, List.setIfInBounds_toArray, List.set_cons_zero, List.set_cons_succ]
  refine wpAnyH_take (i := 12) (oi := { dst := some 41, op := Go.Op.fieldAddr 63 (Go.Operand.tmp 40) 2, type := 0, pos := "law.go:173", after := #[{ on := 11, ground := Go.Ground.data }], guard := none }) (v := ?_) rfl (by kernel_rfl) (by kernel_rfl) (by kernel_rfl) (fun _ _ _ h => h) (Or.inl ⟨by rfl, ?_⟩) hHeld ?_
  rotate_left 1
  · intro W hSw
    obtain - := hSw
    go_simp
    try with_reducible rfl
  simp only [Act.put, List.setIfInBounds_toArray, List.set_cons_zero, List.set_cons_succ]
  refine wpAnyH_ready (rs := [7, 9]) (by kernel_rfl) (by simp) ?_
  refine AllReadyH.cons (o := { dst := some 36, op := Go.Op.load 33 (Go.Operand.tmp 35), type := 33, pos := "law.go:173", after := #[{ on := 6, ground := Go.Ground.data }], guard := none }) rfl (fun K hK => ?_) (AllReadyH.cons (o := { dst := some 38, op := Go.Op.buildSlice 33 1 #[(0, Go.Operand.tmp 37)], type := 33, pos := "law.go:173", after := #[{ on := 8, ground := Go.Ground.data }], guard := none }) rfl (fun K hK => ?_) AllReadyH.nil)
  · go_simp
    refine hK.out _ _ trivial (fun hHeld => ?_)
    clear hK K
    refine wpAnyH_ready (rs := [9]) (by kernel_rfl) (by simp) ?_
    refine AllReadyH.cons (o := { dst := some 38, op := Go.Op.buildSlice 33 1 #[(0, Go.Operand.tmp 37)], type := 33, pos := "law.go:173", after := #[{ on := 8, ground := Go.Ground.data }], guard := none }) rfl (fun K hK => ?_) AllReadyH.nil
    go_simp
    refine hK.out _ _ trivial (fun hHeld => ?_)
    clear hK K
    refine wpAnyH_ready (rs := [10]) (by kernel_rfl) (by simp) ?_
    refine AllReadyH.cons (o := { dst := some 39, op := Go.Op.call { callee := Go.Callee.builtin Go.Builtin.append, args := #[Go.Operand.tmp 36, Go.Operand.tmp 38], argTypes := #[33, 33] }, type := 33, pos := "law.go:173", after := #[{ on := 7, ground := Go.Ground.data }, { on := 9, ground := Go.Ground.data }], guard := none }) rfl (fun K hK => ?_) AllReadyH.nil
    refine step_append_all (by rfl) _ _ (by rfl) Try.underlying33 hi0 hz0 hz1 hz2 rfl (by decide) (by rfl) HO5.out (some ⟨w4.heap.size, 0, none⟩) [.int .i64 (m : Int)] 1 1 (by rfl) (by rfl) (fun h => by cases h) HNW.out (by simp [Value.oneCell']) (by unfold maxLen; omega) (by omega) HZ5.out ?_
    intro v9 w9 hown9 hg9 hv9
    obtain ⟨va9, vc9, hv9s⟩ := own_slice hown9
    subst hv9s
    have HO9 := Hid.mk hown9
    have HG9 := Hid.mk hg9
    have HV9 := Hid.mk hv9
    obtain ⟨q2, q3⟩ := HQ9.out w9 hg9
    clear hown9 hg9 hv9
    refine hK.out _ _ trivial (fun hHeld => ?_)
    clear hK K
    refine wpAnyH_take (i := 13) (oi := { dst := some 42, op := Go.Op.indexAddr 61 (Go.Operand.tmp 41) (Go.Operand.tmp 30), type := 0, pos := "law.go:173", after := #[{ on := 12, ground := Go.Ground.data }, { on := 1, ground := Go.Ground.data }, { on := 0, ground := Go.Ground.phase }, { on := 1, ground := Go.Ground.phase }, { on := 2, ground := Go.Ground.phase }, { on := 3, ground := Go.Ground.phase }, { on := 4, ground := Go.Ground.phase }, { on := 5, ground := Go.Ground.phase }, { on := 6, ground := Go.Ground.phase }, { on := 7, ground := Go.Ground.phase }, { on := 8, ground := Go.Ground.phase }, { on := 9, ground := Go.Ground.phase }, { on := 10, ground := Go.Ground.phase }], guard := none }) (v := ?_) rfl (by kernel_rfl) (by kernel_rfl) (by kernel_rfl) (fun _ _ _ h => h) (Or.inl ⟨by rfl, ?_⟩) hHeld ?_
    rotate_left 1
    · intro W hSw
      obtain - := hSw
      go_simp
      try with_reducible rfl
    simp only [Act.put, List.setIfInBounds_toArray, List.set_cons_zero, List.set_cons_succ]
    refine wpAnyH_ready (rs := [14]) (by kernel_rfl) (by simp) ?_
    refine AllReadyH.cons (o := { dst := none, op := Go.Op.store 33 (Go.Operand.tmp 42) (Go.Operand.tmp 39), type := 0, pos := "law.go:173", after := #[{ on := 13, ground := Go.Ground.data }, { on := 10, ground := Go.Ground.data }, { on := 10, ground := Go.Ground.chain }, { on := 0, ground := Go.Ground.phase }, { on := 1, ground := Go.Ground.phase }, { on := 2, ground := Go.Ground.phase }, { on := 3, ground := Go.Ground.phase }, { on := 4, ground := Go.Ground.phase }, { on := 5, ground := Go.Ground.phase }, { on := 6, ground := Go.Ground.phase }, { on := 7, ground := Go.Ground.phase }, { on := 8, ground := Go.Ground.phase }, { on := 9, ground := Go.Ground.phase }, { on := 10, ground := Go.Ground.phase }], guard := none }) rfl (fun K hK => ?_) AllReadyH.nil
    go_simp
    refine hK.out _ _ trivial (fun hHeld => ?_)
    clear hK K
    refine wpAnyH_done (by kernel_rfl) ?_ _
    have HL9 := Hid.mk (HL5.out.addp hk (by rw [HP.out]; exact HG9.out) (by rw [rngC_snoc, HM.out]; exact HO9.out) (by rw [HP.out]; exact HV9.out))
    have HTX : Hid (TxR (Nw (Nw T4 w4 (w4.alloc (.cells #[.int .i64 (m : Int)] 3)).drew) (w4.alloc (.cells #[.int .i64 (m : Int)] 3)).drew w9) (w9.setCell ⟨x, 4 + k, none⟩ (.slice va9 (m + 1) vc9)) (.slice a0 l0 c0) ps) := Hid.mk (HTX4.out.keep (fun g cur hg ho => ⟨.inl (.inl hg), HSK.out w9 HG9.out g cur _ ho⟩))
    have CS := Hid.mk (sends_any HL9.out hk2 (.slice a0 l0 c0) ps HTX.out (by have := HPS.out; omega))
    clear q2 q3 HTX
    go_wp2_with fail
    refine CS.out.mono ?_
    clear CS
    rintro r w10 ⟨rfl, T10, v10, hl10, hs10⟩
    have HE : Hid (PutsE w0 T x V e U n c k (.returned (.tuple #[])) w10) := Hid.mk (by
      obtain ⟨u1, u2, u3⟩ := HPU.out
      rw [u1, u2, u3] at hl10
      exact ⟨rfl, T10, _, hl10, rfl, fun j hj => hs10 j (.inl (.inl (HTT.out j hj)))⟩)
    clear hl10 hs10
    go_wp2
    go_end0
    exact HE.out
  · go_simp
    refine hK.out _ _ trivial (fun hHeld => ?_)
    clear hK K
    refine wpAnyH_ready (rs := [7]) (by kernel_rfl) (by simp) ?_
    refine AllReadyH.cons (o := { dst := some 36, op := Go.Op.load 33 (Go.Operand.tmp 35), type := 33, pos := "law.go:173", after := #[{ on := 6, ground := Go.Ground.data }], guard := none }) rfl (fun K hK => ?_) AllReadyH.nil
    go_simp
    refine hK.out _ _ trivial (fun hHeld => ?_)
    clear hK K
    refine wpAnyH_ready (rs := [10]) (by kernel_rfl) (by simp) ?_
    refine AllReadyH.cons (o := { dst := some 39, op := Go.Op.call { callee := Go.Callee.builtin Go.Builtin.append, args := #[Go.Operand.tmp 36, Go.Operand.tmp 38], argTypes := #[33, 33] }, type := 33, pos := "law.go:173", after := #[{ on := 7, ground := Go.Ground.data }, { on := 9, ground := Go.Ground.data }], guard := none }) rfl (fun K hK => ?_) AllReadyH.nil
    refine step_append_all (by rfl) _ _ (by rfl) Try.underlying33 hi0 hz0 hz1 hz2 rfl (by decide) (by rfl) HO5.out (some ⟨w4.heap.size, 0, none⟩) [.int .i64 (m : Int)] 1 1 (by rfl) (by rfl) (fun h => by cases h) HNW.out (by simp [Value.oneCell']) (by unfold maxLen; omega) (by omega) HZ5.out ?_
    intro v9 w9 hown9 hg9 hv9
    obtain ⟨va9, vc9, hv9s⟩ := own_slice hown9
    subst hv9s
    have HO9 := Hid.mk hown9
    have HG9 := Hid.mk hg9
    have HV9 := Hid.mk hv9
    obtain ⟨q2, q3⟩ := HQ9.out w9 hg9
    clear hown9 hg9 hv9
    refine hK.out _ _ trivial (fun hHeld => ?_)
    clear hK K
    refine wpAnyH_take (i := 13) (oi := { dst := some 42, op := Go.Op.indexAddr 61 (Go.Operand.tmp 41) (Go.Operand.tmp 30), type := 0, pos := "law.go:173", after := #[{ on := 12, ground := Go.Ground.data }, { on := 1, ground := Go.Ground.data }, { on := 0, ground := Go.Ground.phase }, { on := 1, ground := Go.Ground.phase }, { on := 2, ground := Go.Ground.phase }, { on := 3, ground := Go.Ground.phase }, { on := 4, ground := Go.Ground.phase }, { on := 5, ground := Go.Ground.phase }, { on := 6, ground := Go.Ground.phase }, { on := 7, ground := Go.Ground.phase }, { on := 8, ground := Go.Ground.phase }, { on := 9, ground := Go.Ground.phase }, { on := 10, ground := Go.Ground.phase }], guard := none }) (v := ?_) rfl (by kernel_rfl) (by kernel_rfl) (by kernel_rfl) (fun _ _ _ h => h) (Or.inl ⟨by rfl, ?_⟩) hHeld ?_
    rotate_left 1
    · intro W hSw
      obtain - := hSw
      go_simp
      try with_reducible rfl
    simp only [Act.put, List.setIfInBounds_toArray, List.set_cons_zero, List.set_cons_succ]
    refine wpAnyH_ready (rs := [14]) (by kernel_rfl) (by simp) ?_
    refine AllReadyH.cons (o := { dst := none, op := Go.Op.store 33 (Go.Operand.tmp 42) (Go.Operand.tmp 39), type := 0, pos := "law.go:173", after := #[{ on := 13, ground := Go.Ground.data }, { on := 10, ground := Go.Ground.data }, { on := 10, ground := Go.Ground.chain }, { on := 0, ground := Go.Ground.phase }, { on := 1, ground := Go.Ground.phase }, { on := 2, ground := Go.Ground.phase }, { on := 3, ground := Go.Ground.phase }, { on := 4, ground := Go.Ground.phase }, { on := 5, ground := Go.Ground.phase }, { on := 6, ground := Go.Ground.phase }, { on := 7, ground := Go.Ground.phase }, { on := 8, ground := Go.Ground.phase }, { on := 9, ground := Go.Ground.phase }, { on := 10, ground := Go.Ground.phase }], guard := none }) rfl (fun K hK => ?_) AllReadyH.nil
    go_simp
    refine hK.out _ _ trivial (fun hHeld => ?_)
    clear hK K
    refine wpAnyH_done (by kernel_rfl) ?_ _
    have HL9 := Hid.mk (HL5.out.addp hk (by rw [HP.out]; exact HG9.out) (by rw [rngC_snoc, HM.out]; exact HO9.out) (by rw [HP.out]; exact HV9.out))
    have HTX : Hid (TxR (Nw (Nw T4 w4 (w4.alloc (.cells #[.int .i64 (m : Int)] 3)).drew) (w4.alloc (.cells #[.int .i64 (m : Int)] 3)).drew w9) (w9.setCell ⟨x, 4 + k, none⟩ (.slice va9 (m + 1) vc9)) (.slice a0 l0 c0) ps) := Hid.mk (HTX4.out.keep (fun g cur hg ho => ⟨.inl (.inl hg), HSK.out w9 HG9.out g cur _ ho⟩))
    have CS := Hid.mk (sends_any HL9.out hk2 (.slice a0 l0 c0) ps HTX.out (by have := HPS.out; omega))
    clear q2 q3 HTX
    go_wp2_with fail
    refine CS.out.mono ?_
    clear CS
    rintro r w10 ⟨rfl, T10, v10, hl10, hs10⟩
    have HE : Hid (PutsE w0 T x V e U n c k (.returned (.tuple #[])) w10) := Hid.mk (by
      obtain ⟨u1, u2, u3⟩ := HPU.out
      rw [u1, u2, u3] at hl10
      exact ⟨rfl, T10, _, hl10, rfl, fun j hj => hs10 j (.inl (.inl (HTT.out j hj)))⟩)
    clear hl10 hs10
    go_wp2
    go_end0
    exact HE.out
end
end Go.Proofs.Ytifmpcldiimdbaa
