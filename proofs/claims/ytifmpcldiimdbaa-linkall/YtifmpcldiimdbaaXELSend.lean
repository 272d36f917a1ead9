/- LinkAll: behind whatever script of up to 150 acts on a line of two ends, once all that an end sends again comes, in whatever order, all that was put has come and nothing waits: for every epochs, script and turn. -/
import Derived.Test.YtifmpcldiimdbaaXELine
namespace Go.Proofs.Ytifmpcldiimdbaa
open Go.RowKit Go.Shelf

def sendU (u l : List (List UInt8)) : List (List UInt8) := if u.length < 300 then u ++ l else u
section
variable {w0 : World} {T : Nat → Prop} {W W' : World} {x : Nat} {V : LV} {e : Nat → En} {U : Nat → List (List UInt8)} {n c : Nat → Nat}
/-- Lines that differ in what is under way to k alone. -/
def SndE (w0 : World) (T : Nat → Prop) (x : Nat) (V : LV) (e : Nat → En) (U : Nat → List (List UInt8)) (n c : Nat → Nat) (k : Nat) (l : List (List UInt8)) (r : Ending) (w' : World) : Prop :=
  r = .returned (.tuple #[]) ∧ ∃ T' v', LnB w0 T' w' x { V with u := upd V.u k v' } e (upd U k (sendU (U k) l)) n c ∧ ∀ j, T j → T' j
theorem upd_self {α : Type} (f : Nat → α) (k : Nat) : upd f k (f k) = f := by
  funext j
  unfold upd
  split
  · rename_i h; rw [h]
  · rfl
theorem txr_cells {w : World} {v : Value} {l : List (List UInt8)} (h : TxR T w v l) : ∃ ao cap, v = .slice ao l.length cap ∧ (ao = none → l.length = 0 ∧ cap = 0) ∧ l.length ≤ cap ∧ ∀ ad, ao = some ad → ∀ (j : Nat) u, (strCs l)[j]? = some u → w.cell? (ad.add j) = some u := by
  obtain ⟨ao, cap, e, h0, h1, h⟩ := h
  refine ⟨ao, cap, e, h0, h1, fun ad had j u hj => ?_⟩
  rcases h with rfl | ⟨g, o, cur, e1, e2, e3, e4⟩
  · simp [strCs] at hj
  · rw [e1] at had
    injection had with had
    subst had
    rw [strCs, List.getElem?_map] at hj
    obtain ⟨t, ht, rfl⟩ := Option.map_eq_some_iff.1 hj
    have ea : (⟨g, o, none⟩ : Addr).add j = ⟨g, o + j, none⟩ := by cases j <;> simp [Addr.add]
    rw [ea]
    simp only [World.cell?, e3]
    exact e4 j t ht
theorem str_one (l : List (List UInt8)) : ∀ u ∈ strCs l, u.oneCell' = true := by
  intro u hu
  obtain ⟨t, _, rfl⟩ := List.mem_map.1 hu
  rfl
theorem str_len (l : List (List UInt8)) : (strCs l).length = l.length * 1 := by simp [strCs]
theorem LnB.ne (h : LnB w0 T W x V e U n c) (i : Nat) (v : Value) : ∀ {g : Nat} {cur : Array Value} {t : TypeId}, W.heap[g]? = some (.cells cur t (0, 0)) → t ≠ 63 → (W.setCell ⟨x, i, none⟩ v).heap[g]? = some (.cells cur t (0, 0)) := fun {g cur t} hg ht => (set1_other (fun e => by
    have hb := h.blk
    rw [← e, hg] at hb
    simp only [Option.some.injEq, Obj.cells.injEq] at hb
    exact ht hb.2.1) v).trans hg
theorem LnB.blkset (h : LnB w0 T W x V e U n c) (i : Nat) (v : Value) : (W.setCell ⟨x, i, none⟩ v).heap[x]? = some (.cells ((lnC V).setIfInBounds i v) 63 (0, 0)) := by
  simp [World.setCell, Array.getElem?_modify, h.blk]
/-- The slice of what is under way to k is another. -/
theorem LnB.setu (h : LnB w0 T W x V e U n c) {k : Nat} (hk : k < 2) {v : Value} {l : List (List UInt8)} (hv : TxR T W v l) : LnB w0 T (W.setCell ⟨x, 2 + k, none⟩ v) x { V with u := upd V.u k v } e (upd U k l) n c :=
  { blk := by rw [h.blkset, lnC_setu V hk], two := h.two.set h.xT v, low := fun j hj => by simpa using h.low j hj, sub := h.sub, bel := h.bel.setCell (p := ⟨x, 2 + k, none⟩) h.x1 v, xT := h.xT, x1 := h.x1
    tu := fun j hj => by
      simp only
      by_cases e : j = k
      · subst e
        rw [upd_same, upd_same]
        exact hv.keep (fun g cur hg ho => ⟨hg, h.ne _ _ ho (by decide)⟩)
      · rw [upd_ne e, upd_ne e]
        exact (h.tu j hj).keep (fun g cur hg ho => ⟨hg, h.ne _ _ ho (by decide)⟩)
    rp := fun j hj => ⟨own_keep (h.rp j hj).1 (fun g cur _ ho => h.ne _ _ ho (by decide)), (h.rp j hj).2⟩
    rc := fun j hj => ⟨own_keep (h.rc j hj).1 (fun g cur _ ho => h.ne _ _ ho (by decide)), (h.rc j hj).2⟩
    dpp := h.dpp, dcc := h.dcc, dpc := h.dpc }
set_option maxRecDepth 100000 in
set_option maxHeartbeats 1000000 in
theorem sends_any (h : LnB w0 T W x V e U n c) {k : Nat} (hk : k < 2) (v : Value) (l : List (List UInt8)) (hv : TxR T W v l) (hl : l.length ≤ 100) :
    Calls Try.prog 27 #[.pointer (some ⟨x, 0, none⟩), .int .i64 (k : Int), v] W (SndE w0 T x V e U n c k l) := by
  obtain ⟨i0, hi0, hz0, hz1, hz2⟩ := info_partsE infoT
  obtain ⟨ao, cap, hu, hu0, hu1, huc⟩ := txr_cells (h.tu k hk)
  obtain ⟨bo, bcap, hv', hv0, hv1, hvc⟩ := txr_cells hv
  obtain ⟨q0, q1⟩ := h.cells _ _ (lnC_u V hk)
  rw [hu] at q0
  subst hv'
  have hkI : (k : Int) < 2 := by omega
  have H := Hid.mk h
  have HV := Hid.mk hv
  obtain ⟨m, hm⟩ : ∃ m, (U k).length = m := ⟨_, rfl⟩
  rw [hm] at q0 hu0 hu1
  have HM := Hid.mk hm
  have HUV := Hid.mk hu
  have HUC := Hid.mk huc
  have HU0 := Hid.mk hu0
  have HV0 := Hid.mk hv0
  have HVC := Hid.mk hvc
  clear h hv hm hu huc hu0 hv0 hvc
  by_cases h3 : m < 300
  · have h3I : (m : Int) < 300 := by omega
    go_enter Try.func27, Try.ntmps27
    go_wp2_with (refine wpList_append_all rfl _ _ rfl Try.underlying27 hi0 hz0 hz1 hz2 rfl (by decide) (by rfl) (World.ownsRow_nil W W.heap.size 9 1) ao (strCs (U k)) m cap (by rfl) ?d0 HU0.out HUC.out (str_one _) ?d1 ?d2 ?d3 ?_)
    case d0 => rw [str_len, HM.out]
    case d1 => unfold maxLen; omega
    case d2 => omega
    case d3 => exact Nat.le_refl _
    intro v1 w1 hown1 hg1 hv1'
    obtain ⟨va, vc, hv1s⟩ := own_slice hown1
    subst hv1s
    have hb1 : Below W.heap.size W w1 := ⟨hg1.os, hg1.tape, hg1.output, hg1.size, fun j hj => hg1.block j hj (by simp [Value.ownBlock])⟩
    have HO1 : Hid (w1.drew.ownsRow W.heap.size 9 1 (.slice va m vc) m (strCs (U k))) := Hid.mk hown1
    have HVC1 : Hid (∀ ad, bo = some ad → ∀ (j : Nat) u, (strCs l)[j]? = some u → w1.drew.cell? (ad.add j) = some u) := Hid.mk (fun ad had j u hj => by
      have h := HVC.out ad had j u hj
      exact (hb1.cell (p := ad.add j) (World.block_lt_of_cell? _ _ h)).trans h)
    have HZ1 : Hid (W.heap.size ≤ w1.drew.heap.size) := Hid.mk hb1.size
    have HBW : Hid (∀ w2, w1.drew.grownBy w2 (Value.slice va m vc).ownBlock → Below W.heap.size W w2) := Hid.mk (fun w2 hg => ⟨hg.os.trans hb1.os, hg.tape.trans hb1.tape, hg.output.trans hb1.output, Nat.le_trans hb1.size hg.size, fun j hj => (hg.block j (Nat.lt_of_lt_of_le hj hb1.size) (fun e => by have := (hown1.lt j e.symm).1; omega)).trans (hb1.block j hj)⟩)
    clear hown1 hg1 hv1' hb1 q0 q1
    go_wp2_with fail
    refine wp_region_held_drew (S := fun u => True) (by kernel_rfl) ?_ (fun hHeld => ?_)
    · exact trivial
    refine wpAnyH_take (i := 0) (oi := { dst := some 23, op := Go.Op.move (Go.Operand.tmp 0), type := 57, pos := "law.go:162", after := #[], guard := none }) (v := ?_) rfl (by kernel_rfl) (by kernel_rfl) (by kernel_rfl) (fun _ _ _ h => h) (Or.inl ⟨by rfl, ?_⟩) hHeld ?_
    rotate_left 1
    · intro W hSw
      obtain - := hSw
      go_simp
      try with_reducible rfl
    simp only [Act.put, List.setIfInBounds_toArray, List.set_cons_zero, List.set_cons_succ]
    refine wpAnyH_take (i := 1) (oi := { dst := some 24, op := Go.Op.move (Go.Operand.tmp 1), type := 3, pos := "law.go:162", after := #[], guard := none }) (v := ?_) rfl (by kernel_rfl) (by kernel_rfl) (by kernel_rfl) (fun _ _ _ h => h) (Or.inl ⟨by rfl, ?_⟩) hHeld ?_
    rotate_left 1
    · intro W hSw
      obtain - := hSw
      go_simp
      try with_reducible rfl
    simp only [Act.put, List.setIfInBounds_toArray, List.set_cons_zero, List.set_cons_succ]
    refine wpAnyH_take (i := 2) (oi := { dst := some 25, op := Go.Op.move (Go.Operand.tmp 6), type := 27, pos := "law.go:162", after := #[], guard := none }) (v := ?_) rfl (by kernel_rfl) (by kernel_rfl) (by kernel_rfl) (fun _ _ _ h => h) (Or.inl ⟨by rfl, ?_⟩) hHeld ?_
    rotate_left 1
    · intro W hSw
      obtain - := hSw
      go_simp
      try with_reducible rfl
    simp only [Act.put, List.setIfInBounds_toArray, List.set_cons_zero, List.set_cons_succ]
    refine wpAnyH_take (i := 3) (oi := { dst := some 26, op := Go.Op.move (Go.Operand.tmp 2), type := 27, pos := "law.go:162", after := #[], guard := none }) (v := ?_) rfl (by kernel_rfl) (by kernel_rfl) (by kernel_rfl) (fun _ _ _ h => h) (Or.inl ⟨by rfl, ?_⟩) hHeld ?_
    rotate_left 1
    · intro W hSw
      obtain - := hSw
      go_simp
      try with_reducible rfl
    simp only [Act.put, List.setIfInBounds_toArray, List.set_cons_zero, List.set_cons_succ]
    refine wpAnyH_take (i := 5) (oi := { dst := some 28, op := Go.Op.nilCheck (Go.Operand.tmp 23), type := 0, pos := "law.go:162", after := #[{ on := 0, ground := Go.Ground.data }], guard := none }) (v := ?_) rfl (by kernel_rfl) (by kernel_rfl) (by kernel_rfl) (fun _ _ _ h => h) (Or.inl ⟨by rfl, ?_⟩) hHeld ?_
    rotate_left 1
    · intro W hSw
      obtain - := hSw
      go_simp
      try with_reducible rfl
    simp only [Act.put, List.setIfInBounds_toArray, List.set_cons_zero, List.set_cons_succ]
    refine wpAnyH_take (i := 6) (oi := { dst := some 29, op := Go.Op.fieldAddr 63 (Go.Operand.tmp 28) 1, type := 0, pos := "law.go:162", after := #[{ on := 5, ground := Go.Ground.data }], guard := none }) (v := ?_) rfl (by kernel_rfl) (by kernel_rfl) (by kernel_rfl) (fun _ _ _ h => h) (Or.inl ⟨by rfl, ?_⟩) hHeld ?_
    rotate_left 1
    · intro W hSw
      obtain - := hSw
      go_simp
      try with_reducible rfl
    simp only [Act.put, List.setIfInBounds_toArray, List.set_cons_zero, List.set_cons_succ]
    refine wpAnyH_ready (rs := [4]) (by kernel_rfl) (by simp) ?_
    refine AllReadyH.cons (o := { dst := some 27, op := Go.Op.call { callee := Go.Callee.builtin Go.Builtin.append, args := #[Go.Operand.tmp 25, Go.Operand.tmp 26], argTypes := #[27, 27] }, type := 27, pos := "law.go:162", after := #[{ on := 2, ground := Go.Ground.data }, { on := 3, ground := Go.Ground.data }], guard := none }) rfl (fun K hK => ?_) AllReadyH.nil
    refine step_append_all (by rfl) _ _ (by rfl) Try.underlying27 hi0 hz0 hz1 hz2 rfl (by decide) (by rfl) HO1.out bo (strCs l) l.length bcap (by rfl) (str_len l) HV0.out HVC1.out (str_one l) (by unfold maxLen; omega) (by omega) HZ1.out ?_
    intro v2 w2 hown2 hg2 hv2
    have HB2 : Hid (Below W.heap.size W w2) := Hid.mk (HBW.out w2 hg2)
    obtain ⟨va2, vc2, hv2s⟩ := own_slice hown2
    subst hv2s
    have HO2 : Hid (w2.ownsRow W.heap.size 9 1 (.slice va2 (m + l.length) vc2) (m + l.length) (strCs (U k) ++ strCs l)) := Hid.mk hown2
    obtain ⟨q2, q3⟩ := (H.out.nw HB2.out).cells _ _ (lnC_u V hk)
    clear hown2 hg2 hv2
    refine hK.out _ _ trivial (fun hHeld => ?_)
    clear hK K
    refine wpAnyH_take (i := 7) (oi := { dst := some 30, op := Go.Op.indexAddr 60 (Go.Operand.tmp 29) (Go.Operand.tmp 24), type := 0, pos := "law.go:162", after := #[{ on := 6, ground := Go.Ground.data }, { on := 1, ground := Go.Ground.data }, { on := 0, ground := Go.Ground.phase }, { on := 1, ground := Go.Ground.phase }, { on := 2, ground := Go.Ground.phase }, { on := 3, ground := Go.Ground.phase }, { on := 4, ground := Go.Ground.phase }], guard := none }) (v := ?_) rfl (by kernel_rfl) (by kernel_rfl) (by kernel_rfl) (fun _ _ _ h => h) (Or.inl ⟨by rfl, ?_⟩) hHeld ?_
    rotate_left 1
    · intro W hSw
      obtain - := hSw
      go_simp
      try with_reducible rfl
    simp only [Act.put, List.setIfInBounds_toArray, List.set_cons_zero, List.set_cons_succ]
    refine wpAnyH_ready (rs := [8]) (by kernel_rfl) (by simp) ?_
    refine AllReadyH.cons (o := { dst := none, op := Go.Op.store 27 (Go.Operand.tmp 30) (Go.Operand.tmp 27), type := 0, pos := "law.go:162", after := #[{ on := 7, ground := Go.Ground.data }, { on := 4, ground := Go.Ground.data }, { on := 4, ground := Go.Ground.chain }, { on := 0, ground := Go.Ground.phase }, { on := 1, ground := Go.Ground.phase }, { on := 2, ground := Go.Ground.phase }, { on := 3, ground := Go.Ground.phase }, { on := 4, ground := Go.Ground.phase }], guard := none }) rfl (fun K hK => ?_) AllReadyH.nil
    go_simp
    refine hK.out _ _ trivial (fun hHeld => ?_)
    clear hK K
    refine wpAnyH_done (by kernel_rfl) ?_ _
    have HE : Hid (SndE w0 T x V e U n c k l (.returned (.tuple #[])) (w2.setCell ⟨x, 2 + k, none⟩ (.slice va2 (m + l.length) vc2))) := Hid.mk (by
      refine ⟨rfl, Nw T W w2, .slice va2 (m + l.length) vc2, ?_, fun _ hj => .inl hj⟩
      have hs : sendU (U k) l = U k ++ l := by rw [sendU, if_pos (by rw [HM.out]; exact h3)]
      rw [hs]
      refine (H.out.nw HB2.out).setu hk (TxR.own (B := W.heap.size) ?_ (fun g hg => .inr (HO2.out.lt g hg)))
      have ho := HO2.out
      rw [List.length_append, HM.out]
      have : strCs (U k ++ l) = strCs (U k) ++ strCs l := by simp [strCs]
      rw [this]
      exact ho)
    go_wp2
    go_end0
    exact HE.out
  · have h3I : ¬ (m : Int) < 300 := by omega
    have HE : Hid (SndE w0 T x V e U n c k l (.returned (.tuple #[])) W) := Hid.mk ⟨rfl, T, V.u k, by
      rw [upd_self]
      have : sendU (U k) l = U k := by rw [sendU, if_neg (by rw [HM.out]; exact h3)]
      rw [this, upd_self]
      exact H.out, fun _ hj => hj⟩
    go_enter Try.func27, Try.ntmps27
    go_wp2
    go_end0
    exact HE.out
end
end Go.Proofs.Ytifmpcldiimdbaa
