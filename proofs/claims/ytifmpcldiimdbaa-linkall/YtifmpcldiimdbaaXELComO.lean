/- LinkAll: behind whatever script of up to 150 acts on a line of two ends, once all that an end sends again comes, in whatever order, all that was put has come and nothing waits: for every epochs, script and turn. -/
import Derived.Test.YtifmpcldiimdbaaXELComT
namespace Go.Proofs.Ytifmpcldiimdbaa
open Go.RowKit Go.Shelf

section
variable {w0 : World} {T : Nat → Prop} {W W' : World} {x : Nat} {V : LV} {e : Nat → En} {U : Nat → List (List UInt8)} {n c : Nat → Nat}
set_option maxRecDepth 100000 in
set_option maxHeartbeats 2000000 in
theorem comes_once (h : LnB w0 T W x V e U n c) {k : Nat} (hk : k < 2) (z : Int) (h0 : U k ≠ []) (hA : ∀ s ∈ U k, ∃ f' ns ps, takeE (e k) s = (f', ns, ps, false) ∧ (ns = [] ∨ ns = [nk 5 (c k)])) (hsh : ∀ s ∈ U k, s.length ≤ 1048584) (hm : (U k).length ≤ 1000) (hc : c k ≤ 1000) :
    Calls Try.prog 28 #[.pointer (some ⟨x, 0, none⟩), .int .i64 (k : Int), .int .i64 z, .bool false] W (ComE w0 T x V e U n c k false) := by
  have h0l : (U k).length ≠ 0 := fun hh => h0 (List.length_eq_zero_iff.1 hh)
  obtain ⟨i0, hi0, hz0, hz1, hz2⟩ := info_partsE infoT
  obtain ⟨j0, ji0, jz0, jz1, jz2⟩ := info_partsE infoI
  obtain ⟨ao, cap, hu, hu0, hu1, huc⟩ := txr_cells (h.tu k hk)
  obtain ⟨q0, q1⟩ := h.cells _ _ (lnC_u V hk)
  have HUT := Hid.mk (h.tu k hk)
  rw [hu] at q0 HUT
  obtain ⟨k2', hk2'⟩ : ∃ j, 1 - k = j := ⟨_, rfl⟩
  have hk2 : k2' < 2 := by omega
  have hkI : (k : Int) < 2 := by omega
  have h1k : (1 : Int) - (k : Int) = (k2' : Int) := by omega
  obtain ⟨m0, hm0⟩ : ∃ m0, (U k).length = m0 := ⟨_, rfl⟩
  have HM := Hid.mk hm0
  have HC1 := Hid.mk hc
  have HK2 : Hid (k2' = 1 - k) := Hid.mk hk2'.symm
  rw [hm0] at q0 hu0 hu1 hm
  obtain ⟨i, hi, him⟩ := mask16_mod z m0 (by omega)
  have hiI : (i : Int) < (m0 : Int) := by omega
  have hmI : ¬ (m0 : Int) = 0 := by omega
  have hmI2 : ((m0 : Int) == 0) = false := by simpa using hmI
  have hmIp : (0 : Int) < (m0 : Int) := by omega
  obtain ⟨s, hs⟩ : ∃ s, (U k)[i]? = some s := ⟨_, List.getElem?_eq_getElem (by omega)⟩
  obtain ⟨g, o1, hao, hcs⟩ := HUT.out.get hs
  have hsm : s ∈ U k := List.mem_of_getElem? hs
  have HSL := Hid.mk (hsh s hsm)
  obtain ⟨f', ns, ps, htk, hns⟩ := hA s hsm
  have HTK := Hid.mk htk
  have HNS := Hid.mk hns
  have HNL : Hid (ns.length ≤ 1) := Hid.mk (by rcases hns with rfl | rfl <;> simp)
  have HSI := Hid.mk hs
  have H := Hid.mk h
  subst hao
  have HUV : Hid (V.u k = .slice (some ⟨g, o1, none⟩) m0 cap) := Hid.mk (by rw [hu, HM.out])
  obtain ⟨ht0, htc⟩ := txr_take HUT.out (i := i) (by omega)
  obtain ⟨g', o', hgo, hdc⟩ := txr_drop HUT.out (i := i) (by omega)
  obtain ⟨i1, hi1⟩ : ∃ i1, i + 1 = i1 := ⟨_, rfl⟩
  have hwr : IntKind.i64.wrap ((i : Int) + 1) = (i1 : Int) := by rw [IntKind.wrap_i64]; omega
  have hle1 : (i1 : Int) ≤ (m0 : Int) := by omega
  have hle2 : i1 ≤ m0 := by omega
  have HT0 := Hid.mk ht0
  have HTC := Hid.mk htc
  have HTL : Hid ((strCs ((U k).take i)).length = i * 1) := Hid.mk (by rw [str_len, List.length_take]; omega)
  have HDL : Hid ((strCs ((U k).drop (i + 1))).length = (m0 - i1) * 1) := Hid.mk (by rw [str_len, List.length_drop]; omega)
  injection hgo with hgo
  injection hgo with hg1 hg2
  subst hg1 hg2
  have HDC := Hid.mk hdc
  have HI1 := Hid.mk hi1
  clear ht0 htc hdc hi1
  clear h hu hu0 huc hm0 hk2' hs hsm hsh htk hns hA h0 h0l hc
  go_enter Try.func28, Try.ntmps28
  go_wp2_with (refine wpList_append_all rfl _ _ rfl Try.underlying27 hi0 hz0 hz1 hz2 rfl (by decide) (by rfl) (World.ownsRow_nil W W.heap.size 9 1) (some ⟨g, o1, none⟩) (strCs ((U k).take i)) i cap (by rfl) HTL.out HT0.out HTC.out (str_one _) ?d1 ?d2 ?d3 ?_)
  case d1 => unfold maxLen; omega
  case d2 => omega
  intro v1 w1 hown1 hg1 hv1'
  obtain ⟨va, vc, hv1s⟩ := own_slice hown1
  subst hv1s
  have hb1 : Below W.heap.size W w1 := ⟨hg1.os, hg1.tape, hg1.output, hg1.size, fun j hj => hg1.block j hj (by simp [Value.ownBlock])⟩
  have HO1 : Hid (w1.drew.ownsRow W.heap.size 9 1 (.slice va i vc) i (strCs ((U k).take i))) := Hid.mk hown1
  have HZ1 : Hid (W.heap.size ≤ w1.drew.heap.size) := Hid.mk hb1.size
  have HBW : Hid (∀ w2, w1.drew.grownBy w2 (Value.slice va i vc).ownBlock → Below W.heap.size W w2) := Hid.mk (fun w2 hg => ⟨hg.os.trans hb1.os, hg.tape.trans hb1.tape, hg.output.trans hb1.output, Nat.le_trans hb1.size hg.size, fun j hj => (hg.block j (Nat.lt_of_lt_of_le hj hb1.size) (fun e => by have := (hown1.lt j e.symm).1; omega)).trans (hb1.block j hj)⟩)
  obtain ⟨q2, q3⟩ := (H.out.nw hb1).cells _ _ (lnC_u V hk)
  rw [HUV.out] at q2
  have HB1 := Hid.mk hb1
  clear hown1 hg1 hv1' hb1
  by_cases hcap : cap = i1
  · subst hcap
    have HDC1 : Hid (∀ ad, ((some ⟨g, o1, none⟩) : Option Addr) = some ad → ∀ (j : Nat) u, (strCs ((U k).drop (i + 1)))[j]? = some u → w1.drew.cell? (ad.add j) = some u) := Hid.mk (fun ad had j u hj => by
      have hl : (strCs ((U k).drop (i + 1))).length = 0 := by have := HDL.out; omega
      have := (List.getElem?_eq_some_iff.1 hj).1
      omega)
    have HLX : Hid (m0 ≤ cap) := Hid.mk hu1
    have HDLx : Hid ((strCs ((U k).drop (i + 1))).length = 0 * 1) := Hid.mk (by have := HDL.out; omega)
    go_wp2_with fail
    refine wp_region_held_drew (S := fun u => True) (by kernel_rfl) ?_ (fun hHeld => ?_)
    · exact trivial
    refine wpAnyH_take (i := 0) (oi := { dst := some 51, op := Go.Op.move (Go.Operand.tmp 0), type := 57, pos := "law.go:187", after := #[], guard := none }) (v := ?_) rfl (by kernel_rfl) (by kernel_rfl) (by kernel_rfl) (fun _ _ _ h => h) (Or.inl ⟨by rfl, ?_⟩) hHeld ?_
    rotate_left 1
    · intro W hSw
      obtain - := hSw
      go_simp
      try with_reducible rfl
    simp only [Act.put, List.setIfInBounds_toArray, List.set_cons_zero, List.set_cons_succ]
    refine wpAnyH_take (i := 1) (oi := { dst := some 52, op := Go.Op.move (Go.Operand.tmp 1), type := 3, pos := "law.go:187", after := #[], guard := none }) (v := ?_) rfl (by kernel_rfl) (by kernel_rfl) (by kernel_rfl) (fun _ _ _ h => h) (Or.inl ⟨by rfl, ?_⟩) hHeld ?_
    rotate_left 1
    · intro W hSw
      obtain - := hSw
      go_simp
      try with_reducible rfl
    simp only [Act.put, List.setIfInBounds_toArray, List.set_cons_zero, List.set_cons_succ]
    refine wpAnyH_take (i := 2) (oi := { dst := some 53, op := Go.Op.move (Go.Operand.tmp 9), type := 27, pos := "law.go:187", after := #[], guard := none }) (v := ?_) rfl (by kernel_rfl) (by kernel_rfl) (by kernel_rfl) (fun _ _ _ h => h) (Or.inl ⟨by rfl, ?_⟩) hHeld ?_
    rotate_left 1
    · intro W hSw
      obtain - := hSw
      go_simp
      try with_reducible rfl
    simp only [Act.put, List.setIfInBounds_toArray, List.set_cons_zero, List.set_cons_succ]
    refine wpAnyH_take (i := 3) (oi := { dst := some 54, op := Go.Op.move (Go.Operand.tmp 0), type := 57, pos := "law.go:187", after := #[], guard := none }) (v := ?_) rfl (by kernel_rfl) (by kernel_rfl) (by kernel_rfl) (fun _ _ _ h => h) (Or.inl ⟨by rfl, ?_⟩) hHeld ?_
    rotate_left 1
    · intro W hSw
      obtain - := hSw
      go_simp
      try with_reducible rfl
    simp only [Act.put, List.setIfInBounds_toArray, List.set_cons_zero, List.set_cons_succ]
    refine wpAnyH_take (i := 4) (oi := { dst := some 55, op := Go.Op.move (Go.Operand.tmp 1), type := 3, pos := "law.go:187", after := #[], guard := none }) (v := ?_) rfl (by kernel_rfl) (by kernel_rfl) (by kernel_rfl) (fun _ _ _ h => h) (Or.inl ⟨by rfl, ?_⟩) hHeld ?_
    rotate_left 1
    · intro W hSw
      obtain - := hSw
      go_simp
      try with_reducible rfl
    simp only [Act.put, List.setIfInBounds_toArray, List.set_cons_zero, List.set_cons_succ]
    refine wpAnyH_take (i := 5) (oi := { dst := some 56, op := Go.Op.nilCheck (Go.Operand.tmp 54), type := 0, pos := "law.go:187", after := #[{ on := 3, ground := Go.Ground.data }], guard := none }) (v := ?_) rfl (by kernel_rfl) (by kernel_rfl) (by kernel_rfl) (fun _ _ _ h => h) (Or.inl ⟨by rfl, ?_⟩) hHeld ?_
    rotate_left 1
    · intro W hSw
      obtain - := hSw
      go_simp
      try with_reducible rfl
    simp only [Act.put, List.setIfInBounds_toArray, List.set_cons_zero, List.set_cons_succ]
    refine wpAnyH_take (i := 6) (oi := { dst := some 57, op := Go.Op.fieldAddr 63 (Go.Operand.tmp 56) 1, type := 0, pos := "law.go:187", after := #[{ on := 5, ground := Go.Ground.data }], guard := none }) (v := ?_) rfl (by kernel_rfl) (by kernel_rfl) (by kernel_rfl) (fun _ _ _ h => h) (Or.inl ⟨by rfl, ?_⟩) hHeld ?_
    rotate_left 1
    · intro W hSw
      obtain - := hSw
      go_simp
      try with_reducible rfl
    simp only [Act.put, List.setIfInBounds_toArray, List.set_cons_zero, List.set_cons_succ]
    refine wpAnyH_take (i := 7) (oi := { dst := some 58, op := Go.Op.indexAddr 60 (Go.Operand.tmp 57) (Go.Operand.tmp 55), type := 0, pos := "law.go:187", after := #[{ on := 6, ground := Go.Ground.data }, { on := 4, ground := Go.Ground.data }], guard := none }) (v := ?_) rfl (by kernel_rfl) (by kernel_rfl) (by kernel_rfl) (fun _ _ _ h => h) (Or.inl ⟨by rfl, ?_⟩) hHeld ?_
    rotate_left 1
    · intro W hSw
      obtain - := hSw
      go_simp
      try with_reducible rfl
    simp only [Act.put, List.setIfInBounds_toArray, List.set_cons_zero, List.set_cons_succ]
    refine wpAnyH_take (i := 9) (oi := { dst := some 60, op := Go.Op.move (Go.Operand.tmp 2), type := 3, pos := "law.go:187", after := #[], guard := none }) (v := ?_) rfl (by kernel_rfl) (by kernel_rfl) (by kernel_rfl) (fun _ _ _ h => h) (Or.inl ⟨by rfl, ?_⟩) hHeld ?_
    rotate_left 1
    · intro W hSw
      obtain - := hSw
      go_simp
      try with_reducible rfl
    simp only [Act.put, List.setIfInBounds_toArray, List.set_cons_zero, List.set_cons_succ]
    refine wpAnyH_take (i := 10) (oi := { dst := some 61, op := Go.Op.binOp Go.BinOp.add 3 (Go.Operand.tmp 60) (Go.Operand.const (Go.Value.int Go.IntKind.i64 1)) 3, type := 3, pos := "law.go:187", after := #[{ on := 9, ground := Go.Ground.data }], guard := none }) (v := ?_) rfl (by kernel_rfl) (by kernel_rfl) (by kernel_rfl) (fun _ _ _ h => h) (Or.inl ⟨by rfl, ?_⟩) hHeld ?_
    rotate_left 1
    · intro W hSw
      obtain - := hSw
      go_simp
      try with_reducible rfl
    simp only [Act.put, List.setIfInBounds_toArray, List.set_cons_zero, List.set_cons_succ]
    refine wpAnyH_take (i := 13) (oi := { dst := some 64, op := Go.Op.nilCheck (Go.Operand.tmp 51), type := 0, pos := "law.go:187", after := #[{ on := 0, ground := Go.Ground.data }], guard := none }) (v := ?_) rfl (by kernel_rfl) (by kernel_rfl) (by kernel_rfl) (fun _ _ _ h => h) (Or.inl ⟨by rfl, ?_⟩) hHeld ?_
    rotate_left 1
    · intro W hSw
      obtain - := hSw
      go_simp
      try with_reducible rfl
    simp only [Act.put, List.setIfInBounds_toArray, List.set_cons_zero, List.set_cons_succ]
    refine wpAnyH_take (i := 14) (oi := { dst := some 65, op := Go.Op.fieldAddr 63 (Go.Operand.tmp 64) 1, type := 0, pos := "law.go:187", after := #[{ on := 13, ground := Go.Ground.data }], guard := none }) (v := ?_) rfl (by kernel_rfl) (by kernel_rfl) (by kernel_rfl) (fun _ _ _ h => h) (Or.inl ⟨by rfl, ?_⟩) hHeld ?_
    rotate_left 1
    · intro W hSw
      obtain - := hSw
      go_simp
      try with_reducible rfl
    simp only [Act.put, List.setIfInBounds_toArray, List.set_cons_zero, List.set_cons_succ]
    refine wpAnyH_ready (rs := [8]) (by kernel_rfl) (by simp) ?_
    refine AllReadyH.cons (o := { dst := some 59, op := Go.Op.load 27 (Go.Operand.tmp 58), type := 27, pos := "law.go:187", after := #[{ on := 7, ground := Go.Ground.data }], guard := none }) rfl (fun K hK => ?_) AllReadyH.nil
    go_simp
    refine hK.out _ _ trivial (fun hHeld => ?_)
    clear hK K
    refine wpAnyH_take (i := 11) (oi := { dst := some 62, op := Go.Op.slice 27 (Go.Operand.tmp 59) (some (Go.Operand.tmp 61)) none none, type := 27, pos := "law.go:187", after := #[{ on := 8, ground := Go.Ground.data }, { on := 10, ground := Go.Ground.data }], guard := none }) (v := ?_) rfl (by kernel_rfl) (by kernel_rfl) (by kernel_rfl) (fun _ _ _ h => h) (Or.inl ⟨by rfl, ?_⟩) hHeld ?_
    rotate_left 1
    · intro W hSw
      obtain - := hSw
      go_simp
      try with_reducible rfl
    simp only [Act.put, List.setIfInBounds_toArray, List.set_cons_zero, List.set_cons_succ]
    refine wpAnyH_ready (rs := [12]) (by kernel_rfl) (by simp) ?_
    refine AllReadyH.cons (o := { dst := some 63, op := Go.Op.call { callee := Go.Callee.builtin Go.Builtin.append, args := #[Go.Operand.tmp 53, Go.Operand.tmp 62], argTypes := #[27, 27] }, type := 27, pos := "law.go:187", after := #[{ on := 2, ground := Go.Ground.data }, { on := 11, ground := Go.Ground.data }], guard := none }) rfl (fun K hK => ?_) AllReadyH.nil
    refine step_append_all (by rfl) _ _ (by rfl) Try.underlying27 hi0 hz0 hz1 hz2 rfl (by decide) (by rfl) HO1.out (some ⟨g, o1, none⟩) (strCs ((U k).drop (i + 1))) 0 0 (by rfl) HDLx.out (fun h => by cases h) HDC1.out (str_one _) (by unfold maxLen; omega) (by omega) HZ1.out ?_
    intro v2 w2 hown2' hg2 hv2
    have hown2 : w2.ownsRow W.heap.size 9 1 v2 i (strCs ((U k).take i) ++ strCs ((U k).drop (i + 1))) := hown2'
    have HB2 : Hid (Below W.heap.size W w2) := Hid.mk (HBW.out w2 hg2)
    obtain ⟨va2, vc2, hv2s⟩ := own_slice hown2
    subst hv2s
    have HO2 : Hid (w2.ownsRow W.heap.size 9 1 (.slice va2 i vc2) i (strCs ((U k).take i) ++ strCs ((U k).drop (i + 1)))) := Hid.mk hown2
    obtain ⟨q2, q3⟩ := (H.out.nw HB2.out).cells _ _ (lnC_u V hk)
    clear hown2 hown2' hg2 hv2
    refine hK.out _ _ trivial (fun hHeld => ?_)
    clear hK K
    refine wpAnyH_take (i := 15) (oi := { dst := some 66, op := Go.Op.indexAddr 60 (Go.Operand.tmp 65) (Go.Operand.tmp 52), type := 0, pos := "law.go:187", after := #[{ on := 14, ground := Go.Ground.data }, { on := 1, ground := Go.Ground.data }, { on := 0, ground := Go.Ground.phase }, { on := 1, ground := Go.Ground.phase }, { on := 2, ground := Go.Ground.phase }, { on := 3, ground := Go.Ground.phase }, { on := 4, ground := Go.Ground.phase }, { on := 5, ground := Go.Ground.phase }, { on := 6, ground := Go.Ground.phase }, { on := 7, ground := Go.Ground.phase }, { on := 8, ground := Go.Ground.phase }, { on := 9, ground := Go.Ground.phase }, { on := 10, ground := Go.Ground.phase }, { on := 11, ground := Go.Ground.phase }, { on := 12, ground := Go.Ground.phase }], guard := none }) (v := ?_) rfl (by kernel_rfl) (by kernel_rfl) (by kernel_rfl) (fun _ _ _ h => h) (Or.inl ⟨by rfl, ?_⟩) hHeld ?_
    rotate_left 1
    · intro W hSw
      obtain - := hSw
      go_simp
      try with_reducible rfl
    simp only [Act.put, List.setIfInBounds_toArray, List.set_cons_zero, List.set_cons_succ]
    refine wpAnyH_ready (rs := [16]) (by kernel_rfl) (by simp) ?_
    refine AllReadyH.cons (o := { dst := none, op := Go.Op.store 27 (Go.Operand.tmp 66) (Go.Operand.tmp 63), type := 0, pos := "law.go:187", after := #[{ on := 15, ground := Go.Ground.data }, { on := 12, ground := Go.Ground.data }, { on := 12, ground := Go.Ground.chain }, { on := 0, ground := Go.Ground.phase }, { on := 1, ground := Go.Ground.phase }, { on := 2, ground := Go.Ground.phase }, { on := 3, ground := Go.Ground.phase }, { on := 4, ground := Go.Ground.phase }, { on := 5, ground := Go.Ground.phase }, { on := 6, ground := Go.Ground.phase }, { on := 7, ground := Go.Ground.phase }, { on := 8, ground := Go.Ground.phase }, { on := 9, ground := Go.Ground.phase }, { on := 10, ground := Go.Ground.phase }, { on := 11, ground := Go.Ground.phase }, { on := 12, ground := Go.Ground.phase }], guard := none }) rfl (fun K hK => ?_) AllReadyH.nil
    go_simp
    refine hK.out _ _ trivial (fun hHeld => ?_)
    clear hK K
    refine wpAnyH_done (by kernel_rfl) ?_ _
    have HL9 : Hid (LnB w0 (Nw T W w2) (w2.setCell ⟨x, 2 + k, none⟩ (.slice va2 i vc2)) x { V with u := upd V.u k (.slice va2 i vc2) } e (upd U k ((U k).eraseIdx i)) n c) := Hid.mk (by
      refine (H.out.nw HB2.out).setu hk (TxR.own (B := W.heap.size) ?_ (fun g hg => .inr (HO2.out.lt g hg)))
      have ho := HO2.out
      rw [erase_eq, List.length_append, List.length_take, List.length_drop, HM.out]
      have e1 : min i m0 + (m0 - (i + 1)) = i := by have := HI1.out; have := HLX.out; omega
      have e2 : strCs ((U k).take i ++ (U k).drop (i + 1)) = strCs ((U k).take i) ++ strCs ((U k).drop (i + 1)) := by simp [strCs]
      rw [e1, e2]
      exact ho)
    have CT := Hid.mk (takT_any (HL9.out.at_k hk) HL9.out.low s (by have := HSL.out; omega))
    unfold TakT at CT
    rw [HTK.out] at CT
    obtain ⟨t0, -⟩ := HL9.out.cells _ _ (lnC_end _ hk)
    go_wp2_with fail
    refine CT.out.mono ?_
    clear CT
    rintro r w5 ⟨⟨a0, l0, c0, a1, l1, c1, rfl, hN, hT⟩, ht5, hf5⟩
    have HPL : Hid (ps.length ≤ 1) := Hid.mk (by have := oneT_cells hT; omega)
    obtain ⟨T6, cm6, hs6, hl0⟩ := cm_start hk HL9.out HNS.out hN hT ht5 hf5
    obtain ⟨e', HE'⟩ : ∃ e', Hid (e' = upd e k f') := ⟨_, Hid.mk rfl⟩
    obtain ⟨U', HU'⟩ : ∃ U', Hid (U' = (upd U k ((U k).eraseIdx i))) := ⟨_, Hid.mk rfl⟩
    rw [← HE'.out, ← HU'.out] at cm6
    obtain ⟨⟨x0, x1, x2⟩, -⟩ := three_cells cm6.bxb
    have HCM6 := Hid.mk cm6
    have HL0 := Hid.mk hl0
    have HS6 : Hid (∀ j, T j → T6 j) := Hid.mk (fun j hj => hs6 j (.inl hj))
    have hl01 : l0 ≤ 1 := by rw [hl0]; exact HNL.out
    clear cm6 hs6 hl0 hN hT ht5 hf5 t0 q0 q1 hcs q2 q3
    go_wp2_with fail
    go_loopw [11] (fun cv wr => ∃ (j : Nat) (T' : Nat → Prop) (V' : LV), cv = .int .i64 j ∧ j ≤ l0 ∧ CmI w0 T' wr x V' e' U' n c k w5.heap.size a0 l0 c0 a1 l1 c1 ps j ∧ V'.b = V.b ∧ ∀ g, T g → T' g) (fun cv _ => l0 - (intOf cv).toNat)
    case atStart => exact ⟨0, T6, _, rfl, Nat.zero_le _, HCM6.out, rfl, HS6.out⟩
    case round =>
      obtain ⟨j, T', V', rfl, hj, cm, hvb, hsb⟩ := hrel
      obtain ⟨wy, hwy⟩ : ∃ wy, wy = wr := ⟨_, rfl⟩
      subst hwy
      clear x0 x1 x2 HCM6
      obtain ⟨bx, hbx⟩ : ∃ bx, w5.heap.size = bx := ⟨_, rfl⟩
      rw [hbx] at cm ⊢
      obtain ⟨⟨x0, x1, x2⟩, -⟩ := three_cells cm.bxb
      have HVB := Hid.mk hvb
      have HSB := Hid.mk hsb
      have HCM := Hid.mk cm
      have HBX := Hid.mk hbx
      clear hvb hsb cm hbx
      by_cases hlt : j < l0
      · obtain rfl : j = 0 := by omega
        obtain rfl : l0 = 1 := by omega
        obtain ⟨gp, gi, o, cap, rfl, hp, hgi, -, -⟩ := HCM.out.pay rfl rfl
        obtain ⟨m, hm⟩ : ∃ m, c k = m := ⟨_, rfl⟩
        rw [hm] at hp
        obtain ⟨y0, y1, y2⟩ := hp.cells
        have hln := HCM.out.ln
        rw [upd_zero] at hln
        obtain ⟨pa, pc, hpv⟩ := own_slice (hln.rc k hk).1
        rw [hm] at hpv
        have HP := Hid.mk hpv
        obtain ⟨z0, -⟩ := hln.cells _ _ (lnC_c V' hk)
        rw [hpv] at z0
        have hm1 : m ≤ 1000 := by rw [← hm]; exact HC1.out
        have HS0 := Hid.mk (cms_of HCM.out.bxb hp)
        obtain ⟨hl5, hs5, hmo⟩ := cm_more (WB := (wy.alloc (.cells #[.int .i64 (m : Int)] 3)).drew) hk HCM.out hp hgi hm (below_drewE ((Below.refl _ _).alloc (Nat.le_refl _) _))
        have HS1 := Hid.mk hs5
        have HMO := Hid.mk hmo
        have HO5 : Hid ((wy.alloc (.cells #[.int .i64 (m : Int)] 3)).drew.ownsRow w0.heap.size 3 1 (.slice pa m pc) m (rngC m)) := Hid.mk (by
          have h := (hl5.rc k hk).1
          rw [hpv, hm] at h
          exact h)
        have HNW : Hid (∀ ad, (some ⟨wy.heap.size, 0, none⟩ : Option Addr) = some ad → ∀ (j : Nat) u, [Value.int .i64 (m : Int)][j]? = some u → (wy.alloc (.cells #[.int .i64 (m : Int)] 3)).drew.cell? (ad.add j) = some u) := Hid.mk (fun ad had j u hj => by
          injection had with had
          subst had
          have hj0 : j = 0 := by have := (List.getElem?_eq_some_iff.1 hj).1; simp at this; exact this
          subst hj0
          simp at hj
          subst hj
          exact new_cell wy _ _)
        have HZ5 : Hid (w0.heap.size ≤ (wy.alloc (.cells #[.int .i64 (m : Int)] 3)).drew.heap.size) := Hid.mk (hl5.bel.size)
        have w1 : (wy.alloc (.cells #[.int .i64 (m : Int)] 3)).cell? ⟨x, 6 + k, none⟩ = some (.slice pa m pc) := (((Below.refl wy.heap.size wy).alloc (Nat.le_refl _) _).cell (p := ⟨x, 6 + k, none⟩) (World.block_lt_of_cell? _ _ z0)).trans z0
        clear hl5 hs5 hmo hln hpv hp hgi hm
        go_wp2_with fail
        refine wp_region_held_drew (S := fun u => CmS u bx gp gi o cap c0 m) (by kernel_rfl) ?_ (fun hHeld => ?_)
        · exact HS0.out
        refine wpAnyH_take (i := 0) (oi := { dst := some 107, op := Go.Op.move (Go.Operand.tmp 0), type := 57, pos := "law.go:198", after := #[], guard := none }) (v := ?_) rfl (by kernel_rfl) (by kernel_rfl) (by kernel_rfl) (fun _ _ _ h => h) (Or.inl ⟨by rfl, ?_⟩) hHeld ?_
        rotate_left 1
        · intro W hSw
          obtain ⟨s1, s2, s3⟩ := hSw
          go_simp
          try with_reducible rfl
        simp only [Act.put, List.setIfInBounds_toArray, List.set_cons_zero, List.set_cons_succ]
        refine wpAnyH_take (i := 1) (oi := { dst := some 108, op := Go.Op.move (Go.Operand.tmp 1), type := 3, pos := "law.go:198", after := #[], guard := none }) (v := ?_) rfl (by kernel_rfl) (by kernel_rfl) (by kernel_rfl) (fun _ _ _ h => h) (Or.inl ⟨by rfl, ?_⟩) hHeld ?_
        rotate_left 1
        · intro W hSw
          obtain ⟨s1, s2, s3⟩ := hSw
          go_simp
          try with_reducible rfl
        simp only [Act.put, List.setIfInBounds_toArray, List.set_cons_zero, List.set_cons_succ]
        refine wpAnyH_take (i := 2) (oi := { dst := some 109, op := Go.Op.move (Go.Operand.tmp 0), type := 57, pos := "law.go:198", after := #[], guard := none }) (v := ?_) rfl (by kernel_rfl) (by kernel_rfl) (by kernel_rfl) (fun _ _ _ h => h) (Or.inl ⟨by rfl, ?_⟩) hHeld ?_
        rotate_left 1
        · intro W hSw
          obtain ⟨s1, s2, s3⟩ := hSw
          go_simp
          try with_reducible rfl
        simp only [Act.put, List.setIfInBounds_toArray, List.set_cons_zero, List.set_cons_succ]
        refine wpAnyH_take (i := 3) (oi := { dst := some 110, op := Go.Op.move (Go.Operand.tmp 1), type := 3, pos := "law.go:198", after := #[], guard := none }) (v := ?_) rfl (by kernel_rfl) (by kernel_rfl) (by kernel_rfl) (fun _ _ _ h => h) (Or.inl ⟨by rfl, ?_⟩) hHeld ?_
        rotate_left 1
        · intro W hSw
          obtain ⟨s1, s2, s3⟩ := hSw
          go_simp
          try with_reducible rfl
        simp only [Act.put, List.setIfInBounds_toArray, List.set_cons_zero, List.set_cons_succ]
        refine wpAnyH_take (i := 4) (oi := { dst := some 111, op := Go.Op.nilCheck (Go.Operand.tmp 109), type := 0, pos := "law.go:198", after := #[{ on := 2, ground := Go.Ground.data }], guard := none }) (v := ?_) rfl (by kernel_rfl) (by kernel_rfl) (by kernel_rfl) (fun _ _ _ h => h) (Or.inl ⟨by rfl, ?_⟩) hHeld ?_
        rotate_left 1
        · intro W hSw
          obtain ⟨s1, s2, s3⟩ := hSw
          go_simp
          try with_reducible rfl
        simp only [Act.put, List.setIfInBounds_toArray, List.set_cons_zero, List.set_cons_succ]
        refine wpAnyH_take (i := 5) (oi := { dst := some 112, op := Go.Op.fieldAddr 63 (Go.Operand.tmp 111) 3, type := 0, pos := "law.go:198", after := #[{ on := 4, ground := Go.Ground.data }], guard := none }) (v := ?_) rfl (by kernel_rfl) (by kernel_rfl) (by kernel_rfl) (fun _ _ _ h => h) (Or.inl ⟨by rfl, ?_⟩) hHeld ?_
        rotate_left 1
        · intro W hSw
          obtain ⟨s1, s2, s3⟩ := hSw
          go_simp
          try with_reducible rfl
        simp only [Act.put, List.setIfInBounds_toArray, List.set_cons_zero, List.set_cons_succ]
        refine wpAnyH_take (i := 6) (oi := { dst := some 113, op := Go.Op.indexAddr 61 (Go.Operand.tmp 112) (Go.Operand.tmp 110), type := 0, pos := "law.go:198", after := #[{ on := 5, ground := Go.Ground.data }, { on := 3, ground := Go.Ground.data }], guard := none }) (v := ?_) rfl (by kernel_rfl) (by kernel_rfl) (by kernel_rfl) (fun _ _ _ h => h) (Or.inl ⟨by rfl, ?_⟩) hHeld ?_
        rotate_left 1
        · intro W hSw
          obtain ⟨s1, s2, s3⟩ := hSw
          go_simp
          try with_reducible rfl
        simp only [Act.put, List.setIfInBounds_toArray, List.set_cons_zero, List.set_cons_succ]
        refine wpAnyH_take (i := 8) (oi := { dst := some 115, op := Go.Op.fieldAddr 50 (Go.Operand.tmp 10) 0, type := 0, pos := "law.go:198", after := #[], guard := none }) (v := ?_) rfl (by kernel_rfl) (by kernel_rfl) (by kernel_rfl) (fun _ _ _ h => h) (Or.inl ⟨by rfl, ?_⟩) hHeld ?_
        rotate_left 1
        · intro W hSw
          obtain ⟨s1, s2, s3⟩ := hSw
          go_simp
          try with_reducible rfl
        simp only [Act.put, List.setIfInBounds_toArray, List.set_cons_zero, List.set_cons_succ]
        refine wpAnyH_take (i := 9) (oi := { dst := some 116, op := Go.Op.load 48 (Go.Operand.tmp 115), type := 48, pos := "law.go:198", after := #[{ on := 8, ground := Go.Ground.data }], guard := none }) (v := ?_) rfl (by kernel_rfl) (by kernel_rfl) (by kernel_rfl) (fun _ _ _ h => h) (Or.inl ⟨by rfl, ?_⟩) hHeld ?_
        rotate_left 1
        · intro W hSw
          obtain ⟨s1, s2, s3⟩ := hSw
          go_simp
          try with_reducible rfl
        simp only [Act.put, List.setIfInBounds_toArray, List.set_cons_zero, List.set_cons_succ]
        refine wpAnyH_take (i := 10) (oi := { dst := some 117, op := Go.Op.move (Go.Operand.tmp 11), type := 3, pos := "law.go:198", after := #[], guard := none }) (v := ?_) rfl (by kernel_rfl) (by kernel_rfl) (by kernel_rfl) (fun _ _ _ h => h) (Or.inl ⟨by rfl, ?_⟩) hHeld ?_
        rotate_left 1
        · intro W hSw
          obtain ⟨s1, s2, s3⟩ := hSw
          go_simp
          try with_reducible rfl
        simp only [Act.put, List.setIfInBounds_toArray, List.set_cons_zero, List.set_cons_succ]
        refine wpAnyH_take (i := 11) (oi := { dst := some 118, op := Go.Op.indexAddr 48 (Go.Operand.tmp 116) (Go.Operand.tmp 117), type := 0, pos := "law.go:198", after := #[{ on := 9, ground := Go.Ground.data }, { on := 10, ground := Go.Ground.data }], guard := none }) (v := ?_) rfl (by kernel_rfl) (by kernel_rfl) (by kernel_rfl) (fun _ _ _ h => h) (Or.inl ⟨by rfl, ?_⟩) hHeld ?_
        rotate_left 1
        · intro W hSw
          obtain ⟨s1, s2, s3⟩ := hSw
          go_simp
          try with_reducible rfl
        simp only [Act.put, List.setIfInBounds_toArray, List.set_cons_zero, List.set_cons_succ]
        refine wpAnyH_take (i := 12) (oi := { dst := some 119, op := Go.Op.fieldAddr 36 (Go.Operand.tmp 118) 1, type := 0, pos := "law.go:198", after := #[{ on := 11, ground := Go.Ground.data }], guard := none }) (v := ?_) rfl (by kernel_rfl) (by kernel_rfl) (by kernel_rfl) (fun _ _ _ h => h) (Or.inl ⟨by rfl, ?_⟩) hHeld ?_
        rotate_left 1
        · intro W hSw
          obtain ⟨s1, s2, s3⟩ := hSw
          go_simp
          try with_reducible rfl
        simp only [Act.put, List.setIfInBounds_toArray, List.set_cons_zero, List.set_cons_succ]
        refine wpAnyH_take (i := 13) (oi := { dst := some 120, op := Go.Op.load 33 (Go.Operand.tmp 119), type := 33, pos := "law.go:198", after := #[{ on := 12, ground := Go.Ground.data }], guard := none }) (v := ?_) rfl (by kernel_rfl) (by kernel_rfl) (by kernel_rfl) (fun _ _ _ h => h) (Or.inl ⟨by rfl, ?_⟩) hHeld ?_
        rotate_left 1
        · intro W hSw
          obtain ⟨s1, s2, s3⟩ := hSw
          go_simp
          try with_reducible rfl
        simp only [Act.put, List.setIfInBounds_toArray, List.set_cons_zero, List.set_cons_succ]
        refine wpAnyH_take (i := 14) (oi := { dst := some 121, op := Go.Op.indexAddr 33 (Go.Operand.tmp 120) (Go.Operand.const (Go.Value.int Go.IntKind.i64 0)), type := 0, pos := "law.go:198", after := #[{ on := 13, ground := Go.Ground.data }], guard := none }) (v := ?_) rfl (by kernel_rfl) (by kernel_rfl) (by kernel_rfl) (fun _ _ _ h => h) (Or.inl ⟨by rfl, ?_⟩) hHeld ?_
        rotate_left 1
        · intro W hSw
          obtain ⟨s1, s2, s3⟩ := hSw
          go_simp
          try with_reducible rfl
        simp only [Act.put, List.setIfInBounds_toArray, List.set_cons_zero, List.set_cons_succ]
        refine wpAnyH_take (i := 15) (oi := { dst := some 122, op := Go.Op.load 3 (Go.Operand.tmp 121), type := 3, pos := "law.go:198", after := #[{ on := 14, ground := Go.Ground.data }], guard := none }) (v := ?_) rfl (by kernel_rfl) (by kernel_rfl) (by kernel_rfl) (fun _ _ _ h => h) (Or.inl ⟨by rfl, ?_⟩) hHeld ?_
        rotate_left 1
        · intro W hSw
          obtain ⟨s1, s2, s3⟩ := hSw
          go_simp
          try with_reducible rfl
        simp only [Act.put, List.setIfInBounds_toArray, List.set_cons_zero, List.set_cons_succ]
        refine wpAnyH_take (i := 18) (oi := { dst := some 125, op := Go.Op.nilCheck (Go.Operand.tmp 107), type := 0, pos := "law.go:198", after := #[{ on := 0, ground := Go.Ground.data }], guard := none }) (v := ?_) rfl (by kernel_rfl) (by kernel_rfl) (by kernel_rfl) (fun _ _ _ h => h) (Or.inl ⟨by rfl, ?_⟩) hHeld ?_
        rotate_left 1
        · intro W hSw
          obtain ⟨s1, s2, s3⟩ := hSw
          go_simp
          try with_reducible rfl
        simp only [Act.put, List.setIfInBounds_toArray, List.set_cons_zero, List.set_cons_succ]
        refine wpAnyH_take (i := 19) (oi := { dst := some 126, op := Go.Op.fieldAddr 63 (Go.Operand.tmp 125) 3, type := 0, pos := "law.go:198", after := #[{ on := 18, ground := Go.Ground.data }], guard := none }) (v := ?_) rfl (by kernel_rfl) (by kernel_rfl) (by kernel_rfl) (fun _ _ _ h => h) (Or.inl ⟨by rfl, ?_⟩) hHeld ?_
        rotate_left 1
        · intro W hSw
          obtain ⟨s1, s2, s3⟩ := hSw
          go_simp
          try with_reducible rfl
        simp only [Act.put, List.setIfInBounds_toArray, List.set_cons_zero, List.set_cons_succ]
        refine wpAnyH_ready (rs := [7, 16]) (by kernel_rfl) (by simp) ?_
        refine AllReadyH.cons (o := { dst := some 114, op := Go.Op.load 33 (Go.Operand.tmp 113), type := 33, pos := "law.go:198", after := #[{ on := 6, ground := Go.Ground.data }], guard := none }) rfl (fun K hK => ?_) (AllReadyH.cons (o := { dst := some 123, op := Go.Op.buildSlice 33 1 #[(0, Go.Operand.tmp 122)], type := 33, pos := "law.go:198", after := #[{ on := 15, ground := Go.Ground.data }], guard := none }) rfl (fun K hK => ?_) AllReadyH.nil)
        · go_simp
          refine hK.out _ _ HS0.out (fun hHeld => ?_)
          clear hK K
          refine wpAnyH_ready (rs := [16]) (by kernel_rfl) (by simp) ?_
          refine AllReadyH.cons (o := { dst := some 123, op := Go.Op.buildSlice 33 1 #[(0, Go.Operand.tmp 122)], type := 33, pos := "law.go:198", after := #[{ on := 15, ground := Go.Ground.data }], guard := none }) rfl (fun K hK => ?_) AllReadyH.nil
          go_simp
          refine hK.out _ _ HS1.out (fun hHeld => ?_)
          clear hK K
          refine wpAnyH_ready (rs := [17]) (by kernel_rfl) (by simp) ?_
          refine AllReadyH.cons (o := { dst := some 124, op := Go.Op.call { callee := Go.Callee.builtin Go.Builtin.append, args := #[Go.Operand.tmp 114, Go.Operand.tmp 123], argTypes := #[33, 33] }, type := 33, pos := "law.go:198", after := #[{ on := 7, ground := Go.Ground.data }, { on := 16, ground := Go.Ground.data }], guard := none }) rfl (fun K hK => ?_) AllReadyH.nil
          refine step_append_all (by rfl) _ _ (by rfl) Try.underlying33 ji0 jz0 jz1 jz2 rfl (by decide) (by rfl) HO5.out (some ⟨wy.heap.size, 0, none⟩) [.int .i64 (m : Int)] 1 1 (by rfl) (by rfl) (fun h => by cases h) HNW.out (by simp [Value.oneCell']) (by unfold maxLen; omega) (by omega) HZ5.out ?_
          intro v9 w9 hown9 hg9 hv9
          obtain ⟨va9, vc9, hv9s⟩ := own_slice hown9
          subst hv9s
          have HG9 := Hid.mk (HMO.out w9 (by rw [HP.out]; exact hg9))
          obtain ⟨q2, q3⟩ := HG9.out.cell
          rw [HP.out] at q2
          have HF9 := Hid.mk (HG9.out.fin _ hown9 (by rw [HP.out]; exact hv9))
          clear hown9 hg9 hv9
          refine hK.out _ _ HG9.out.s9 (fun hHeld => ?_)
          clear hK K
          refine wpAnyH_take (i := 20) (oi := { dst := some 127, op := Go.Op.indexAddr 61 (Go.Operand.tmp 126) (Go.Operand.tmp 108), type := 0, pos := "law.go:198", after := #[{ on := 19, ground := Go.Ground.data }, { on := 1, ground := Go.Ground.data }, { on := 0, ground := Go.Ground.phase }, { on := 1, ground := Go.Ground.phase }, { on := 2, ground := Go.Ground.phase }, { on := 3, ground := Go.Ground.phase }, { on := 4, ground := Go.Ground.phase }, { on := 5, ground := Go.Ground.phase }, { on := 6, ground := Go.Ground.phase }, { on := 7, ground := Go.Ground.phase }, { on := 8, ground := Go.Ground.phase }, { on := 9, ground := Go.Ground.phase }, { on := 10, ground := Go.Ground.phase }, { on := 11, ground := Go.Ground.phase }, { on := 12, ground := Go.Ground.phase }, { on := 13, ground := Go.Ground.phase }, { on := 14, ground := Go.Ground.phase }, { on := 15, ground := Go.Ground.phase }, { on := 16, ground := Go.Ground.phase }, { on := 17, ground := Go.Ground.phase }], guard := none }) (v := ?_) rfl (by kernel_rfl) (by kernel_rfl) (by kernel_rfl) (fun _ _ _ h => h) (Or.inl ⟨by rfl, ?_⟩) hHeld ?_
          rotate_left 1
          · intro W hSw
            obtain ⟨s1, s2, s3⟩ := hSw
            go_simp
            try with_reducible rfl
          simp only [Act.put, List.setIfInBounds_toArray, List.set_cons_zero, List.set_cons_succ]
          refine wpAnyH_ready (rs := [21]) (by kernel_rfl) (by simp) ?_
          refine AllReadyH.cons (o := { dst := none, op := Go.Op.store 33 (Go.Operand.tmp 127) (Go.Operand.tmp 124), type := 0, pos := "law.go:198", after := #[{ on := 20, ground := Go.Ground.data }, { on := 17, ground := Go.Ground.data }, { on := 17, ground := Go.Ground.chain }, { on := 0, ground := Go.Ground.phase }, { on := 1, ground := Go.Ground.phase }, { on := 2, ground := Go.Ground.phase }, { on := 3, ground := Go.Ground.phase }, { on := 4, ground := Go.Ground.phase }, { on := 5, ground := Go.Ground.phase }, { on := 6, ground := Go.Ground.phase }, { on := 7, ground := Go.Ground.phase }, { on := 8, ground := Go.Ground.phase }, { on := 9, ground := Go.Ground.phase }, { on := 10, ground := Go.Ground.phase }, { on := 11, ground := Go.Ground.phase }, { on := 12, ground := Go.Ground.phase }, { on := 13, ground := Go.Ground.phase }, { on := 14, ground := Go.Ground.phase }, { on := 15, ground := Go.Ground.phase }, { on := 16, ground := Go.Ground.phase }, { on := 17, ground := Go.Ground.phase }], guard := none }) rfl (fun K hK => ?_) AllReadyH.nil
          go_simp
          refine hK.out _ _ (HG9.out.s10 _) (fun hHeld => ?_)
          clear hK K
          refine wpAnyH_done (by kernel_rfl) ?_ _
          clear q2 q3 HG9
          go_wp2
          go_roundw
          case rel => exact ⟨1, _, _, by go_num, by omega, HF9.out, HVB.out, fun g hg => .inl (.inl (HSB.out g hg))⟩
          case measure => simp [intOf]
        · go_simp
          refine hK.out _ _ HS1.out (fun hHeld => ?_)
          clear hK K
          refine wpAnyH_ready (rs := [7]) (by kernel_rfl) (by simp) ?_
          refine AllReadyH.cons (o := { dst := some 114, op := Go.Op.load 33 (Go.Operand.tmp 113), type := 33, pos := "law.go:198", after := #[{ on := 6, ground := Go.Ground.data }], guard := none }) rfl (fun K hK => ?_) AllReadyH.nil
          go_simp
          refine hK.out _ _ HS1.out (fun hHeld => ?_)
          clear hK K
          refine wpAnyH_ready (rs := [17]) (by kernel_rfl) (by simp) ?_
          refine AllReadyH.cons (o := { dst := some 124, op := Go.Op.call { callee := Go.Callee.builtin Go.Builtin.append, args := #[Go.Operand.tmp 114, Go.Operand.tmp 123], argTypes := #[33, 33] }, type := 33, pos := "law.go:198", after := #[{ on := 7, ground := Go.Ground.data }, { on := 16, ground := Go.Ground.data }], guard := none }) rfl (fun K hK => ?_) AllReadyH.nil
          refine step_append_all (by rfl) _ _ (by rfl) Try.underlying33 ji0 jz0 jz1 jz2 rfl (by decide) (by rfl) HO5.out (some ⟨wy.heap.size, 0, none⟩) [.int .i64 (m : Int)] 1 1 (by rfl) (by rfl) (fun h => by cases h) HNW.out (by simp [Value.oneCell']) (by unfold maxLen; omega) (by omega) HZ5.out ?_
          intro v9 w9 hown9 hg9 hv9
          obtain ⟨va9, vc9, hv9s⟩ := own_slice hown9
          subst hv9s
          have HG9 := Hid.mk (HMO.out w9 (by rw [HP.out]; exact hg9))
          obtain ⟨q2, q3⟩ := HG9.out.cell
          rw [HP.out] at q2
          have HF9 := Hid.mk (HG9.out.fin _ hown9 (by rw [HP.out]; exact hv9))
          clear hown9 hg9 hv9
          refine hK.out _ _ HG9.out.s9 (fun hHeld => ?_)
          clear hK K
          refine wpAnyH_take (i := 20) (oi := { dst := some 127, op := Go.Op.indexAddr 61 (Go.Operand.tmp 126) (Go.Operand.tmp 108), type := 0, pos := "law.go:198", after := #[{ on := 19, ground := Go.Ground.data }, { on := 1, ground := Go.Ground.data }, { on := 0, ground := Go.Ground.phase }, { on := 1, ground := Go.Ground.phase }, { on := 2, ground := Go.Ground.phase }, { on := 3, ground := Go.Ground.phase }, { on := 4, ground := Go.Ground.phase }, { on := 5, ground := Go.Ground.phase }, { on := 6, ground := Go.Ground.phase }, { on := 7, ground := Go.Ground.phase }, { on := 8, ground := Go.Ground.phase }, { on := 9, ground := Go.Ground.phase }, { on := 10, ground := Go.Ground.phase }, { on := 11, ground := Go.Ground.phase }, { on := 12, ground := Go.Ground.phase }, { on := 13, ground := Go.Ground.phase }, { on := 14, ground := Go.Ground.phase }, { on := 15, ground := Go.Ground.phase }, { on := 16, ground := Go.Ground.phase }, { on := 17, ground := Go.Ground.phase }], guard := none }) (v := ?_) rfl (by kernel_rfl) (by kernel_rfl) (by kernel_rfl) (fun _ _ _ h => h) (Or.inl ⟨by rfl, ?_⟩) hHeld ?_
          rotate_left 1
          · intro W hSw
            obtain ⟨s1, s2, s3⟩ := hSw
            go_simp
            try with_reducible rfl
          simp only [Act.put, List.setIfInBounds_toArray, List.set_cons_zero, List.set_cons_succ]
          refine wpAnyH_ready (rs := [21]) (by kernel_rfl) (by simp) ?_
          refine AllReadyH.cons (o := { dst := none, op := Go.Op.store 33 (Go.Operand.tmp 127) (Go.Operand.tmp 124), type := 0, pos := "law.go:198", after := #[{ on := 20, ground := Go.Ground.data }, { on := 17, ground := Go.Ground.data }, { on := 17, ground := Go.Ground.chain }, { on := 0, ground := Go.Ground.phase }, { on := 1, ground := Go.Ground.phase }, { on := 2, ground := Go.Ground.phase }, { on := 3, ground := Go.Ground.phase }, { on := 4, ground := Go.Ground.phase }, { on := 5, ground := Go.Ground.phase }, { on := 6, ground := Go.Ground.phase }, { on := 7, ground := Go.Ground.phase }, { on := 8, ground := Go.Ground.phase }, { on := 9, ground := Go.Ground.phase }, { on := 10, ground := Go.Ground.phase }, { on := 11, ground := Go.Ground.phase }, { on := 12, ground := Go.Ground.phase }, { on := 13, ground := Go.Ground.phase }, { on := 14, ground := Go.Ground.phase }, { on := 15, ground := Go.Ground.phase }, { on := 16, ground := Go.Ground.phase }, { on := 17, ground := Go.Ground.phase }], guard := none }) rfl (fun K hK => ?_) AllReadyH.nil
          go_simp
          refine hK.out _ _ (HG9.out.s10 _) (fun hHeld => ?_)
          clear hK K
          refine wpAnyH_done (by kernel_rfl) ?_ _
          clear q2 q3 HG9
          go_wp2
          go_roundw
          case rel => exact ⟨1, _, _, by go_num, by omega, HF9.out, HVB.out, fun g hg => .inl (.inl (HSB.out g hg))⟩
          case measure => simp [intOf]
      · obtain rfl : j = l0 := by omega
        have CS := Hid.mk (sends_any HCM.out.ln hk2 (.slice a1 l1 c1) ps HCM.out.tx (by have := HPL.out; omega))
        go_wp2_with fail
        refine CS.out.mono ?_
        clear CS
        rintro r w10 ⟨rfl, T10, v10, hl10, hs10⟩
        have HE : Hid (ComE w0 T x V e U n c k false (.returned (.tuple #[])) w10) := Hid.mk (by
          refine ⟨rfl, .inr ⟨i, s, f', ns, ps, T10, { V' with u := upd V'.u (1 - k) v10 }, HSI.out, HTK.out, ?_, HVB.out, fun g hg => hs10 g (HSB.out g hg)⟩⟩
          rw [HE'.out, HU'.out, HK2.out, HL0.out] at hl10
          have e2 : (upd U k ((U k).eraseIdx i)) (1 - k) = U (1 - k) := upd_ne (ne_k hk)
          rw [e2] at hl10
          rw [if_neg (by decide)]
          exact hl10)
        clear hl10 hs10
        go_wp2
        go_end0
        exact HE.out
  · have HDC1 : Hid (∀ ad, ((some ⟨g, o1 + i1, none⟩) : Option Addr) = some ad → ∀ (j : Nat) u, (strCs ((U k).drop (i + 1)))[j]? = some u → w1.drew.cell? (ad.add j) = some u) := Hid.mk (fun ad had j u hj => by
      injection had with had
      subst had
      have h := HDC.out j u hj
      rw [HI1.out] at h
      have ea : (⟨g, o1 + i1, none⟩ : Addr).add j = ⟨g, o1 + i1 + j, none⟩ := by cases j <;> simp [Addr.add]
      rw [ea]
      exact (HB1.out.cell (p := ⟨g, o1 + i1 + j, none⟩) (World.block_lt_of_cell? _ _ h)).trans h)
    have HLX : Hid (m0 ≤ cap) := Hid.mk hu1
    have HDLx : Hid ((strCs ((U k).drop (i + 1))).length = (m0 - i1) * 1) := Hid.mk (by have := HDL.out; omega)
    go_wp2_with fail
    refine wp_region_held_drew (S := fun u => True) (by kernel_rfl) ?_ (fun hHeld => ?_)
    · exact trivial
    refine wpAnyH_take (i := 0) (oi := { dst := some 51, op := Go.Op.move (Go.Operand.tmp 0), type := 57, pos := "law.go:187", after := #[], guard := none }) (v := ?_) rfl (by kernel_rfl) (by kernel_rfl) (by kernel_rfl) (fun _ _ _ h => h) (Or.inl ⟨by rfl, ?_⟩) hHeld ?_
    rotate_left 1
    · intro W hSw
      obtain - := hSw
      go_simp
      try with_reducible rfl
    simp only [Act.put, List.setIfInBounds_toArray, List.set_cons_zero, List.set_cons_succ]
    refine wpAnyH_take (i := 1) (oi := { dst := some 52, op := Go.Op.move (Go.Operand.tmp 1), type := 3, pos := "law.go:187", after := #[], guard := none }) (v := ?_) rfl (by kernel_rfl) (by kernel_rfl) (by kernel_rfl) (fun _ _ _ h => h) (Or.inl ⟨by rfl, ?_⟩) hHeld ?_
    rotate_left 1
    · intro W hSw
      obtain - := hSw
      go_simp
      try with_reducible rfl
    simp only [Act.put, List.setIfInBounds_toArray, List.set_cons_zero, List.set_cons_succ]
    refine wpAnyH_take (i := 2) (oi := { dst := some 53, op := Go.Op.move (Go.Operand.tmp 9), type := 27, pos := "law.go:187", after := #[], guard := none }) (v := ?_) rfl (by kernel_rfl) (by kernel_rfl) (by kernel_rfl) (fun _ _ _ h => h) (Or.inl ⟨by rfl, ?_⟩) hHeld ?_
    rotate_left 1
    · intro W hSw
      obtain - := hSw
      go_simp
      try with_reducible rfl
    simp only [Act.put, List.setIfInBounds_toArray, List.set_cons_zero, List.set_cons_succ]
    refine wpAnyH_take (i := 3) (oi := { dst := some 54, op := Go.Op.move (Go.Operand.tmp 0), type := 57, pos := "law.go:187", after := #[], guard := none }) (v := ?_) rfl (by kernel_rfl) (by kernel_rfl) (by kernel_rfl) (fun _ _ _ h => h) (Or.inl ⟨by rfl, ?_⟩) hHeld ?_
    rotate_left 1
    · intro W hSw
      obtain - := hSw
      go_simp
      try with_reducible rfl
    simp only [Act.put, List.setIfInBounds_toArray, List.set_cons_zero, List.set_cons_succ]
    refine wpAnyH_take (i := 4) (oi := { dst := some 55, op := Go.Op.move (Go.Operand.tmp 1), type := 3, pos := "law.go:187", after := #[], guard := none }) (v := ?_) rfl (by kernel_rfl) (by kernel_rfl) (by kernel_rfl) (fun _ _ _ h => h) (Or.inl ⟨by rfl, ?_⟩) hHeld ?_
    rotate_left 1
    · intro W hSw
      obtain - := hSw
      go_simp
      try with_reducible rfl
    simp only [Act.put, List.setIfInBounds_toArray, List.set_cons_zero, List.set_cons_succ]
    refine wpAnyH_take (i := 5) (oi := { dst := some 56, op := Go.Op.nilCheck (Go.Operand.tmp 54), type := 0, pos := "law.go:187", after := #[{ on := 3, ground := Go.Ground.data }], guard := none }) (v := ?_) rfl (by kernel_rfl) (by kernel_rfl) (by kernel_rfl) (fun _ _ _ h => h) (Or.inl ⟨by rfl, ?_⟩) hHeld ?_
    rotate_left 1
    · intro W hSw
      obtain - := hSw
      go_simp
      try with_reducible rfl
    simp only [Act.put, List.setIfInBounds_toArray, List.set_cons_zero, List.set_cons_succ]
    refine wpAnyH_take (i := 6) (oi := { dst := some 57, op := Go.Op.fieldAddr 63 (Go.Operand.tmp 56) 1, type := 0, pos := "law.go:187", after := #[{ on := 5, ground := Go.Ground.data }], guard := none }) (v := ?_) rfl (by kernel_rfl) (by kernel_rfl) (by kernel_rfl) (fun _ _ _ h => h) (Or.inl ⟨by rfl, ?_⟩) hHeld ?_
    rotate_left 1
    · intro W hSw
      obtain - := hSw
      go_simp
      try with_reducible rfl
    simp only [Act.put, List.setIfInBounds_toArray, List.set_cons_zero, List.set_cons_succ]
    refine wpAnyH_take (i := 7) (oi := { dst := some 58, op := Go.Op.indexAddr 60 (Go.Operand.tmp 57) (Go.Operand.tmp 55), type := 0, pos := "law.go:187", after := #[{ on := 6, ground := Go.Ground.data }, { on := 4, ground := Go.Ground.data }], guard := none }) (v := ?_) rfl (by kernel_rfl) (by kernel_rfl) (by kernel_rfl) (fun _ _ _ h => h) (Or.inl ⟨by rfl, ?_⟩) hHeld ?_
    rotate_left 1
    · intro W hSw
      obtain - := hSw
      go_simp
      try with_reducible rfl
    simp only [Act.put, List.setIfInBounds_toArray, List.set_cons_zero, List.set_cons_succ]
    refine wpAnyH_take (i := 9) (oi := { dst := some 60, op := Go.Op.move (Go.Operand.tmp 2), type := 3, pos := "law.go:187", after := #[], guard := none }) (v := ?_) rfl (by kernel_rfl) (by kernel_rfl) (by kernel_rfl) (fun _ _ _ h => h) (Or.inl ⟨by rfl, ?_⟩) hHeld ?_
    rotate_left 1
    · intro W hSw
      obtain - := hSw
      go_simp
      try with_reducible rfl
    simp only [Act.put, List.setIfInBounds_toArray, List.set_cons_zero, List.set_cons_succ]
    refine wpAnyH_take (i := 10) (oi := { dst := some 61, op := Go.Op.binOp Go.BinOp.add 3 (Go.Operand.tmp 60) (Go.Operand.const (Go.Value.int Go.IntKind.i64 1)) 3, type := 3, pos := "law.go:187", after := #[{ on := 9, ground := Go.Ground.data }], guard := none }) (v := ?_) rfl (by kernel_rfl) (by kernel_rfl) (by kernel_rfl) (fun _ _ _ h => h) (Or.inl ⟨by rfl, ?_⟩) hHeld ?_
    rotate_left 1
    · intro W hSw
      obtain - := hSw
      go_simp
      try with_reducible rfl
    simp only [Act.put, List.setIfInBounds_toArray, List.set_cons_zero, List.set_cons_succ]
    refine wpAnyH_take (i := 13) (oi := { dst := some 64, op := Go.Op.nilCheck (Go.Operand.tmp 51), type := 0, pos := "law.go:187", after := #[{ on := 0, ground := Go.Ground.data }], guard := none }) (v := ?_) rfl (by kernel_rfl) (by kernel_rfl) (by kernel_rfl) (fun _ _ _ h => h) (Or.inl ⟨by rfl, ?_⟩) hHeld ?_
    rotate_left 1
    · intro W hSw
      obtain - := hSw
      go_simp
      try with_reducible rfl
    simp only [Act.put, List.setIfInBounds_toArray, List.set_cons_zero, List.set_cons_succ]
    refine wpAnyH_take (i := 14) (oi := { dst := some 65, op := Go.Op.fieldAddr 63 (Go.Operand.tmp 64) 1, type := 0, pos := "law.go:187", after := #[{ on := 13, ground := Go.Ground.data }], guard := none }) (v := ?_) rfl (by kernel_rfl) (by kernel_rfl) (by kernel_rfl) (fun _ _ _ h => h) (Or.inl ⟨by rfl, ?_⟩) hHeld ?_
    rotate_left 1
    · intro W hSw
      obtain - := hSw
      go_simp
      try with_reducible rfl
    simp only [Act.put, List.setIfInBounds_toArray, List.set_cons_zero, List.set_cons_succ]
    refine wpAnyH_ready (rs := [8]) (by kernel_rfl) (by simp) ?_
    refine AllReadyH.cons (o := { dst := some 59, op := Go.Op.load 27 (Go.Operand.tmp 58), type := 27, pos := "law.go:187", after := #[{ on := 7, ground := Go.Ground.data }], guard := none }) rfl (fun K hK => ?_) AllReadyH.nil
    go_simp
    refine hK.out _ _ trivial (fun hHeld => ?_)
    clear hK K
    refine wpAnyH_take (i := 11) (oi := { dst := some 62, op := Go.Op.slice 27 (Go.Operand.tmp 59) (some (Go.Operand.tmp 61)) none none, type := 27, pos := "law.go:187", after := #[{ on := 8, ground := Go.Ground.data }, { on := 10, ground := Go.Ground.data }], guard := none }) (v := ?_) rfl (by kernel_rfl) (by kernel_rfl) (by kernel_rfl) (fun _ _ _ h => h) (Or.inl ⟨by rfl, ?_⟩) hHeld ?_
    rotate_left 1
    · intro W hSw
      obtain - := hSw
      go_simp
      try with_reducible rfl
    simp only [Act.put, List.setIfInBounds_toArray, List.set_cons_zero, List.set_cons_succ]
    refine wpAnyH_ready (rs := [12]) (by kernel_rfl) (by simp) ?_
    refine AllReadyH.cons (o := { dst := some 63, op := Go.Op.call { callee := Go.Callee.builtin Go.Builtin.append, args := #[Go.Operand.tmp 53, Go.Operand.tmp 62], argTypes := #[27, 27] }, type := 27, pos := "law.go:187", after := #[{ on := 2, ground := Go.Ground.data }, { on := 11, ground := Go.Ground.data }], guard := none }) rfl (fun K hK => ?_) AllReadyH.nil
    refine step_append_all (by rfl) _ _ (by rfl) Try.underlying27 hi0 hz0 hz1 hz2 rfl (by decide) (by rfl) HO1.out (some ⟨g, o1 + i1, none⟩) (strCs ((U k).drop (i + 1))) (m0 - i1) (cap - i1) (by rfl) HDLx.out (fun h => by cases h) HDC1.out (str_one _) (by unfold maxLen; omega) (by omega) HZ1.out ?_
    intro v2 w2 hown2' hg2 hv2
    have hown2 : w2.ownsRow W.heap.size 9 1 v2 (i + (m0 - i1)) (strCs ((U k).take i) ++ strCs ((U k).drop (i + 1))) := hown2'
    have HB2 : Hid (Below W.heap.size W w2) := Hid.mk (HBW.out w2 hg2)
    obtain ⟨va2, vc2, hv2s⟩ := own_slice hown2
    subst hv2s
    have HO2 : Hid (w2.ownsRow W.heap.size 9 1 (.slice va2 (i + (m0 - i1)) vc2) (i + (m0 - i1)) (strCs ((U k).take i) ++ strCs ((U k).drop (i + 1)))) := Hid.mk hown2
    obtain ⟨q2, q3⟩ := (H.out.nw HB2.out).cells _ _ (lnC_u V hk)
    clear hown2 hown2' hg2 hv2
    refine hK.out _ _ trivial (fun hHeld => ?_)
    clear hK K
    refine wpAnyH_take (i := 15) (oi := { dst := some 66, op := Go.Op.indexAddr 60 (Go.Operand.tmp 65) (Go.Operand.tmp 52), type := 0, pos := "law.go:187", after := #[{ on := 14, ground := Go.Ground.data }, { on := 1, ground := Go.Ground.data }, { on := 0, ground := Go.Ground.phase }, { on := 1, ground := Go.Ground.phase }, { on := 2, ground := Go.Ground.phase }, { on := 3, ground := Go.Ground.phase }, { on := 4, ground := Go.Ground.phase }, { on := 5, ground := Go.Ground.phase }, { on := 6, ground := Go.Ground.phase }, { on := 7, ground := Go.Ground.phase }, { on := 8, ground := Go.Ground.phase }, { on := 9, ground := Go.Ground.phase }, { on := 10, ground := Go.Ground.phase }, { on := 11, ground := Go.Ground.phase }, { on := 12, ground := Go.Ground.phase }], guard := none }) (v := ?_) rfl (by kernel_rfl) (by kernel_rfl) (by kernel_rfl) (fun _ _ _ h => h) (Or.inl ⟨by rfl, ?_⟩) hHeld ?_
    rotate_left 1
    · intro W hSw
      obtain - := hSw
      go_simp
      try with_reducible rfl
    simp only [Act.put, List.setIfInBounds_toArray, List.set_cons_zero, List.set_cons_succ]
    refine wpAnyH_ready (rs := [16]) (by kernel_rfl) (by simp) ?_
    refine AllReadyH.cons (o := { dst := none, op := Go.Op.store 27 (Go.Operand.tmp 66) (Go.Operand.tmp 63), type := 0, pos := "law.go:187", after := #[{ on := 15, ground := Go.Ground.data }, { on := 12, ground := Go.Ground.data }, { on := 12, ground := Go.Ground.chain }, { on := 0, ground := Go.Ground.phase }, { on := 1, ground := Go.Ground.phase }, { on := 2, ground := Go.Ground.phase }, { on := 3, ground := Go.Ground.phase }, { on := 4, ground := Go.Ground.phase }, { on := 5, ground := Go.Ground.phase }, { on := 6, ground := Go.Ground.phase }, { on := 7, ground := Go.Ground.phase }, { on := 8, ground := Go.Ground.phase }, { on := 9, ground := Go.Ground.phase }, { on := 10, ground := Go.Ground.phase }, { on := 11, ground := Go.Ground.phase }, { on := 12, ground := Go.Ground.phase }], guard := none }) rfl (fun K hK => ?_) AllReadyH.nil
    go_simp
    refine hK.out _ _ trivial (fun hHeld => ?_)
    clear hK K
    refine wpAnyH_done (by kernel_rfl) ?_ _
    have HL9 : Hid (LnB w0 (Nw T W w2) (w2.setCell ⟨x, 2 + k, none⟩ (.slice va2 (i + (m0 - i1)) vc2)) x { V with u := upd V.u k (.slice va2 (i + (m0 - i1)) vc2) } e (upd U k ((U k).eraseIdx i)) n c) := Hid.mk (by
      refine (H.out.nw HB2.out).setu hk (TxR.own (B := W.heap.size) ?_ (fun g hg => .inr (HO2.out.lt g hg)))
      have ho := HO2.out
      rw [erase_eq, List.length_append, List.length_take, List.length_drop, HM.out]
      have e1 : min i m0 + (m0 - (i + 1)) = (i + (m0 - i1)) := by have := HI1.out; have := HLX.out; omega
      have e2 : strCs ((U k).take i ++ (U k).drop (i + 1)) = strCs ((U k).take i) ++ strCs ((U k).drop (i + 1)) := by simp [strCs]
      rw [e1, e2]
      exact ho)
    have CT := Hid.mk (takT_any (HL9.out.at_k hk) HL9.out.low s (by have := HSL.out; omega))
    unfold TakT at CT
    rw [HTK.out] at CT
    obtain ⟨t0, -⟩ := HL9.out.cells _ _ (lnC_end _ hk)
    go_wp2_with fail
    refine CT.out.mono ?_
    clear CT
    rintro r w5 ⟨⟨a0, l0, c0, a1, l1, c1, rfl, hN, hT⟩, ht5, hf5⟩
    have HPL : Hid (ps.length ≤ 1) := Hid.mk (by have := oneT_cells hT; omega)
    obtain ⟨T6, cm6, hs6, hl0⟩ := cm_start hk HL9.out HNS.out hN hT ht5 hf5
    obtain ⟨e', HE'⟩ : ∃ e', Hid (e' = upd e k f') := ⟨_, Hid.mk rfl⟩
    obtain ⟨U', HU'⟩ : ∃ U', Hid (U' = (upd U k ((U k).eraseIdx i))) := ⟨_, Hid.mk rfl⟩
    rw [← HE'.out, ← HU'.out] at cm6
    obtain ⟨⟨x0, x1, x2⟩, -⟩ := three_cells cm6.bxb
    have HCM6 := Hid.mk cm6
    have HL0 := Hid.mk hl0
    have HS6 : Hid (∀ j, T j → T6 j) := Hid.mk (fun j hj => hs6 j (.inl hj))
    have hl01 : l0 ≤ 1 := by rw [hl0]; exact HNL.out
    clear cm6 hs6 hl0 hN hT ht5 hf5 t0 q0 q1 hcs q2 q3
    go_wp2_with fail
    go_loopw [11] (fun cv wr => ∃ (j : Nat) (T' : Nat → Prop) (V' : LV), cv = .int .i64 j ∧ j ≤ l0 ∧ CmI w0 T' wr x V' e' U' n c k w5.heap.size a0 l0 c0 a1 l1 c1 ps j ∧ V'.b = V.b ∧ ∀ g, T g → T' g) (fun cv _ => l0 - (intOf cv).toNat)
    case atStart => exact ⟨0, T6, _, rfl, Nat.zero_le _, HCM6.out, rfl, HS6.out⟩
    case round =>
      obtain ⟨j, T', V', rfl, hj, cm, hvb, hsb⟩ := hrel
      obtain ⟨wy, hwy⟩ : ∃ wy, wy = wr := ⟨_, rfl⟩
      subst hwy
      clear x0 x1 x2 HCM6
      obtain ⟨bx, hbx⟩ : ∃ bx, w5.heap.size = bx := ⟨_, rfl⟩
      rw [hbx] at cm ⊢
      obtain ⟨⟨x0, x1, x2⟩, -⟩ := three_cells cm.bxb
      have HVB := Hid.mk hvb
      have HSB := Hid.mk hsb
      have HCM := Hid.mk cm
      have HBX := Hid.mk hbx
      clear hvb hsb cm hbx
      by_cases hlt : j < l0
      · obtain rfl : j = 0 := by omega
        obtain rfl : l0 = 1 := by omega
        obtain ⟨gp, gi, o, cap, rfl, hp, hgi, -, -⟩ := HCM.out.pay rfl rfl
        obtain ⟨m, hm⟩ : ∃ m, c k = m := ⟨_, rfl⟩
        rw [hm] at hp
        obtain ⟨y0, y1, y2⟩ := hp.cells
        have hln := HCM.out.ln
        rw [upd_zero] at hln
        obtain ⟨pa, pc, hpv⟩ := own_slice (hln.rc k hk).1
        rw [hm] at hpv
        have HP := Hid.mk hpv
        obtain ⟨z0, -⟩ := hln.cells _ _ (lnC_c V' hk)
        rw [hpv] at z0
        have hm1 : m ≤ 1000 := by rw [← hm]; exact HC1.out
        have HS0 := Hid.mk (cms_of HCM.out.bxb hp)
        obtain ⟨hl5, hs5, hmo⟩ := cm_more (WB := (wy.alloc (.cells #[.int .i64 (m : Int)] 3)).drew) hk HCM.out hp hgi hm (below_drewE ((Below.refl _ _).alloc (Nat.le_refl _) _))
        have HS1 := Hid.mk hs5
        have HMO := Hid.mk hmo
        have HO5 : Hid ((wy.alloc (.cells #[.int .i64 (m : Int)] 3)).drew.ownsRow w0.heap.size 3 1 (.slice pa m pc) m (rngC m)) := Hid.mk (by
          have h := (hl5.rc k hk).1
          rw [hpv, hm] at h
          exact h)
        have HNW : Hid (∀ ad, (some ⟨wy.heap.size, 0, none⟩ : Option Addr) = some ad → ∀ (j : Nat) u, [Value.int .i64 (m : Int)][j]? = some u → (wy.alloc (.cells #[.int .i64 (m : Int)] 3)).drew.cell? (ad.add j) = some u) := Hid.mk (fun ad had j u hj => by
          injection had with had
          subst had
          have hj0 : j = 0 := by have := (List.getElem?_eq_some_iff.1 hj).1; simp at this; exact this
          subst hj0
          simp at hj
          subst hj
          exact new_cell wy _ _)
        have HZ5 : Hid (w0.heap.size ≤ (wy.alloc (.cells #[.int .i64 (m : Int)] 3)).drew.heap.size) := Hid.mk (hl5.bel.size)
        have w1 : (wy.alloc (.cells #[.int .i64 (m : Int)] 3)).cell? ⟨x, 6 + k, none⟩ = some (.slice pa m pc) := (((Below.refl wy.heap.size wy).alloc (Nat.le_refl _) _).cell (p := ⟨x, 6 + k, none⟩) (World.block_lt_of_cell? _ _ z0)).trans z0
        clear hl5 hs5 hmo hln hpv hp hgi hm
        go_wp2_with fail
        refine wp_region_held_drew (S := fun u => CmS u bx gp gi o cap c0 m) (by kernel_rfl) ?_ (fun hHeld => ?_)
        · exact HS0.out
        refine wpAnyH_take (i := 0) (oi := { dst := some 107, op := Go.Op.move (Go.Operand.tmp 0), type := 57, pos := "law.go:198", after := #[], guard := none }) (v := ?_) rfl (by kernel_rfl) (by kernel_rfl) (by kernel_rfl) (fun _ _ _ h => h) (Or.inl ⟨by rfl, ?_⟩) hHeld ?_
        rotate_left 1
        · intro W hSw
          obtain ⟨s1, s2, s3⟩ := hSw
          go_simp
          try with_reducible rfl
        simp only [Act.put, List.setIfInBounds_toArray, List.set_cons_zero, List.set_cons_succ]
        refine wpAnyH_take (i := 1) (oi := { dst := some 108, op := Go.Op.move (Go.Operand.tmp 1), type := 3, pos := "law.go:198", after := #[], guard := none }) (v := ?_) rfl (by kernel_rfl) (by kernel_rfl) (by kernel_rfl) (fun _ _ _ h => h) (Or.inl ⟨by rfl, ?_⟩) hHeld ?_
        rotate_left 1
        · intro W hSw
          obtain ⟨s1, s2, s3⟩ := hSw
          go_simp
          try with_reducible rfl
        simp only [Act.put, List.setIfInBounds_toArray, List.set_cons_zero, List.set_cons_succ]
        refine wpAnyH_take (i := 2) (oi := { dst := some 109, op := Go.Op.move (Go.Operand.tmp 0), type := 57, pos := "law.go:198", after := #[], guard := none }) (v := ?_) rfl (by kernel_rfl) (by kernel_rfl) (by kernel_rfl) (fun _ _ _ h => h) (Or.inl ⟨by rfl, ?_⟩) hHeld ?_
        rotate_left 1
        · intro W hSw
          obtain ⟨s1, s2, s3⟩ := hSw
          go_simp
          try with_reducible rfl
        simp only [Act.put, List.setIfInBounds_toArray, List.set_cons_zero, List.set_cons_succ]
        refine wpAnyH_take (i := 3) (oi := { dst := some 110, op := Go.Op.move (Go.Operand.tmp 1), type := 3, pos := "law.go:198", after := #[], guard := none }) (v := ?_) rfl (by kernel_rfl) (by kernel_rfl) (by kernel_rfl) (fun _ _ _ h => h) (Or.inl ⟨by rfl, ?_⟩) hHeld ?_
        rotate_left 1
        · intro W hSw
          obtain ⟨s1, s2, s3⟩ := hSw
          go_simp
          try with_reducible rfl
        simp only [Act.put, List.setIfInBounds_toArray, List.set_cons_zero, List.set_cons_succ]
        refine wpAnyH_take (i := 4) (oi := { dst := some 111, op := Go.Op.nilCheck (Go.Operand.tmp 109), type := 0, pos := "law.go:198", after := #[{ on := 2, ground := Go.Ground.data }], guard := none }) (v := ?_) rfl (by kernel_rfl) (by kernel_rfl) (by kernel_rfl) (fun _ _ _ h => h) (Or.inl ⟨by rfl, ?_⟩) hHeld ?_
        rotate_left 1
        · intro W hSw
          obtain ⟨s1, s2, s3⟩ := hSw
          go_simp
          try with_reducible rfl
        simp only [Act.put, List.setIfInBounds_toArray, List.set_cons_zero, List.set_cons_succ]
        refine wpAnyH_take (i := 5) (oi := { dst := some 112, op := Go.Op.fieldAddr 63 (Go.Operand.tmp 111) 3, type := 0, pos := "law.go:198", after := #[{ on := 4, ground := Go.Ground.data }], guard := none }) (v := ?_) rfl (by kernel_rfl) (by kernel_rfl) (by kernel_rfl) (fun _ _ _ h => h) (Or.inl ⟨by rfl, ?_⟩) hHeld ?_
        rotate_left 1
        · intro W hSw
          obtain ⟨s1, s2, s3⟩ := hSw
          go_simp
          try with_reducible rfl
        simp only [Act.put, List.setIfInBounds_toArray, List.set_cons_zero, List.set_cons_succ]
        refine wpAnyH_take (i := 6) (oi := { dst := some 113, op := Go.Op.indexAddr 61 (Go.Operand.tmp 112) (Go.Operand.tmp 110), type := 0, pos := "law.go:198", after := #[{ on := 5, ground := Go.Ground.data }, { on := 3, ground := Go.Ground.data }], guard := none }) (v := ?_) rfl (by kernel_rfl) (by kernel_rfl) (by kernel_rfl) (fun _ _ _ h => h) (Or.inl ⟨by rfl, ?_⟩) hHeld ?_
        rotate_left 1
        · intro W hSw
          obtain ⟨s1, s2, s3⟩ := hSw
          go_simp
          try with_reducible rfl
        simp only [Act.put, List.setIfInBounds_toArray, List.set_cons_zero, List.set_cons_succ]
        refine wpAnyH_take (i := 8) (oi := { dst := some 115, op := Go.Op.fieldAddr 50 (Go.Operand.tmp 10) 0, type := 0, pos := "law.go:198", after := #[], guard := none }) (v := ?_) rfl (by kernel_rfl) (by kernel_rfl) (by kernel_rfl) (fun _ _ _ h => h) (Or.inl ⟨by rfl, ?_⟩) hHeld ?_
        rotate_left 1
        · intro W hSw
          obtain ⟨s1, s2, s3⟩ := hSw
          go_simp
          try with_reducible rfl
        simp only [Act.put, List.setIfInBounds_toArray, List.set_cons_zero, List.set_cons_succ]
        refine wpAnyH_take (i := 9) (oi := { dst := some 116, op := Go.Op.load 48 (Go.Operand.tmp 115), type := 48, pos := "law.go:198", after := #[{ on := 8, ground := Go.Ground.data }], guard := none }) (v := ?_) rfl (by kernel_rfl) (by kernel_rfl) (by kernel_rfl) (fun _ _ _ h => h) (Or.inl ⟨by rfl, ?_⟩) hHeld ?_
        rotate_left 1
        · intro W hSw
          obtain ⟨s1, s2, s3⟩ := hSw
          go_simp
          try with_reducible rfl
        simp only [Act.put, List.setIfInBounds_toArray, List.set_cons_zero, List.set_cons_succ]
        refine wpAnyH_take (i := 10) (oi := { dst := some 117, op := Go.Op.move (Go.Operand.tmp 11), type := 3, pos := "law.go:198", after := #[], guard := none }) (v := ?_) rfl (by kernel_rfl) (by kernel_rfl) (by kernel_rfl) (fun _ _ _ h => h) (Or.inl ⟨by rfl, ?_⟩) hHeld ?_
        rotate_left 1
        · intro W hSw
          obtain ⟨s1, s2, s3⟩ := hSw
          go_simp
          try with_reducible rfl
        simp only [Act.put, List.setIfInBounds_toArray, List.set_cons_zero, List.set_cons_succ]
        refine wpAnyH_take (i := 11) (oi := { dst := some 118, op := Go.Op.indexAddr 48 (Go.Operand.tmp 116) (Go.Operand.tmp 117), type := 0, pos := "law.go:198", after := #[{ on := 9, ground := Go.Ground.data }, { on := 10, ground := Go.Ground.data }], guard := none }) (v := ?_) rfl (by kernel_rfl) (by kernel_rfl) (by kernel_rfl) (fun _ _ _ h => h) (Or.inl ⟨by rfl, ?_⟩) hHeld ?_
        rotate_left 1
        · intro W hSw
          obtain ⟨s1, s2, s3⟩ := hSw
          go_simp
          try with_reducible rfl
        simp only [Act.put, List.setIfInBounds_toArray, List.set_cons_zero, List.set_cons_succ]
        refine wpAnyH_take (i := 12) (oi := { dst := some 119, op := Go.Op.fieldAddr 36 (Go.Operand.tmp 118) 1, type := 0, pos := "law.go:198", after := #[{ on := 11, ground := Go.Ground.data }], guard := none }) (v := ?_) rfl (by kernel_rfl) (by kernel_rfl) (by kernel_rfl) (fun _ _ _ h => h) (Or.inl ⟨by rfl, ?_⟩) hHeld ?_
        rotate_left 1
        · intro W hSw
          obtain ⟨s1, s2, s3⟩ := hSw
          go_simp
          try with_reducible rfl
        simp only [Act.put, List.setIfInBounds_toArray, List.set_cons_zero, List.set_cons_succ]
        refine wpAnyH_take (i := 13) (oi := { dst := some 120, op := Go.Op.load 33 (Go.Operand.tmp 119), type := 33, pos := "law.go:198", after := #[{ on := 12, ground := Go.Ground.data }], guard := none }) (v := ?_) rfl (by kernel_rfl) (by kernel_rfl) (by kernel_rfl) (fun _ _ _ h => h) (Or.inl ⟨by rfl, ?_⟩) hHeld ?_
        rotate_left 1
        · intro W hSw
          obtain ⟨s1, s2, s3⟩ := hSw
          go_simp
          try with_reducible rfl
        simp only [Act.put, List.setIfInBounds_toArray, List.set_cons_zero, List.set_cons_succ]
        refine wpAnyH_take (i := 14) (oi := { dst := some 121, op := Go.Op.indexAddr 33 (Go.Operand.tmp 120) (Go.Operand.const (Go.Value.int Go.IntKind.i64 0)), type := 0, pos := "law.go:198", after := #[{ on := 13, ground := Go.Ground.data }], guard := none }) (v := ?_) rfl (by kernel_rfl) (by kernel_rfl) (by kernel_rfl) (fun _ _ _ h => h) (Or.inl ⟨by rfl, ?_⟩) hHeld ?_
        rotate_left 1
        · intro W hSw
          obtain ⟨s1, s2, s3⟩ := hSw
          go_simp
          try with_reducible rfl
        simp only [Act.put, List.setIfInBounds_toArray, List.set_cons_zero, List.set_cons_succ]
        refine wpAnyH_take (i := 15) (oi := { dst := some 122, op := Go.Op.load 3 (Go.Operand.tmp 121), type := 3, pos := "law.go:198", after := #[{ on := 14, ground := Go.Ground.data }], guard := none }) (v := ?_) rfl (by kernel_rfl) (by kernel_rfl) (by kernel_rfl) (fun _ _ _ h => h) (Or.inl ⟨by rfl, ?_⟩) hHeld ?_
        rotate_left 1
        · intro W hSw
          obtain ⟨s1, s2, s3⟩ := hSw
          go_simp
          try with_reducible rfl
        simp only [Act.put, List.setIfInBounds_toArray, List.set_cons_zero, List.set_cons_succ]
        refine wpAnyH_take (i := 18) (oi := { dst := some 125, op := Go.Op.nilCheck (Go.Operand.tmp 107), type := 0, pos := "law.go:198", after := #[{ on := 0, ground := Go.Ground.data }], guard := none }) (v := ?_) rfl (by kernel_rfl) (by kernel_rfl) (by kernel_rfl) (fun _ _ _ h => h) (Or.inl ⟨by rfl, ?_⟩) hHeld ?_
        rotate_left 1
        · intro W hSw
          obtain ⟨s1, s2, s3⟩ := hSw
          go_simp
          try with_reducible rfl
        simp only [Act.put, List.setIfInBounds_toArray, List.set_cons_zero, List.set_cons_succ]
        refine wpAnyH_take (i := 19) (oi := { dst := some 126, op := Go.Op.fieldAddr 63 (Go.Operand.tmp 125) 3, type := 0, pos := "law.go:198", after := #[{ on := 18, ground := Go.Ground.data }], guard := none }) (v := ?_) rfl (by kernel_rfl) (by kernel_rfl) (by kernel_rfl) (fun _ _ _ h => h) (Or.inl ⟨by rfl, ?_⟩) hHeld ?_
        rotate_left 1
        · intro W hSw
          obtain ⟨s1, s2, s3⟩ := hSw
          go_simp
          try with_reducible rfl
        simp only [Act.put, List.setIfInBounds_toArray, List.set_cons_zero, List.set_cons_succ]
        refine wpAnyH_ready (rs := [7, 16]) (by kernel_rfl) (by simp) ?_
        refine AllReadyH.cons (o := { dst := some 114, op := Go.Op.load 33 (Go.Operand.tmp 113), type := 33, pos := "law.go:198", after := #[{ on := 6, ground := Go.Ground.data }], guard := none }) rfl (fun K hK => ?_) (AllReadyH.cons (o := { dst := some 123, op := Go.Op.buildSlice 33 1 #[(0, Go.Operand.tmp 122)], type := 33, pos := "law.go:198", after := #[{ on := 15, ground := Go.Ground.data }], guard := none }) rfl (fun K hK => ?_) AllReadyH.nil)
        · go_simp
          refine hK.out _ _ HS0.out (fun hHeld => ?_)
          clear hK K
          refine wpAnyH_ready (rs := [16]) (by kernel_rfl) (by simp) ?_
          refine AllReadyH.cons (o := { dst := some 123, op := Go.Op.buildSlice 33 1 #[(0, Go.Operand.tmp 122)], type := 33, pos := "law.go:198", after := #[{ on := 15, ground := Go.Ground.data }], guard := none }) rfl (fun K hK => ?_) AllReadyH.nil
          go_simp
          refine hK.out _ _ HS1.out (fun hHeld => ?_)
          clear hK K
          refine wpAnyH_ready (rs := [17]) (by kernel_rfl) (by simp) ?_
          refine AllReadyH.cons (o := { dst := some 124, op := Go.Op.call { callee := Go.Callee.builtin Go.Builtin.append, args := #[Go.Operand.tmp 114, Go.Operand.tmp 123], argTypes := #[33, 33] }, type := 33, pos := "law.go:198", after := #[{ on := 7, ground := Go.Ground.data }, { on := 16, ground := Go.Ground.data }], guard := none }) rfl (fun K hK => ?_) AllReadyH.nil
          refine step_append_all (by rfl) _ _ (by rfl) Try.underlying33 ji0 jz0 jz1 jz2 rfl (by decide) (by rfl) HO5.out (some ⟨wy.heap.size, 0, none⟩) [.int .i64 (m : Int)] 1 1 (by rfl) (by rfl) (fun h => by cases h) HNW.out (by simp [Value.oneCell']) (by unfold maxLen; omega) (by omega) HZ5.out ?_
          intro v9 w9 hown9 hg9 hv9
          obtain ⟨va9, vc9, hv9s⟩ := own_slice hown9
          subst hv9s
          have HG9 := Hid.mk (HMO.out w9 (by rw [HP.out]; exact hg9))
          obtain ⟨q2, q3⟩ := HG9.out.cell
          rw [HP.out] at q2
          have HF9 := Hid.mk (HG9.out.fin _ hown9 (by rw [HP.out]; exact hv9))
          clear hown9 hg9 hv9
          refine hK.out _ _ HG9.out.s9 (fun hHeld => ?_)
          clear hK K
          refine wpAnyH_take (i := 20) (oi := { dst := some 127, op := Go.Op.indexAddr 61 (Go.Operand.tmp 126) (Go.Operand.tmp 108), type := 0, pos := "law.go:198", after := #[{ on := 19, ground := Go.Ground.data }, { on := 1, ground := Go.Ground.data }, { on := 0, ground := Go.Ground.phase }, { on := 1, ground := Go.Ground.phase }, { on := 2, ground := Go.Ground.phase }, { on := 3, ground := Go.Ground.phase }, { on := 4, ground := Go.Ground.phase }, { on := 5, ground := Go.Ground.phase }, { on := 6, ground := Go.Ground.phase }, { on := 7, ground := Go.Ground.phase }, { on := 8, ground := Go.Ground.phase }, { on := 9, ground := Go.Ground.phase }, { on := 10, ground := Go.Ground.phase }, { on := 11, ground := Go.Ground.phase }, { on := 12, ground := Go.Ground.phase }, { on := 13, ground := Go.Ground.phase }, { on := 14, ground := Go.Ground.phase }, { on := 15, ground := Go.Ground.phase }, { on := 16, ground := Go.Ground.phase }, { on := 17, ground := Go.Ground.phase }], guard := none }) (v := ?_) rfl (by kernel_rfl) (by kernel_rfl) (by kernel_rfl) (fun _ _ _ h => h) (Or.inl ⟨by rfl, ?_⟩) hHeld ?_
          rotate_left 1
          · intro W hSw
            obtain ⟨s1, s2, s3⟩ := hSw
            go_simp
            try with_reducible rfl
          simp only [Act.put, List.setIfInBounds_toArray, List.set_cons_zero, List.set_cons_succ]
          refine wpAnyH_ready (rs := [21]) (by kernel_rfl) (by simp) ?_
          refine AllReadyH.cons (o := { dst := none, op := Go.Op.store 33 (Go.Operand.tmp 127) (Go.Operand.tmp 124), type := 0, pos := "law.go:198", after := #[{ on := 20, ground := Go.Ground.data }, { on := 17, ground := Go.Ground.data }, { on := 17, ground := Go.Ground.chain }, { on := 0, ground := Go.Ground.phase }, { on := 1, ground := Go.Ground.phase }, { on := 2, ground := Go.Ground.phase }, { on := 3, ground := Go.Ground.phase }, { on := 4, ground := Go.Ground.phase }, { on := 5, ground := Go.Ground.phase }, { on := 6, ground := Go.Ground.phase }, { on := 7, ground := Go.Ground.phase }, { on := 8, ground := Go.Ground.phase }, { on := 9, ground := Go.Ground.phase }, { on := 10, ground := Go.Ground.phase }, { on := 11, ground := Go.Ground.phase }, { on := 12, ground := Go.Ground.phase }, { on := 13, ground := Go.Ground.phase }, { on := 14, ground := Go.Ground.phase }, { on := 15, ground := Go.Ground.phase }, { on := 16, ground := Go.Ground.phase }, { on := 17, ground := Go.Ground.phase }], guard := none }) rfl (fun K hK => ?_) AllReadyH.nil
          go_simp
          refine hK.out _ _ (HG9.out.s10 _) (fun hHeld => ?_)
          clear hK K
          refine wpAnyH_done (by kernel_rfl) ?_ _
          clear q2 q3 HG9
          go_wp2
          go_roundw
          case rel => exact ⟨1, _, _, by go_num, by omega, HF9.out, HVB.out, fun g hg => .inl (.inl (HSB.out g hg))⟩
          case measure => simp [intOf]
        · go_simp
          refine hK.out _ _ HS1.out (fun hHeld => ?_)
          clear hK K
          refine wpAnyH_ready (rs := [7]) (by kernel_rfl) (by simp) ?_
          refine AllReadyH.cons (o := { dst := some 114, op := Go.Op.load 33 (Go.Operand.tmp 113), type := 33, pos := "law.go:198", after := #[{ on := 6, ground := Go.Ground.data }], guard := none }) rfl (fun K hK => ?_) AllReadyH.nil
          go_simp
          refine hK.out _ _ HS1.out (fun hHeld => ?_)
          clear hK K
          refine wpAnyH_ready (rs := [17]) (by kernel_rfl) (by simp) ?_
          refine AllReadyH.cons (o := { dst := some 124, op := Go.Op.call { callee := Go.Callee.builtin Go.Builtin.append, args := #[Go.Operand.tmp 114, Go.Operand.tmp 123], argTypes := #[33, 33] }, type := 33, pos := "law.go:198", after := #[{ on := 7, ground := Go.Ground.data }, { on := 16, ground := Go.Ground.data }], guard := none }) rfl (fun K hK => ?_) AllReadyH.nil
          refine step_append_all (by rfl) _ _ (by rfl) Try.underlying33 ji0 jz0 jz1 jz2 rfl (by decide) (by rfl) HO5.out (some ⟨wy.heap.size, 0, none⟩) [.int .i64 (m : Int)] 1 1 (by rfl) (by rfl) (fun h => by cases h) HNW.out (by simp [Value.oneCell']) (by unfold maxLen; omega) (by omega) HZ5.out ?_
          intro v9 w9 hown9 hg9 hv9
          obtain ⟨va9, vc9, hv9s⟩ := own_slice hown9
          subst hv9s
          have HG9 := Hid.mk (HMO.out w9 (by rw [HP.out]; exact hg9))
          obtain ⟨q2, q3⟩ := HG9.out.cell
          rw [HP.out] at q2
          have HF9 := Hid.mk (HG9.out.fin _ hown9 (by rw [HP.out]; exact hv9))
          clear hown9 hg9 hv9
          refine hK.out _ _ HG9.out.s9 (fun hHeld => ?_)
          clear hK K
          refine wpAnyH_take (i := 20) (oi := { dst := some 127, op := Go.Op.indexAddr 61 (Go.Operand.tmp 126) (Go.Operand.tmp 108), type := 0, pos := "law.go:198", after := #[{ on := 19, ground := Go.Ground.data }, { on := 1, ground := Go.Ground.data }, { on := 0, ground := Go.Ground.phase }, { on := 1, ground := Go.Ground.phase }, { on := 2, ground := Go.Ground.phase }, { on := 3, ground := Go.Ground.phase }, { on := 4, ground := Go.Ground.phase }, { on := 5, ground := Go.Ground.phase }, { on := 6, ground := Go.Ground.phase }, { on := 7, ground := Go.Ground.phase }, { on := 8, ground := Go.Ground.phase }, { on := 9, ground := Go.Ground.phase }, { on := 10, ground := Go.Ground.phase }, { on := 11, ground := Go.Ground.phase }, { on := 12, ground := Go.Ground.phase }, { on := 13, ground := Go.Ground.phase }, { on := 14, ground := Go.Ground.phase }, { on := 15, ground := Go.Ground.phase }, { on := 16, ground := Go.Ground.phase }, { on := 17, ground := Go.Ground.phase }], guard := none }) (v := ?_) rfl (by kernel_rfl) (by kernel_rfl) (by kernel_rfl) (fun _ _ _ h => h) (Or.inl ⟨by rfl, ?_⟩) hHeld ?_
          rotate_left 1
          · intro W hSw
            obtain ⟨s1, s2, s3⟩ := hSw
            go_simp
            try with_reducible rfl
          simp only [Act.put, List.setIfInBounds_toArray, List.set_cons_zero, List.set_cons_succ]
          refine wpAnyH_ready (rs := [21]) (by kernel_rfl) (by simp) ?_
          refine AllReadyH.cons (o := { dst := none, op := Go.Op.store 33 (Go.Operand.tmp 127) (Go.Operand.tmp 124), type := 0, pos := "law.go:198", after := #[{ on := 20, ground := Go.Ground.data }, { on := 17, ground := Go.Ground.data }, { on := 17, ground := Go.Ground.chain }, { on := 0, ground := Go.Ground.phase }, { on := 1, ground := Go.Ground.phase }, { on := 2, ground := Go.Ground.phase }, { on := 3, ground := Go.Ground.phase }, { on := 4, ground := Go.Ground.phase }, { on := 5, ground := Go.Ground.phase }, { on := 6, ground := Go.Ground.phase }, { on := 7, ground := Go.Ground.phase }, { on := 8, ground := Go.Ground.phase }, { on := 9, ground := Go.Ground.phase }, { on := 10, ground := Go.Ground.phase }, { on := 11, ground := Go.Ground.phase }, { on := 12, ground := Go.Ground.phase }, { on := 13, ground := Go.Ground.phase }, { on := 14, ground := Go.Ground.phase }, { on := 15, ground := Go.Ground.phase }, { on := 16, ground := Go.Ground.phase }, { on := 17, ground := Go.Ground.phase }], guard := none }) rfl (fun K hK => ?_) AllReadyH.nil
          go_simp
          refine hK.out _ _ (HG9.out.s10 _) (fun hHeld => ?_)
          clear hK K
          refine wpAnyH_done (by kernel_rfl) ?_ _
          clear q2 q3 HG9
          go_wp2
          go_roundw
          case rel => exact ⟨1, _, _, by go_num, by omega, HF9.out, HVB.out, fun g hg => .inl (.inl (HSB.out g hg))⟩
          case measure => simp [intOf]
      · obtain rfl : j = l0 := by omega
        have CS := Hid.mk (sends_any HCM.out.ln hk2 (.slice a1 l1 c1) ps HCM.out.tx (by have := HPL.out; omega))
        go_wp2_with fail
        refine CS.out.mono ?_
        clear CS
        rintro r w10 ⟨rfl, T10, v10, hl10, hs10⟩
        have HE : Hid (ComE w0 T x V e U n c k false (.returned (.tuple #[])) w10) := Hid.mk (by
          refine ⟨rfl, .inr ⟨i, s, f', ns, ps, T10, { V' with u := upd V'.u (1 - k) v10 }, HSI.out, HTK.out, ?_, HVB.out, fun g hg => hs10 g (HSB.out g hg)⟩⟩
          rw [HE'.out, HU'.out, HK2.out, HL0.out] at hl10
          have e2 : (upd U k ((U k).eraseIdx i)) (1 - k) = U (1 - k) := upd_ne (ne_k hk)
          rw [e2] at hl10
          rw [if_neg (by decide)]
          exact hl10)
        clear hl10 hs10
        go_wp2
        go_end0
        exact HE.out

end
end Go.Proofs.Ytifmpcldiimdbaa
