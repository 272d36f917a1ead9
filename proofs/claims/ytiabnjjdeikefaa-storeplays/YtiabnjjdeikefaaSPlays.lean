/- A store has all versions. -/
import Derived.Test.YtiabnjjdeikefaaSPlayM
namespace Go.Proofs.Ytiabnjjdeikefaa
open Go.RowKit

set_option maxHeartbeats 16000000 in
set_option maxRecDepth 100000 in
theorem storePlays_walk (v1 : Value) (bs : List (Value × List Chg)) (v2 : Value) (zs : List Int) (like : Tri) (w : World) (h1 : BatsA w v1 bs) (h2 : NumsA w v2 zs) :
    Calls Try.prog 3 #[v1, v2, encT like] w fun e w' => e = .returned (.bool true) ∧ Below w.heap.size w w' := by
  obtain ⟨a1, c1, hv1⟩ := h1.1.slice
  subst hv1
  obtain ⟨a2, c2, hv2⟩ := h2.1.slice
  subst hv2
  have H1 := Hid.mk h1
  have H2 := Hid.mk h2
  obtain ⟨n1, hn1⟩ : ∃ n, n = bs.length := ⟨_, rfl⟩
  rw [← hn1] at H1 ⊢
  have HN1 := Hid.mk hn1
  obtain ⟨n2, hn2⟩ : ∃ n, n = zs.length := ⟨_, rfl⟩
  rw [← hn2] at H2 ⊢
  have HN2 := Hid.mk hn2
  clear hn1 hn2 h1 h2
  obtain ⟨W1, hW1⟩ : ∃ W1, W1 = w.alloc (.cells #[strV like.1, strV like.2.1, strV like.2.2] 25) := ⟨_, rfl⟩
  have HW1 := Hid.mk hW1
  have HB1 : Hid (Below w.heap.size w W1) := Hid.mk (by rw [hW1]; exact (Below.refl _ _).alloc (Nat.le_refl _) _)
  clear hW1
  have C0 := Hid.mk (live_new W1)
  go_enter Try.func3, Try.ntmps3
  go_wp2_with fail
  rw [← HW1.out]
  refine C0.out.mono ?_
  rintro e w1 ⟨b, rfl, hl1⟩
  have L1 := Hid.mk hl1
  have C1 := Hid.mk (rNew_any w1)
  clear hl1 C0
  go_wp2_with fail
  refine C1.out.mono ?_
  rintro e w2 ⟨vq, rfl, hr2, hb2⟩
  obtain ⟨aq, cq, hvq⟩ := hr2.sl.sl.slice
  have hvq : vq = .slice aq 1 cq := hvq
  obtain ⟨W3, hW3⟩ : ∃ W3, W3 = w2.alloc (.cells #[vq] 30) := ⟨_, rfl⟩
  have PL : Hid (Pl W1 W3 (Plus (fun k => k < W1.heap.size) w1.heap.size W3.heap.size) b w2.heap.size [[]] vq [(.slice none 0 0, [])]) := Hid.mk (by
    have b3 : Below w2.heap.size w2 W3 := by rw [hW3]; exact (Below.refl _ _).alloc (Nat.le_refl _) _
    have b13 : Below w1.heap.size w1 W3 := hb2.trans (b3.mono hb2.size)
    refine ⟨L1.out.plus b13, .inr ⟨hb2.size, by rw [hW3]; simp⟩, Nat.le_trans L1.out.bel.size hb2.size, by rw [hW3]; exact box_at w2 _, (hr2.below b3).sub (fun k hk _ => ⟨.inr ⟨hk.1, by have := b3.size; omega⟩, by omega⟩), rfl⟩)
  have HW3 := Hid.mk hW3
  subst hvq
  clear hr2 C1 hb2 hW3 L1
  go_wp2_with fail
  rw [← HW3.out]
  obtain ⟨qb, hqb⟩ : ∃ qb, qb = w2.heap.size := ⟨_, rfl⟩
  rw [← hqb] at PL ⊢
  clear hqb
  go_loopw [9] (fun c wr => ∃ (i : Nat) (S : Nat → Prop) (All : List (List Tri)) (vq : Value) (ps : List (Value × List Tri)), i ≤ 40 ∧ c = .int .i64 i ∧ All.length ≤ i + 1 ∧ Pl W1 wr S b qb All vq ps) (fun c _ => 40 - (intOf c).toNat)
  case atStart => exact ⟨0, _, _, _, _, by omega, rfl, by simp, PL.out⟩
  case round =>
    obtain ⟨i, S4, All, vq4, ps, hi, rfl, hAl, hp4⟩ := hrel
    have P4 := Hid.mk hp4
    obtain ⟨a4, c4, hv4⟩ := hp4.all.sl.sl.slice
    subst hv4
    obtain ⟨N, hN⟩ : ∃ N, N = ps.length := ⟨_, rfl⟩
    have hNA : N = All.length := by rw [hN, ← hp4.eq, List.length_map]
    have hone : 1 ≤ N := by
      obtain ⟨ts, hh⟩ := hp4.live.hist
      have := hh.one
      omega
    rw [← hN] at P4
    have HN := Hid.mk hN
    have HNA := Hid.mk hNA
    have hN41 : N ≤ 41 := by omega
    obtain ⟨x0, z0⟩ := hp4.cell
    rw [← hN] at x0
    clear hp4 hN hNA
    obtain ⟨wx, hwx⟩ : ∃ wx, wx = wr := ⟨_, rfl⟩
    subst hwx
    have cut : (i < n1 ∧ i < 40) ∨ (¬ (i < n1 ∧ i < 40)) := by omega
    rcases cut with ⟨hlt, hlt40⟩ | hout
    · have hltI : (i : Int) < (n1 : Int) := by omega
      have hlt40I : (i : Int) < 40 := by omega
      obtain ⟨x, hx⟩ : ∃ x, bs[i]? = some x := ⟨_, List.getElem?_eq_getElem (by rw [← HN1.out]; exact hlt)⟩
      have HBW := Hid.mk (HB1.out.trans (P4.out.live.bel.mono HB1.out.size))
      have HBA := Hid.mk (H1.out.below HBW.out)
      obtain ⟨g, off, hao, _, hgb, hcell⟩ := HBA.out.1.get hx
      subst hao
      have q0 := hcell 0 _ rfl
      rw [show off + i * 1 + 0 = off + i by omega] at q0
      have HXC := Hid.mk (HBA.out.2.1 x (List.mem_of_getElem? hx))
      clear hcell
      by_cases hi2 : i < n2
      · have hi2I : (i : Int) < (n2 : Int) := by omega
        obtain ⟨z, hz⟩ : ∃ z, zs[i]? = some z := ⟨_, List.getElem?_eq_getElem (by rw [← HN2.out]; exact hi2)⟩
        obtain ⟨g2, off2, hao2, _, hgb2, hcell2⟩ := (H2.out.1.below HBW.out).get hz
        subst hao2
        have q2 := hcell2 0 _ rfl
        rw [show off2 + i * 1 + 0 = off2 + i by omega] at q2
        have hand := i64_mask z 2 3 4 (by omega) (by decide) (by decide)
        obtain ⟨tm, htm⟩ : ∃ k : Nat, z % 4 = (k : Int) := ⟨(z % 4).toNat, by omega⟩
        have htm3 : tm ≤ 3 := by omega
        rw [htm] at hand
        clear hcell2 htm hz hx

        -- the region
        obtain ⟨p, hp⟩ : ∃ p, ps[N - 1]? = some p := ⟨_, List.getElem?_eq_getElem (by rw [← HN.out]; omega)⟩
        have hpm := List.mem_of_getElem? hp
        have hlast : lastT All = p.2 := by
          have h2 := lastT_at (All := All) (by rw [← HNA.out]; exact hone)
          rw [← HNA.out, ← P4.out.eq, List.getElem?_map, hp] at h2
          rw [← P4.out.eq]
          exact (Option.some.inj h2).symm
        have hfew : p.2.length ≤ 4096 := by
          obtain ⟨ts, hh⟩ := P4.out.live.hist
          exact hh.few _ (by rw [← P4.out.eq]; exact List.mem_map.2 ⟨p, hpm, rfl⟩)
        obtain ⟨j, hj⟩ : ∃ j, j = N - 1 := ⟨_, rfl⟩
        have hjw : IntKind.i64.wrap ((N : Int) - 1) = (j : Int) := by rw [IntKind.wrap_i64]; omega
        obtain ⟨g4, o4, hao4, _, hgb4, hcell4⟩ := P4.out.all.sl.sl.get hp
        subst hao4
        have q4 := hcell4 0 _ rfl
        rw [show o4 + (N - 1) * 1 + 0 = o4 + j by omega] at q4
        have hjn : j < N := by omega
        have hjnI : (j : Int) < (N : Int) := by omega
        clear hj hp
        have HD : Hid (Below wx.heap.size wx wx.drew) := Hid.mk (Below.refl _ _).drew
        have HCC : Hid (∀ u, Below wx.heap.size wx u → u.cell? ⟨g, off + i, none⟩ = some x.1 ∧ u.cell? ⟨qb, 0, none⟩ = some (.slice (some ⟨g4, o4, none⟩) N c4) ∧ u.cell? ⟨g4, o4 + j, none⟩ = some p.1) := Hid.mk (fun u hu => ⟨(hu.cell (p := ⟨g, off + i, none⟩) hgb).trans q0, (hu.cell (p := ⟨qb, 0, none⟩) P4.out.lt).trans x0, (hu.cell (p := ⟨g4, o4 + j, none⟩) hgb4).trans q4⟩)
        have CM := Hid.mk (fun u (hu : Below wx.heap.size wx u) => rMay_any (HXC.out.below hu))
        have CR := Hid.mk (fun u (hu : Below wx.heap.size wx u) => room_any (P4.out.live.below hu).q (HXC.out.below hu).1 HXC.out.len)
        obtain ⟨ver, hver⟩ : ∃ ver : Int, ver = (N : Int) + (tm : Int) - 1 := ⟨_, rfl⟩
        have HFW : Hid (∀ p ∈ ps, p.2.length ≤ 4096) := Hid.mk (fun p hp => by
          obtain ⟨ts, hh⟩ := P4.out.live.hist
          exact hh.few _ (by rw [← P4.out.eq]; exact List.mem_map.2 ⟨p, hp, rfl⟩))
        cases hmay : mayT x.2 with
        | false =>
          rw [hmay] at CM
          go_wp2_with fail
          rw [← hver]
          clear hver
          refine wp_region_held_drew (S := (fun w' => w'.cell? ⟨g, off + i, none⟩ = some x.1 ∧ w'.cell? ⟨qb, 0, none⟩ = some (.slice (some ⟨g4, o4, none⟩) N c4) ∧ w'.cell? ⟨g4, o4 + j, none⟩ = some p.1)) (by kernel_rfl) ?_ (fun hHeld => ?_)
          · exact ⟨q0, x0, q4⟩
          refine wpAnyH_take (i := 0) (oi := { dst := some 52, op := Op.move (Operand.tmp 0), type := 22, pos := "law.go:38", after := #[], guard := none }) (v := .slice (some ⟨g, off, none⟩) n1 c1) rfl (by kernel_rfl) (by kernel_rfl) (by kernel_rfl) (fun _ _ _ h => h) (Or.inl ⟨by rfl, ?_⟩) hHeld ?_
          · intro W hSw
            obtain ⟨t0, t1, t2⟩ := hSw
            go_simp
          simp only [Act.put, List.setIfInBounds_toArray, List.set_cons_zero, List.set_cons_succ]
          refine wpAnyH_take (i := 1) (oi := { dst := some 53, op := Op.move (Operand.tmp 9), type := 3, pos := "law.go:38", after := #[], guard := none }) (v := .int .i64 (i : Int)) rfl (by kernel_rfl) (by kernel_rfl) (by kernel_rfl) (fun _ _ _ h => h) (Or.inl ⟨by rfl, ?_⟩) hHeld ?_
          · intro W hSw
            obtain ⟨t0, t1, t2⟩ := hSw
            go_simp
          simp only [Act.put, List.setIfInBounds_toArray, List.set_cons_zero, List.set_cons_succ]
          refine wpAnyH_take (i := 2) (oi := { dst := some 54, op := Op.indexAddr 22 (Operand.tmp 52) (Operand.tmp 53), type := 0, pos := "law.go:38", after := #[{ on := 0, ground := Ground.data }, { on := 1, ground := Ground.data }], guard := none }) (v := .pointer (some ⟨g, off + i, none⟩)) rfl (by kernel_rfl) (by kernel_rfl) (by kernel_rfl) (fun _ _ _ h => h) (Or.inl ⟨by rfl, ?_⟩) hHeld ?_
          · intro W hSw
            obtain ⟨t0, t1, t2⟩ := hSw
            go_simp
          simp only [Act.put, List.setIfInBounds_toArray, List.set_cons_zero, List.set_cons_succ]
          refine wpAnyH_take (i := 3) (oi := { dst := some 55, op := Op.load 33 (Operand.tmp 54), type := 33, pos := "law.go:38", after := #[{ on := 2, ground := Ground.data }], guard := none }) (v := x.1) rfl (by kernel_rfl) (by kernel_rfl) (by kernel_rfl) (fun _ _ _ h => h) (Or.inl ⟨by rfl, ?_⟩) hHeld ?_
          · intro W hSw
            obtain ⟨t0, t1, t2⟩ := hSw
            go_simp
          simp only [Act.put, List.setIfInBounds_toArray, List.set_cons_zero, List.set_cons_succ]
          refine wpAnyH_ready (rs := [4]) (by kernel_rfl) (by simp) ?_
          refine AllReadyH.cons (o := { dst := some 56, op := Op.call { callee := Callee.value (Operand.func 11), args := #[Operand.tmp 55], argTypes := #[33] }, type := 4, pos := "law.go:38", after := #[{ on := 3, ground := Ground.data }], guard := none }) rfl (fun K hK => ?_) AllReadyH.nil
          go_simp
          refine (CM.out _ HD.out).mono ?_
          rintro e w5 ⟨rfl, hb5⟩
          have HB5 := Hid.mk (HD.out.trans (hb5.mono HD.out.size))
          clear hb5
          go_wp2_with fail
          refine hK.out _ _ (HCC.out w5 HB5.out) (fun hHeld => ?_)
          clear hK K
          refine wpAnyH_take (i := 5) (oi := { dst := some 57, op := Op.move (Operand.tmp 56), type := 4, pos := "law.go:38", after := #[{ on := 4, ground := Ground.data }, { on := 4, ground := Ground.chain }], guard := none }) (v := .bool false) rfl (by kernel_rfl) (by kernel_rfl) (by kernel_rfl) (fun _ _ _ h => h) (Or.inl ⟨by rfl, ?_⟩) hHeld ?_
          · intro W hSw
            obtain ⟨t0, t1, t2⟩ := hSw
            go_simp
          simp only [Act.put, List.setIfInBounds_toArray, List.set_cons_zero, List.set_cons_succ]
          refine wpAnyH_take (i := 6) (oi := { dst := some 58, op := Op.move (Operand.tmp 7), type := 26, pos := "law.go:38", after := #[{ on := 5, ground := Ground.guard }], guard := some (5, true) }) (v := undef) rfl (by kernel_rfl) (by kernel_rfl) (by kernel_rfl) (fun _ _ _ h => h) (Or.inr ⟨by rfl, rfl⟩) hHeld ?_
          simp only [Act.put, List.setIfInBounds_toArray, List.set_cons_zero, List.set_cons_succ]
          refine wpAnyH_take (i := 7) (oi := { dst := some 59, op := Op.move (Operand.tmp 0), type := 22, pos := "law.go:38", after := #[{ on := 5, ground := Ground.guard }], guard := some (5, true) }) (v := undef) rfl (by kernel_rfl) (by kernel_rfl) (by kernel_rfl) (fun _ _ _ h => h) (Or.inr ⟨by rfl, rfl⟩) hHeld ?_
          simp only [Act.put, List.setIfInBounds_toArray, List.set_cons_zero, List.set_cons_succ]
          refine wpAnyH_take (i := 8) (oi := { dst := some 60, op := Op.move (Operand.tmp 9), type := 3, pos := "law.go:38", after := #[{ on := 5, ground := Ground.guard }], guard := some (5, true) }) (v := undef) rfl (by kernel_rfl) (by kernel_rfl) (by kernel_rfl) (fun _ _ _ h => h) (Or.inr ⟨by rfl, rfl⟩) hHeld ?_
          simp only [Act.put, List.setIfInBounds_toArray, List.set_cons_zero, List.set_cons_succ]
          refine wpAnyH_take (i := 9) (oi := { dst := some 61, op := Op.indexAddr 22 (Operand.tmp 59) (Operand.tmp 60), type := 0, pos := "law.go:38", after := #[{ on := 7, ground := Ground.data }, { on := 8, ground := Ground.data }, { on := 5, ground := Ground.guard }], guard := some (5, true) }) (v := undef) rfl (by kernel_rfl) (by kernel_rfl) (by kernel_rfl) (fun _ _ _ h => h) (Or.inr ⟨by rfl, rfl⟩) hHeld ?_
          simp only [Act.put, List.setIfInBounds_toArray, List.set_cons_zero, List.set_cons_succ]
          refine wpAnyH_take (i := 10) (oi := { dst := some 62, op := Op.load 33 (Operand.tmp 61), type := 33, pos := "law.go:38", after := #[{ on := 9, ground := Ground.data }, { on := 5, ground := Ground.guard }], guard := some (5, true) }) (v := undef) rfl (by kernel_rfl) (by kernel_rfl) (by kernel_rfl) (fun _ _ _ h => h) (Or.inr ⟨by rfl, rfl⟩) hHeld ?_
          simp only [Act.put, List.setIfInBounds_toArray, List.set_cons_zero, List.set_cons_succ]
          refine wpAnyH_take (i := 11) (oi := { dst := some 63, op := Op.call { callee := Callee.value (Operand.func 12), args := #[Operand.tmp 58, Operand.tmp 62], argTypes := #[26, 33] }, type := 4, pos := "law.go:38", after := #[{ on := 6, ground := Ground.data }, { on := 10, ground := Ground.data }, { on := 5, ground := Ground.chain }, { on := 5, ground := Ground.guard }], guard := some (5, true) }) (v := undef) rfl (by kernel_rfl) (by kernel_rfl) (by kernel_rfl) (fun _ _ _ h => h) (Or.inr ⟨by rfl, rfl⟩) hHeld ?_
          simp only [Act.put, List.setIfInBounds_toArray, List.set_cons_zero, List.set_cons_succ]
          refine wpAnyH_take (i := 12) (oi := { dst := some 64, op := Op.fieldAddr 30 (Operand.tmp 8) 0, type := 0, pos := "law.go:38", after := #[{ on := 5, ground := Ground.guard }], guard := some (5, true) }) (v := undef) rfl (by kernel_rfl) (by kernel_rfl) (by kernel_rfl) (fun _ _ _ h => h) (Or.inr ⟨by rfl, rfl⟩) hHeld ?_
          simp only [Act.put, List.setIfInBounds_toArray, List.set_cons_zero, List.set_cons_succ]
          refine wpAnyH_take (i := 13) (oi := { dst := some 65, op := Op.load 28 (Operand.tmp 64), type := 28, pos := "law.go:38", after := #[{ on := 12, ground := Ground.data }, { on := 5, ground := Ground.guard }], guard := some (5, true) }) (v := undef) rfl (by kernel_rfl) (by kernel_rfl) (by kernel_rfl) (fun _ _ _ h => h) (Or.inr ⟨by rfl, rfl⟩) hHeld ?_
          simp only [Act.put, List.setIfInBounds_toArray, List.set_cons_zero, List.set_cons_succ]
          refine wpAnyH_take (i := 14) (oi := { dst := some 66, op := Op.fieldAddr 30 (Operand.tmp 8) 0, type := 0, pos := "law.go:38", after := #[{ on := 5, ground := Ground.guard }], guard := some (5, true) }) (v := undef) rfl (by kernel_rfl) (by kernel_rfl) (by kernel_rfl) (fun _ _ _ h => h) (Or.inr ⟨by rfl, rfl⟩) hHeld ?_
          simp only [Act.put, List.setIfInBounds_toArray, List.set_cons_zero, List.set_cons_succ]
          refine wpAnyH_take (i := 15) (oi := { dst := some 67, op := Op.load 28 (Operand.tmp 66), type := 28, pos := "law.go:38", after := #[{ on := 14, ground := Ground.data }, { on := 5, ground := Ground.guard }], guard := some (5, true) }) (v := undef) rfl (by kernel_rfl) (by kernel_rfl) (by kernel_rfl) (fun _ _ _ h => h) (Or.inr ⟨by rfl, rfl⟩) hHeld ?_
          simp only [Act.put, List.setIfInBounds_toArray, List.set_cons_zero, List.set_cons_succ]
          refine wpAnyH_take (i := 16) (oi := { dst := some 68, op := Op.call { callee := Callee.builtin Builtin.len, args := #[Operand.tmp 67], argTypes := #[28] }, type := 3, pos := "law.go:38", after := #[{ on := 15, ground := Ground.data }, { on := 5, ground := Ground.guard }], guard := some (5, true) }) (v := undef) rfl (by kernel_rfl) (by kernel_rfl) (by kernel_rfl) (fun _ _ _ h => h) (Or.inr ⟨by rfl, rfl⟩) hHeld ?_
          simp only [Act.put, List.setIfInBounds_toArray, List.set_cons_zero, List.set_cons_succ]
          refine wpAnyH_take (i := 17) (oi := { dst := some 69, op := Op.binOp BinOp.sub 3 (Operand.tmp 68) (Operand.const (Value.int IntKind.i64 1)) 3, type := 3, pos := "law.go:38", after := #[{ on := 16, ground := Ground.data }, { on := 5, ground := Ground.guard }], guard := some (5, true) }) (v := undef) rfl (by kernel_rfl) (by kernel_rfl) (by kernel_rfl) (fun _ _ _ h => h) (Or.inr ⟨by rfl, rfl⟩) hHeld ?_
          simp only [Act.put, List.setIfInBounds_toArray, List.set_cons_zero, List.set_cons_succ]
          refine wpAnyH_take (i := 18) (oi := { dst := some 70, op := Op.indexAddr 28 (Operand.tmp 65) (Operand.tmp 69), type := 0, pos := "law.go:38", after := #[{ on := 13, ground := Ground.data }, { on := 17, ground := Ground.data }, { on := 5, ground := Ground.guard }], guard := some (5, true) }) (v := undef) rfl (by kernel_rfl) (by kernel_rfl) (by kernel_rfl) (fun _ _ _ h => h) (Or.inr ⟨by rfl, rfl⟩) hHeld ?_
          simp only [Act.put, List.setIfInBounds_toArray, List.set_cons_zero, List.set_cons_succ]
          refine wpAnyH_take (i := 19) (oi := { dst := some 71, op := Op.load 34 (Operand.tmp 70), type := 34, pos := "law.go:38", after := #[{ on := 18, ground := Ground.data }, { on := 5, ground := Ground.guard }], guard := some (5, true) }) (v := undef) rfl (by kernel_rfl) (by kernel_rfl) (by kernel_rfl) (fun _ _ _ h => h) (Or.inr ⟨by rfl, rfl⟩) hHeld ?_
          simp only [Act.put, List.setIfInBounds_toArray, List.set_cons_zero, List.set_cons_succ]
          refine wpAnyH_take (i := 20) (oi := { dst := some 72, op := Op.move (Operand.tmp 0), type := 22, pos := "law.go:38", after := #[{ on := 5, ground := Ground.guard }], guard := some (5, true) }) (v := undef) rfl (by kernel_rfl) (by kernel_rfl) (by kernel_rfl) (fun _ _ _ h => h) (Or.inr ⟨by rfl, rfl⟩) hHeld ?_
          simp only [Act.put, List.setIfInBounds_toArray, List.set_cons_zero, List.set_cons_succ]
          refine wpAnyH_take (i := 21) (oi := { dst := some 73, op := Op.move (Operand.tmp 9), type := 3, pos := "law.go:38", after := #[{ on := 5, ground := Ground.guard }], guard := some (5, true) }) (v := undef) rfl (by kernel_rfl) (by kernel_rfl) (by kernel_rfl) (fun _ _ _ h => h) (Or.inr ⟨by rfl, rfl⟩) hHeld ?_
          simp only [Act.put, List.setIfInBounds_toArray, List.set_cons_zero, List.set_cons_succ]
          refine wpAnyH_take (i := 22) (oi := { dst := some 74, op := Op.indexAddr 22 (Operand.tmp 72) (Operand.tmp 73), type := 0, pos := "law.go:38", after := #[{ on := 20, ground := Ground.data }, { on := 21, ground := Ground.data }, { on := 5, ground := Ground.guard }], guard := some (5, true) }) (v := undef) rfl (by kernel_rfl) (by kernel_rfl) (by kernel_rfl) (fun _ _ _ h => h) (Or.inr ⟨by rfl, rfl⟩) hHeld ?_
          simp only [Act.put, List.setIfInBounds_toArray, List.set_cons_zero, List.set_cons_succ]
          refine wpAnyH_take (i := 23) (oi := { dst := some 75, op := Op.load 33 (Operand.tmp 74), type := 33, pos := "law.go:38", after := #[{ on := 22, ground := Ground.data }, { on := 5, ground := Ground.guard }], guard := some (5, true) }) (v := undef) rfl (by kernel_rfl) (by kernel_rfl) (by kernel_rfl) (fun _ _ _ h => h) (Or.inr ⟨by rfl, rfl⟩) hHeld ?_
          simp only [Act.put, List.setIfInBounds_toArray, List.set_cons_zero, List.set_cons_succ]
          refine wpAnyH_take (i := 24) (oi := { dst := some 76, op := Op.call { callee := Callee.value (Operand.func 13), args := #[Operand.tmp 71, Operand.tmp 75], argTypes := #[34, 33] }, type := 34, pos := "law.go:38", after := #[{ on := 19, ground := Ground.data }, { on := 23, ground := Ground.data }, { on := 11, ground := Ground.chain }, { on := 5, ground := Ground.guard }], guard := some (5, true) }) (v := undef) rfl (by kernel_rfl) (by kernel_rfl) (by kernel_rfl) (fun _ _ _ h => h) (Or.inr ⟨by rfl, rfl⟩) hHeld ?_
          simp only [Act.put, List.setIfInBounds_toArray, List.set_cons_zero, List.set_cons_succ]
          refine wpAnyH_take (i := 25) (oi := { dst := some 77, op := Op.call { callee := Callee.builtin Builtin.len, args := #[Operand.tmp 76], argTypes := #[34] }, type := 3, pos := "law.go:38", after := #[{ on := 24, ground := Ground.data }, { on := 5, ground := Ground.guard }], guard := some (5, true) }) (v := undef) rfl (by kernel_rfl) (by kernel_rfl) (by kernel_rfl) (fun _ _ _ h => h) (Or.inr ⟨by rfl, rfl⟩) hHeld ?_
          simp only [Act.put, List.setIfInBounds_toArray, List.set_cons_zero, List.set_cons_succ]
          refine wpAnyH_take (i := 26) (oi := { dst := some 78, op := Op.binOp BinOp.leq 3 (Operand.tmp 77) (Operand.const (Value.int IntKind.i64 4096)) 3, type := 4, pos := "law.go:38", after := #[{ on := 25, ground := Ground.data }, { on := 5, ground := Ground.guard }], guard := some (5, true) }) (v := undef) rfl (by kernel_rfl) (by kernel_rfl) (by kernel_rfl) (fun _ _ _ h => h) (Or.inr ⟨by rfl, rfl⟩) hHeld ?_
          simp only [Act.put, List.setIfInBounds_toArray, List.set_cons_zero, List.set_cons_succ]
          refine wpAnyH_take (i := 27) (oi := { dst := some 79, op := Op.binOp BinOp.neq 4 (Operand.tmp 63) (Operand.tmp 78) 4, type := 4, pos := "law.go:38", after := #[{ on := 11, ground := Ground.data }, { on := 26, ground := Ground.data }, { on := 5, ground := Ground.guard }], guard := some (5, true) }) (v := undef) rfl (by kernel_rfl) (by kernel_rfl) (by kernel_rfl) (fun _ _ _ h => h) (Or.inr ⟨by rfl, rfl⟩) hHeld ?_
          simp only [Act.put, List.setIfInBounds_toArray, List.set_cons_zero, List.set_cons_succ]
          refine wpAnyH_take (i := 28) (oi := { dst := some 80, op := Op.pick (Operand.tmp 57) (Operand.tmp 79) (Operand.const (Value.bool false)), type := 4, pos := "law.go:38", after := #[{ on := 5, ground := Ground.data }, { on := 27, ground := Ground.data }], guard := none }) (v := .bool false) rfl (by kernel_rfl) (by kernel_rfl) (by kernel_rfl) (fun _ _ _ h => h) (Or.inl ⟨by rfl, ?_⟩) hHeld ?_
          · intro W hSw
            obtain ⟨t0, t1, t2⟩ := hSw
            go_simp
          simp only [Act.put, List.setIfInBounds_toArray, List.set_cons_zero, List.set_cons_succ]
          refine wpAnyH_done (by kernel_rfl) ?_ _
          have HBN := HB5
          have PN := Hid.mk (P4.out.plus HBN.out)
          obtain ⟨s0, s1, s2⟩ := HCC.out w5 HBN.out
          have CA := Hid.mk (fun u (hu : Below w5.heap.size w5 u) => rApply_any (PN.out.all.below hu) ((HXC.out.below HBN.out).below hu) (by rw [← HN.out]; omega) (by rw [← HN.out]; exact hone) HFW.out ver)
          rw [PN.out.eq] at CA
          have HDA : Hid (Below w5.heap.size w5 w5.drew) := Hid.mk (Below.refl _ _).drew
          have HDB : Hid (Below w5.heap.size w5 (w5.drew.alloc (.cells #[.slice none 0 0] 30))) := Hid.mk ((Below.refl _ _).drew.alloc (Nat.le_refl _) _)
          have HNB : Hid (∀ u, Below (w5.drew.alloc (.cells #[.slice none 0 0] 30)).heap.size (w5.drew.alloc (.cells #[.slice none 0 0] 30)) u → u.heap[w5.heap.size]? = some (.cells #[.slice none 0 0] 30 (0, 0))) := Hid.mk (fun u hu => by
            have hx := box_at w5.drew (.cells #[.slice none 0 0] 30)
            exact (hu.block _ (lt_of_block hx)).trans hx)
          have HK : Hid (∀ u, Below w5.heap.size w5 u → u.cell? ⟨g, off + i, none⟩ = some x.1 ∧ u.cell? ⟨qb, 0, none⟩ = some (.slice (some ⟨g4, o4, none⟩) N c4)) := Hid.mk (fun u hu => by
            obtain ⟨t0, t1, _⟩ := HCC.out u (HBN.out.trans (hu.mono HBN.out.size))
            exact ⟨t0, t1⟩)
          have hqn : qb ≠ w5.heap.size := by have := PN.out.lt; omega
          have hgn : g ≠ w5.heap.size := by have := HBN.out.size; omega
          clear CM CR q0 q2 q4 x0 z0
          go_wp2_with fail
          go_region_held3 (fun w' => w'.cell? ⟨g, off + i, none⟩ = some x.1 ∧ w'.cell? ⟨qb, 0, none⟩ = some (.slice (some ⟨g4, o4, none⟩) N c4))
            (first | with_reducible exact HK.out _ HDB.out | with_reducible exact ⟨s0, s1⟩ | exact ⟨by assumption, by assumption⟩ | exact ⟨(World.cell?_setCell_other _ _ _ _ (by intro e; injection e with e1 _ _; omega)).trans y0, (World.cell?_setCell_other _ _ _ _ (by intro e; injection e with e1 _ _; omega)).trans y1⟩ | go_keep)
            (first | (go_at_call 14; refine (CA.out _ HDA.out).mono ?_; rintro e w8 ⟨v8, ps8, rfl, hr8, he8, hb8⟩; obtain ⟨y0, y1⟩ := HK.out w8 (HDA.out.trans (hb8.mono HDA.out.size)); obtain ⟨a8, c8, hv8⟩ := hr8.sl.sl.slice; subst hv8; have HR8 := Hid.mk hr8; have HE8 := Hid.mk he8; have HB8 := Hid.mk hb8; clear hr8 he8 hb8) | (go_at_call 14; refine (CA.out _ HDB.out).mono ?_; rintro e w8 ⟨v8, ps8, rfl, hr8, he8, hb8⟩; obtain ⟨y0, y1⟩ := HK.out w8 (HDB.out.trans (hb8.mono HDB.out.size)); obtain ⟨y2, y3⟩ := one_cell (HNB.out w8 hb8); obtain ⟨a8, c8, hv8⟩ := hr8.sl.sl.slice; subst hv8; have HR8 := Hid.mk hr8; have HE8 := Hid.mk he8; have HB8 := Hid.mk hb8; clear hr8 he8 hb8))
          · obtain ⟨WZ, hWZ⟩ : ∃ WZ, WZ = w8.alloc (.cells #[(.slice a8 ps8.length c8)] 30) := ⟨_, rfl⟩
            obtain ⟨nb, hnb⟩ : ∃ nb, nb = w8.heap.size := ⟨_, rfl⟩
            have hbz : Below w5.heap.size w5 WZ := by
              have b8 := HDA.out.trans (HB8.out.mono HDA.out.size)
              rw [hWZ]; exact b8.alloc b8.size _
            have hbox : WZ.heap[nb]? = some (.cells #[(.slice a8 ps8.length c8)] 30 (0, 0)) := by rw [hWZ, hnb]; exact box_at w8 _
            have hnl : w5.heap.size ≤ nb := by rw [hnb]; exact (HDA.out.trans (HB8.out.mono HDA.out.size)).size
            have hrz : RAll (fun k => (Plus S4 wx.heap.size w5.heap.size k ∧ k ≠ qb) ∨ w5.heap.size ≤ k) WZ (.slice a8 ps8.length c8) ps8 := by
              have b9 : Below w8.heap.size w8 WZ := by rw [hWZ]; exact (Below.refl _ _).alloc (Nat.le_refl _) _
              exact (HR8.out.below b9).sub (fun k hk _ => hk.imp id (fun h => h.1))
            rw [← hWZ, ← hnb]
            have PZ := Hid.mk (PN.out.plus hbz)
            have HRZ : Hid (RAll (fun k => Plus (Plus S4 wx.heap.size w5.heap.size) w5.heap.size WZ.heap.size k ∧ k ≠ qb) WZ (.slice a8 ps8.length c8) ps8) := Hid.mk (hrz.sub (fun k hk hl => by
              rcases hk with hk | hk
              · exact ⟨.inl hk.1, hk.2⟩
              · exact ⟨.inr ⟨hk, hl⟩, by have := PN.out.lt; omega⟩))
            have HNBX := Hid.mk hbox
            have HNS : Hid (Plus (Plus S4 wx.heap.size w5.heap.size) w5.heap.size WZ.heap.size nb) := Hid.mk (.inr ⟨hnl, lt_of_block hbox⟩)
            have HNQ : Hid (nb ≠ qb) := Hid.mk (by have := PN.out.lt; omega)
            obtain ⟨s0, s1⟩ := HK.out WZ hbz
            have CS := Hid.mk (PZ.out.live.apply ((HXC.out.below HBN.out).below hbz).1 HXC.out.len ver (by omega))
            have HE9 := HE8
            obtain ⟨er, her⟩ : ∃ er, er = apE All ver x.2 := ⟨_, rfl⟩
            rw [← her] at CS ⊢
            clear hWZ hnb hbz hbox hnl hrz her
            go_wp2_with fail
            refine CS.out.mono ?_
            rintro e w9 ⟨rfl, hl9, hf9⟩
            have hbq : w9.heap[qb]? = some (.cells #[.slice (some ⟨g4, o4, none⟩) N c4] 30 (0, 0)) := (hf9.block qb PZ.out.inS).trans PZ.out.box
            have P9 := Hid.mk (pl_set hl9 PZ.out.inS PZ.out.hi hbq (HRZ.out.frO hf9) HE8.out)
            obtain ⟨d0, d1⟩ := one_cell hbq
            obtain ⟨d2, d3⟩ := one_cell ((hf9.block nb HNS.out).trans HNBX.out)
            have hAl9 : (apA All ver x.2).length ≤ i + 1 + 1 := by
              rcases apE_cases0 All ver x.2 with h | h
              · rw [(apE_may h).2.2.2]; simp; exact hAl
              · rw [(apE_not h).1]; omega
            clear hl9 hf9 hbq CS
            go_wp2
            go_roundw
            case rel => exact ⟨i + 1, _, _, _, _, by omega, by go_num, hAl9, P9.out⟩
            case measure => simp [intOf]; omega
          · obtain ⟨WZ, hWZ⟩ : ∃ WZ, WZ = w8.setCell ⟨w5.heap.size, 0, none⟩ (.slice a8 ps8.length c8) := ⟨_, rfl⟩
            obtain ⟨nb, hnb⟩ : ∃ nb, nb = w5.heap.size := ⟨_, rfl⟩
            have hbz : Below w5.heap.size w5 WZ := by
              rw [hWZ]; exact (HDB.out.trans (HB8.out.mono HDB.out.size)).setCell (p := ⟨w5.heap.size, 0, none⟩) (Nat.le_refl _) _
            have hbx8 : w8.heap[w5.heap.size]? = some (.cells #[.slice none 0 0] 30 (0, 0)) := HNB.out w8 HB8.out
            have hbox : WZ.heap[nb]? = some (.cells #[(.slice a8 ps8.length c8)] 30 (0, 0)) := by rw [hWZ, hnb]; simp [World.setCell, Array.getElem?_modify, hbx8]
            have hnl : w5.heap.size ≤ nb := by rw [hnb]; exact Nat.le_refl _
            have hrz : RAll (fun k => (Plus S4 wx.heap.size w5.heap.size k ∧ k ≠ qb) ∨ w5.heap.size ≤ k) WZ (.slice a8 ps8.length c8) ps8 := by
              have hsame : ∀ k, k ≠ w5.heap.size → WZ.heap[k]? = w8.heap[k]? := fun k hk => by rw [hWZ]; exact Below.heap_setCell _ ⟨w5.heap.size, 0, none⟩ _ k hk
              have key : ∀ k, Plus (fun k => Plus S4 wx.heap.size w5.heap.size k ∧ k ≠ qb) (w5.drew.alloc (.cells #[.slice none 0 0] 30)).heap.size w8.heap.size k → k < w8.heap.size → ((Plus S4 wx.heap.size w5.heap.size k ∧ k ≠ qb) ∨ w5.heap.size ≤ k) ∧ WZ.heap[k]? = w8.heap[k]? := fun k hk _ => by
                rcases hk with hk | hk
                · exact ⟨.inl hk, hsame k (fun e => by have := PN.out.live.low k hk.1; omega)⟩
                · have h2 := hk.1
                  simp at h2
                  exact ⟨.inr (by omega), hsame k (by omega)⟩
              exact ⟨HR8.out.sl.keep (by rw [hWZ]; simp) key, fun p hp => (HR8.out.lists p hp).keep (by rw [hWZ]; simp) key⟩
            rw [← hWZ, ← hnb]
            have PZ := Hid.mk (PN.out.plus hbz)
            have HRZ : Hid (RAll (fun k => Plus (Plus S4 wx.heap.size w5.heap.size) w5.heap.size WZ.heap.size k ∧ k ≠ qb) WZ (.slice a8 ps8.length c8) ps8) := Hid.mk (hrz.sub (fun k hk hl => by
              rcases hk with hk | hk
              · exact ⟨.inl hk.1, hk.2⟩
              · exact ⟨.inr ⟨hk, hl⟩, by have := PN.out.lt; omega⟩))
            have HNBX := Hid.mk hbox
            have HNS : Hid (Plus (Plus S4 wx.heap.size w5.heap.size) w5.heap.size WZ.heap.size nb) := Hid.mk (.inr ⟨hnl, lt_of_block hbox⟩)
            have HNQ : Hid (nb ≠ qb) := Hid.mk (by have := PN.out.lt; omega)
            obtain ⟨s0, s1⟩ := HK.out WZ hbz
            have CS := Hid.mk (PZ.out.live.apply ((HXC.out.below HBN.out).below hbz).1 HXC.out.len ver (by omega))
            have HE9 := HE8
            obtain ⟨er, her⟩ : ∃ er, er = apE All ver x.2 := ⟨_, rfl⟩
            rw [← her] at CS ⊢
            clear hWZ hnb hbz hbox hnl hrz her
            go_wp2_with fail
            refine CS.out.mono ?_
            rintro e w9 ⟨rfl, hl9, hf9⟩
            have hbq : w9.heap[qb]? = some (.cells #[.slice (some ⟨g4, o4, none⟩) N c4] 30 (0, 0)) := (hf9.block qb PZ.out.inS).trans PZ.out.box
            have P9 := Hid.mk (pl_set hl9 PZ.out.inS PZ.out.hi hbq (HRZ.out.frO hf9) HE8.out)
            obtain ⟨d0, d1⟩ := one_cell hbq
            obtain ⟨d2, d3⟩ := one_cell ((hf9.block nb HNS.out).trans HNBX.out)
            have hAl9 : (apA All ver x.2).length ≤ i + 1 + 1 := by
              rcases apE_cases0 All ver x.2 with h | h
              · rw [(apE_may h).2.2.2]; simp; exact hAl
              · rw [(apE_not h).1]; omega
            clear hl9 hf9 hbq CS
            go_wp2
            go_roundw
            case rel => exact ⟨i + 1, _, _, _, _, by omega, by go_num, hAl9, P9.out⟩
            case measure => simp [intOf]; omega
        | true =>
          rw [hmay] at CM
          obtain ⟨nd, hnd⟩ : ∃ nd, nd = (doneT p.2 x.2).length := ⟨_, rfl⟩
          have HND := Hid.mk hnd
          have CD := Hid.mk (fun u (hu : Below wx.heap.size wx u) => rDone_any ((P4.out.all.lists p hpm).below hu) (HXC.out.below hu) (by have := mayT_len hmay; omega))
          have hrm : roomB All x.2 = decide ((nd : Int) ≤ 4096) := by
            unfold roomB
            rw [hmay, hlast, Bool.true_and, ← hnd]
            exact decide_eq_decide.2 (by omega)
          rw [hrm] at CR
          have hdx : (decide ((nd : Int) ≤ 4096) != decide ((nd : Int) ≤ 4096)) = false := by simp
          clear hnd hrm
          go_wp2_with fail
          rw [← hver]
          clear hver
          go_region_held3 (fun w' => w'.cell? ⟨g, off + i, none⟩ = some x.1 ∧ w'.cell? ⟨qb, 0, none⟩ = some (.slice (some ⟨g4, o4, none⟩) N c4) ∧ w'.cell? ⟨g4, o4 + j, none⟩ = some p.1)
            (first | exact ⟨q0, x0, q4⟩ | exact ⟨by assumption, by assumption, by assumption⟩)
            (first | (go_at_call 11; refine (CM.out _ HD.out).mono ?_; rintro e w5 ⟨rfl, hb5⟩; have HB5 := Hid.mk (HD.out.trans (hb5.mono HD.out.size)); obtain ⟨r0, r1, r2⟩ := HCC.out w5 HB5.out; clear hb5) | (go_at_call 12; refine (CR.out _ HB5.out).mono ?_; rintro e w6 ⟨rfl, hb6⟩; have HB6 := Hid.mk (HB5.out.trans (hb6.mono HB5.out.size)); obtain ⟨r3, r4, r5⟩ := HCC.out w6 HB6.out; clear hb6) | (go_at_call 13; refine (CD.out _ HB6.out).mono ?_; rintro e w7 ⟨v7, rfl, hr7, hb7⟩; obtain ⟨a7, c7, hv7⟩ := hr7.sl.slice; subst hv7; have HB7 := Hid.mk (HB6.out.trans (hb7.mono HB6.out.size)); obtain ⟨r6, r7, r8⟩ := HCC.out w7 HB7.out; rw [← HND.out]; clear hb7 hr7))
          clear r0 r1 r2 r3 r4 r5 r6 r7 r8 CD
          have HBN := HB7
          have PN := Hid.mk (P4.out.plus HBN.out)
          obtain ⟨s0, s1, s2⟩ := HCC.out w7 HBN.out
          have CA := Hid.mk (fun u (hu : Below w7.heap.size w7 u) => rApply_any (PN.out.all.below hu) ((HXC.out.below HBN.out).below hu) (by rw [← HN.out]; omega) (by rw [← HN.out]; exact hone) HFW.out ver)
          rw [PN.out.eq] at CA
          have HDA : Hid (Below w7.heap.size w7 w7.drew) := Hid.mk (Below.refl _ _).drew
          have HDB : Hid (Below w7.heap.size w7 (w7.drew.alloc (.cells #[.slice none 0 0] 30))) := Hid.mk ((Below.refl _ _).drew.alloc (Nat.le_refl _) _)
          have HNB : Hid (∀ u, Below (w7.drew.alloc (.cells #[.slice none 0 0] 30)).heap.size (w7.drew.alloc (.cells #[.slice none 0 0] 30)) u → u.heap[w7.heap.size]? = some (.cells #[.slice none 0 0] 30 (0, 0))) := Hid.mk (fun u hu => by
            have hx := box_at w7.drew (.cells #[.slice none 0 0] 30)
            exact (hu.block _ (lt_of_block hx)).trans hx)
          have HK : Hid (∀ u, Below w7.heap.size w7 u → u.cell? ⟨g, off + i, none⟩ = some x.1 ∧ u.cell? ⟨qb, 0, none⟩ = some (.slice (some ⟨g4, o4, none⟩) N c4)) := Hid.mk (fun u hu => by
            obtain ⟨t0, t1, _⟩ := HCC.out u (HBN.out.trans (hu.mono HBN.out.size))
            exact ⟨t0, t1⟩)
          have hqn : qb ≠ w7.heap.size := by have := PN.out.lt; omega
          have hgn : g ≠ w7.heap.size := by have := HBN.out.size; omega
          clear CM CR q0 q2 q4 x0 z0
          go_wp2_with fail
          go_region_held3 (fun w' => w'.cell? ⟨g, off + i, none⟩ = some x.1 ∧ w'.cell? ⟨qb, 0, none⟩ = some (.slice (some ⟨g4, o4, none⟩) N c4))
            (first | with_reducible exact HK.out _ HDB.out | with_reducible exact ⟨s0, s1⟩ | exact ⟨by assumption, by assumption⟩ | exact ⟨(World.cell?_setCell_other _ _ _ _ (by intro e; injection e with e1 _ _; omega)).trans y0, (World.cell?_setCell_other _ _ _ _ (by intro e; injection e with e1 _ _; omega)).trans y1⟩ | go_keep)
            (first | (go_at_call 14; refine (CA.out _ HDA.out).mono ?_; rintro e w8 ⟨v8, ps8, rfl, hr8, he8, hb8⟩; obtain ⟨y0, y1⟩ := HK.out w8 (HDA.out.trans (hb8.mono HDA.out.size)); obtain ⟨a8, c8, hv8⟩ := hr8.sl.sl.slice; subst hv8; have HR8 := Hid.mk hr8; have HE8 := Hid.mk he8; have HB8 := Hid.mk hb8; clear hr8 he8 hb8) | (go_at_call 14; refine (CA.out _ HDB.out).mono ?_; rintro e w8 ⟨v8, ps8, rfl, hr8, he8, hb8⟩; obtain ⟨y0, y1⟩ := HK.out w8 (HDB.out.trans (hb8.mono HDB.out.size)); obtain ⟨y2, y3⟩ := one_cell (HNB.out w8 hb8); obtain ⟨a8, c8, hv8⟩ := hr8.sl.sl.slice; subst hv8; have HR8 := Hid.mk hr8; have HE8 := Hid.mk he8; have HB8 := Hid.mk hb8; clear hr8 he8 hb8))
          · obtain ⟨WZ, hWZ⟩ : ∃ WZ, WZ = w8.alloc (.cells #[(.slice a8 ps8.length c8)] 30) := ⟨_, rfl⟩
            obtain ⟨nb, hnb⟩ : ∃ nb, nb = w8.heap.size := ⟨_, rfl⟩
            have hbz : Below w7.heap.size w7 WZ := by
              have b8 := HDA.out.trans (HB8.out.mono HDA.out.size)
              rw [hWZ]; exact b8.alloc b8.size _
            have hbox : WZ.heap[nb]? = some (.cells #[(.slice a8 ps8.length c8)] 30 (0, 0)) := by rw [hWZ, hnb]; exact box_at w8 _
            have hnl : w7.heap.size ≤ nb := by rw [hnb]; exact (HDA.out.trans (HB8.out.mono HDA.out.size)).size
            have hrz : RAll (fun k => (Plus S4 wx.heap.size w7.heap.size k ∧ k ≠ qb) ∨ w7.heap.size ≤ k) WZ (.slice a8 ps8.length c8) ps8 := by
              have b9 : Below w8.heap.size w8 WZ := by rw [hWZ]; exact (Below.refl _ _).alloc (Nat.le_refl _) _
              exact (HR8.out.below b9).sub (fun k hk _ => hk.imp id (fun h => h.1))
            rw [← hWZ, ← hnb]
            have PZ := Hid.mk (PN.out.plus hbz)
            have HRZ : Hid (RAll (fun k => Plus (Plus S4 wx.heap.size w7.heap.size) w7.heap.size WZ.heap.size k ∧ k ≠ qb) WZ (.slice a8 ps8.length c8) ps8) := Hid.mk (hrz.sub (fun k hk hl => by
              rcases hk with hk | hk
              · exact ⟨.inl hk.1, hk.2⟩
              · exact ⟨.inr ⟨hk, hl⟩, by have := PN.out.lt; omega⟩))
            have HNBX := Hid.mk hbox
            have HNS : Hid (Plus (Plus S4 wx.heap.size w7.heap.size) w7.heap.size WZ.heap.size nb) := Hid.mk (.inr ⟨hnl, lt_of_block hbox⟩)
            have HNQ : Hid (nb ≠ qb) := Hid.mk (by have := PN.out.lt; omega)
            obtain ⟨s0, s1⟩ := HK.out WZ hbz
            have CS := Hid.mk (PZ.out.live.apply ((HXC.out.below HBN.out).below hbz).1 HXC.out.len ver (by omega))
            have HE9 := HE8
            obtain ⟨er, her⟩ : ∃ er, er = apE All ver x.2 := ⟨_, rfl⟩
            rw [← her] at CS ⊢
            clear hWZ hnb hbz hbox hnl hrz her
            go_wp2_with fail
            refine CS.out.mono ?_
            rintro e w9 ⟨rfl, hl9, hf9⟩
            have hbq : w9.heap[qb]? = some (.cells #[.slice (some ⟨g4, o4, none⟩) N c4] 30 (0, 0)) := (hf9.block qb PZ.out.inS).trans PZ.out.box
            have P9 := Hid.mk (pl_set hl9 PZ.out.inS PZ.out.hi hbq (HRZ.out.frO hf9) HE8.out)
            obtain ⟨d0, d1⟩ := one_cell hbq
            obtain ⟨d2, d3⟩ := one_cell ((hf9.block nb HNS.out).trans HNBX.out)
            have hAl9 : (apA All ver x.2).length ≤ i + 1 + 1 := by
              rcases apE_cases0 All ver x.2 with h | h
              · rw [(apE_may h).2.2.2]; simp; exact hAl
              · rw [(apE_not h).1]; omega
            clear hl9 hf9 hbq CS
            go_wp2
            go_roundw
            case rel => exact ⟨i + 1, _, _, _, _, by omega, by go_num, hAl9, P9.out⟩
            case measure => simp [intOf]; omega
          · obtain ⟨WZ, hWZ⟩ : ∃ WZ, WZ = w8.setCell ⟨w7.heap.size, 0, none⟩ (.slice a8 ps8.length c8) := ⟨_, rfl⟩
            obtain ⟨nb, hnb⟩ : ∃ nb, nb = w7.heap.size := ⟨_, rfl⟩
            have hbz : Below w7.heap.size w7 WZ := by
              rw [hWZ]; exact (HDB.out.trans (HB8.out.mono HDB.out.size)).setCell (p := ⟨w7.heap.size, 0, none⟩) (Nat.le_refl _) _
            have hbx8 : w8.heap[w7.heap.size]? = some (.cells #[.slice none 0 0] 30 (0, 0)) := HNB.out w8 HB8.out
            have hbox : WZ.heap[nb]? = some (.cells #[(.slice a8 ps8.length c8)] 30 (0, 0)) := by rw [hWZ, hnb]; simp [World.setCell, Array.getElem?_modify, hbx8]
            have hnl : w7.heap.size ≤ nb := by rw [hnb]; exact Nat.le_refl _
            have hrz : RAll (fun k => (Plus S4 wx.heap.size w7.heap.size k ∧ k ≠ qb) ∨ w7.heap.size ≤ k) WZ (.slice a8 ps8.length c8) ps8 := by
              have hsame : ∀ k, k ≠ w7.heap.size → WZ.heap[k]? = w8.heap[k]? := fun k hk => by rw [hWZ]; exact Below.heap_setCell _ ⟨w7.heap.size, 0, none⟩ _ k hk
              have key : ∀ k, Plus (fun k => Plus S4 wx.heap.size w7.heap.size k ∧ k ≠ qb) (w7.drew.alloc (.cells #[.slice none 0 0] 30)).heap.size w8.heap.size k → k < w8.heap.size → ((Plus S4 wx.heap.size w7.heap.size k ∧ k ≠ qb) ∨ w7.heap.size ≤ k) ∧ WZ.heap[k]? = w8.heap[k]? := fun k hk _ => by
                rcases hk with hk | hk
                · exact ⟨.inl hk, hsame k (fun e => by have := PN.out.live.low k hk.1; omega)⟩
                · have h2 := hk.1
                  simp at h2
                  exact ⟨.inr (by omega), hsame k (by omega)⟩
              exact ⟨HR8.out.sl.keep (by rw [hWZ]; simp) key, fun p hp => (HR8.out.lists p hp).keep (by rw [hWZ]; simp) key⟩
            rw [← hWZ, ← hnb]
            have PZ := Hid.mk (PN.out.plus hbz)
            have HRZ : Hid (RAll (fun k => Plus (Plus S4 wx.heap.size w7.heap.size) w7.heap.size WZ.heap.size k ∧ k ≠ qb) WZ (.slice a8 ps8.length c8) ps8) := Hid.mk (hrz.sub (fun k hk hl => by
              rcases hk with hk | hk
              · exact ⟨.inl hk.1, hk.2⟩
              · exact ⟨.inr ⟨hk, hl⟩, by have := PN.out.lt; omega⟩))
            have HNBX := Hid.mk hbox
            have HNS : Hid (Plus (Plus S4 wx.heap.size w7.heap.size) w7.heap.size WZ.heap.size nb) := Hid.mk (.inr ⟨hnl, lt_of_block hbox⟩)
            have HNQ : Hid (nb ≠ qb) := Hid.mk (by have := PN.out.lt; omega)
            obtain ⟨s0, s1⟩ := HK.out WZ hbz
            have CS := Hid.mk (PZ.out.live.apply ((HXC.out.below HBN.out).below hbz).1 HXC.out.len ver (by omega))
            have HE9 := HE8
            obtain ⟨er, her⟩ : ∃ er, er = apE All ver x.2 := ⟨_, rfl⟩
            rw [← her] at CS ⊢
            clear hWZ hnb hbz hbox hnl hrz her
            go_wp2_with fail
            refine CS.out.mono ?_
            rintro e w9 ⟨rfl, hl9, hf9⟩
            have hbq : w9.heap[qb]? = some (.cells #[.slice (some ⟨g4, o4, none⟩) N c4] 30 (0, 0)) := (hf9.block qb PZ.out.inS).trans PZ.out.box
            have P9 := Hid.mk (pl_set hl9 PZ.out.inS PZ.out.hi hbq (HRZ.out.frO hf9) HE8.out)
            obtain ⟨d0, d1⟩ := one_cell hbq
            obtain ⟨d2, d3⟩ := one_cell ((hf9.block nb HNS.out).trans HNBX.out)
            have hAl9 : (apA All ver x.2).length ≤ i + 1 + 1 := by
              rcases apE_cases0 All ver x.2 with h | h
              · rw [(apE_may h).2.2.2]; simp; exact hAl
              · rw [(apE_not h).1]; omega
            clear hl9 hf9 hbq CS
            go_wp2
            go_roundw
            case rel => exact ⟨i + 1, _, _, _, _, by omega, by go_num, hAl9, P9.out⟩
            case measure => simp [intOf]; omega
      · have hi2I : ¬ (i : Int) < (n2 : Int) := by omega
        -- the region
        obtain ⟨p, hp⟩ : ∃ p, ps[N - 1]? = some p := ⟨_, List.getElem?_eq_getElem (by rw [← HN.out]; omega)⟩
        have hpm := List.mem_of_getElem? hp
        have hlast : lastT All = p.2 := by
          have h2 := lastT_at (All := All) (by rw [← HNA.out]; exact hone)
          rw [← HNA.out, ← P4.out.eq, List.getElem?_map, hp] at h2
          rw [← P4.out.eq]
          exact (Option.some.inj h2).symm
        have hfew : p.2.length ≤ 4096 := by
          obtain ⟨ts, hh⟩ := P4.out.live.hist
          exact hh.few _ (by rw [← P4.out.eq]; exact List.mem_map.2 ⟨p, hpm, rfl⟩)
        obtain ⟨j, hj⟩ : ∃ j, j = N - 1 := ⟨_, rfl⟩
        have hjw : IntKind.i64.wrap ((N : Int) - 1) = (j : Int) := by rw [IntKind.wrap_i64]; omega
        obtain ⟨g4, o4, hao4, _, hgb4, hcell4⟩ := P4.out.all.sl.sl.get hp
        subst hao4
        have q4 := hcell4 0 _ rfl
        rw [show o4 + (N - 1) * 1 + 0 = o4 + j by omega] at q4
        have hjn : j < N := by omega
        have hjnI : (j : Int) < (N : Int) := by omega
        clear hj hp
        have HD : Hid (Below wx.heap.size wx wx.drew) := Hid.mk (Below.refl _ _).drew
        have HCC : Hid (∀ u, Below wx.heap.size wx u → u.cell? ⟨g, off + i, none⟩ = some x.1 ∧ u.cell? ⟨qb, 0, none⟩ = some (.slice (some ⟨g4, o4, none⟩) N c4) ∧ u.cell? ⟨g4, o4 + j, none⟩ = some p.1) := Hid.mk (fun u hu => ⟨(hu.cell (p := ⟨g, off + i, none⟩) hgb).trans q0, (hu.cell (p := ⟨qb, 0, none⟩) P4.out.lt).trans x0, (hu.cell (p := ⟨g4, o4 + j, none⟩) hgb4).trans q4⟩)
        have CM := Hid.mk (fun u (hu : Below wx.heap.size wx u) => rMay_any (HXC.out.below hu))
        have CR := Hid.mk (fun u (hu : Below wx.heap.size wx u) => room_any (P4.out.live.below hu).q (HXC.out.below hu).1 HXC.out.len)
        have HFW : Hid (∀ p ∈ ps, p.2.length ≤ 4096) := Hid.mk (fun p hp => by
          obtain ⟨ts, hh⟩ := P4.out.live.hist
          exact hh.few _ (by rw [← P4.out.eq]; exact List.mem_map.2 ⟨p, hp, rfl⟩))
        cases hmay : mayT x.2 with
        | false =>
          rw [hmay] at CM
          go_wp2_with fail
          refine wp_region_held_drew (S := (fun w' => w'.cell? ⟨g, off + i, none⟩ = some x.1 ∧ w'.cell? ⟨qb, 0, none⟩ = some (.slice (some ⟨g4, o4, none⟩) N c4) ∧ w'.cell? ⟨g4, o4 + j, none⟩ = some p.1)) (by kernel_rfl) ?_ (fun hHeld => ?_)
          · exact ⟨q0, x0, q4⟩
          refine wpAnyH_take (i := 0) (oi := { dst := some 52, op := Op.move (Operand.tmp 0), type := 22, pos := "law.go:38", after := #[], guard := none }) (v := .slice (some ⟨g, off, none⟩) n1 c1) rfl (by kernel_rfl) (by kernel_rfl) (by kernel_rfl) (fun _ _ _ h => h) (Or.inl ⟨by rfl, ?_⟩) hHeld ?_
          · intro W hSw
            obtain ⟨t0, t1, t2⟩ := hSw
            go_simp
          simp only [Act.put, List.setIfInBounds_toArray, List.set_cons_zero, List.set_cons_succ]
          refine wpAnyH_take (i := 1) (oi := { dst := some 53, op := Op.move (Operand.tmp 9), type := 3, pos := "law.go:38", after := #[], guard := none }) (v := .int .i64 (i : Int)) rfl (by kernel_rfl) (by kernel_rfl) (by kernel_rfl) (fun _ _ _ h => h) (Or.inl ⟨by rfl, ?_⟩) hHeld ?_
          · intro W hSw
            obtain ⟨t0, t1, t2⟩ := hSw
            go_simp
          simp only [Act.put, List.setIfInBounds_toArray, List.set_cons_zero, List.set_cons_succ]
          refine wpAnyH_take (i := 2) (oi := { dst := some 54, op := Op.indexAddr 22 (Operand.tmp 52) (Operand.tmp 53), type := 0, pos := "law.go:38", after := #[{ on := 0, ground := Ground.data }, { on := 1, ground := Ground.data }], guard := none }) (v := .pointer (some ⟨g, off + i, none⟩)) rfl (by kernel_rfl) (by kernel_rfl) (by kernel_rfl) (fun _ _ _ h => h) (Or.inl ⟨by rfl, ?_⟩) hHeld ?_
          · intro W hSw
            obtain ⟨t0, t1, t2⟩ := hSw
            go_simp
          simp only [Act.put, List.setIfInBounds_toArray, List.set_cons_zero, List.set_cons_succ]
          refine wpAnyH_take (i := 3) (oi := { dst := some 55, op := Op.load 33 (Operand.tmp 54), type := 33, pos := "law.go:38", after := #[{ on := 2, ground := Ground.data }], guard := none }) (v := x.1) rfl (by kernel_rfl) (by kernel_rfl) (by kernel_rfl) (fun _ _ _ h => h) (Or.inl ⟨by rfl, ?_⟩) hHeld ?_
          · intro W hSw
            obtain ⟨t0, t1, t2⟩ := hSw
            go_simp
          simp only [Act.put, List.setIfInBounds_toArray, List.set_cons_zero, List.set_cons_succ]
          refine wpAnyH_ready (rs := [4]) (by kernel_rfl) (by simp) ?_
          refine AllReadyH.cons (o := { dst := some 56, op := Op.call { callee := Callee.value (Operand.func 11), args := #[Operand.tmp 55], argTypes := #[33] }, type := 4, pos := "law.go:38", after := #[{ on := 3, ground := Ground.data }], guard := none }) rfl (fun K hK => ?_) AllReadyH.nil
          go_simp
          refine (CM.out _ HD.out).mono ?_
          rintro e w5 ⟨rfl, hb5⟩
          have HB5 := Hid.mk (HD.out.trans (hb5.mono HD.out.size))
          clear hb5
          go_wp2_with fail
          refine hK.out _ _ (HCC.out w5 HB5.out) (fun hHeld => ?_)
          clear hK K
          refine wpAnyH_take (i := 5) (oi := { dst := some 57, op := Op.move (Operand.tmp 56), type := 4, pos := "law.go:38", after := #[{ on := 4, ground := Ground.data }, { on := 4, ground := Ground.chain }], guard := none }) (v := .bool false) rfl (by kernel_rfl) (by kernel_rfl) (by kernel_rfl) (fun _ _ _ h => h) (Or.inl ⟨by rfl, ?_⟩) hHeld ?_
          · intro W hSw
            obtain ⟨t0, t1, t2⟩ := hSw
            go_simp
          simp only [Act.put, List.setIfInBounds_toArray, List.set_cons_zero, List.set_cons_succ]
          refine wpAnyH_take (i := 6) (oi := { dst := some 58, op := Op.move (Operand.tmp 7), type := 26, pos := "law.go:38", after := #[{ on := 5, ground := Ground.guard }], guard := some (5, true) }) (v := undef) rfl (by kernel_rfl) (by kernel_rfl) (by kernel_rfl) (fun _ _ _ h => h) (Or.inr ⟨by rfl, rfl⟩) hHeld ?_
          simp only [Act.put, List.setIfInBounds_toArray, List.set_cons_zero, List.set_cons_succ]
          refine wpAnyH_take (i := 7) (oi := { dst := some 59, op := Op.move (Operand.tmp 0), type := 22, pos := "law.go:38", after := #[{ on := 5, ground := Ground.guard }], guard := some (5, true) }) (v := undef) rfl (by kernel_rfl) (by kernel_rfl) (by kernel_rfl) (fun _ _ _ h => h) (Or.inr ⟨by rfl, rfl⟩) hHeld ?_
          simp only [Act.put, List.setIfInBounds_toArray, List.set_cons_zero, List.set_cons_succ]
          refine wpAnyH_take (i := 8) (oi := { dst := some 60, op := Op.move (Operand.tmp 9), type := 3, pos := "law.go:38", after := #[{ on := 5, ground := Ground.guard }], guard := some (5, true) }) (v := undef) rfl (by kernel_rfl) (by kernel_rfl) (by kernel_rfl) (fun _ _ _ h => h) (Or.inr ⟨by rfl, rfl⟩) hHeld ?_
          simp only [Act.put, List.setIfInBounds_toArray, List.set_cons_zero, List.set_cons_succ]
          refine wpAnyH_take (i := 9) (oi := { dst := some 61, op := Op.indexAddr 22 (Operand.tmp 59) (Operand.tmp 60), type := 0, pos := "law.go:38", after := #[{ on := 7, ground := Ground.data }, { on := 8, ground := Ground.data }, { on := 5, ground := Ground.guard }], guard := some (5, true) }) (v := undef) rfl (by kernel_rfl) (by kernel_rfl) (by kernel_rfl) (fun _ _ _ h => h) (Or.inr ⟨by rfl, rfl⟩) hHeld ?_
          simp only [Act.put, List.setIfInBounds_toArray, List.set_cons_zero, List.set_cons_succ]
          refine wpAnyH_take (i := 10) (oi := { dst := some 62, op := Op.load 33 (Operand.tmp 61), type := 33, pos := "law.go:38", after := #[{ on := 9, ground := Ground.data }, { on := 5, ground := Ground.guard }], guard := some (5, true) }) (v := undef) rfl (by kernel_rfl) (by kernel_rfl) (by kernel_rfl) (fun _ _ _ h => h) (Or.inr ⟨by rfl, rfl⟩) hHeld ?_
          simp only [Act.put, List.setIfInBounds_toArray, List.set_cons_zero, List.set_cons_succ]
          refine wpAnyH_take (i := 11) (oi := { dst := some 63, op := Op.call { callee := Callee.value (Operand.func 12), args := #[Operand.tmp 58, Operand.tmp 62], argTypes := #[26, 33] }, type := 4, pos := "law.go:38", after := #[{ on := 6, ground := Ground.data }, { on := 10, ground := Ground.data }, { on := 5, ground := Ground.chain }, { on := 5, ground := Ground.guard }], guard := some (5, true) }) (v := undef) rfl (by kernel_rfl) (by kernel_rfl) (by kernel_rfl) (fun _ _ _ h => h) (Or.inr ⟨by rfl, rfl⟩) hHeld ?_
          simp only [Act.put, List.setIfInBounds_toArray, List.set_cons_zero, List.set_cons_succ]
          refine wpAnyH_take (i := 12) (oi := { dst := some 64, op := Op.fieldAddr 30 (Operand.tmp 8) 0, type := 0, pos := "law.go:38", after := #[{ on := 5, ground := Ground.guard }], guard := some (5, true) }) (v := undef) rfl (by kernel_rfl) (by kernel_rfl) (by kernel_rfl) (fun _ _ _ h => h) (Or.inr ⟨by rfl, rfl⟩) hHeld ?_
          simp only [Act.put, List.setIfInBounds_toArray, List.set_cons_zero, List.set_cons_succ]
          refine wpAnyH_take (i := 13) (oi := { dst := some 65, op := Op.load 28 (Operand.tmp 64), type := 28, pos := "law.go:38", after := #[{ on := 12, ground := Ground.data }, { on := 5, ground := Ground.guard }], guard := some (5, true) }) (v := undef) rfl (by kernel_rfl) (by kernel_rfl) (by kernel_rfl) (fun _ _ _ h => h) (Or.inr ⟨by rfl, rfl⟩) hHeld ?_
          simp only [Act.put, List.setIfInBounds_toArray, List.set_cons_zero, List.set_cons_succ]
          refine wpAnyH_take (i := 14) (oi := { dst := some 66, op := Op.fieldAddr 30 (Operand.tmp 8) 0, type := 0, pos := "law.go:38", after := #[{ on := 5, ground := Ground.guard }], guard := some (5, true) }) (v := undef) rfl (by kernel_rfl) (by kernel_rfl) (by kernel_rfl) (fun _ _ _ h => h) (Or.inr ⟨by rfl, rfl⟩) hHeld ?_
          simp only [Act.put, List.setIfInBounds_toArray, List.set_cons_zero, List.set_cons_succ]
          refine wpAnyH_take (i := 15) (oi := { dst := some 67, op := Op.load 28 (Operand.tmp 66), type := 28, pos := "law.go:38", after := #[{ on := 14, ground := Ground.data }, { on := 5, ground := Ground.guard }], guard := some (5, true) }) (v := undef) rfl (by kernel_rfl) (by kernel_rfl) (by kernel_rfl) (fun _ _ _ h => h) (Or.inr ⟨by rfl, rfl⟩) hHeld ?_
          simp only [Act.put, List.setIfInBounds_toArray, List.set_cons_zero, List.set_cons_succ]
          refine wpAnyH_take (i := 16) (oi := { dst := some 68, op := Op.call { callee := Callee.builtin Builtin.len, args := #[Operand.tmp 67], argTypes := #[28] }, type := 3, pos := "law.go:38", after := #[{ on := 15, ground := Ground.data }, { on := 5, ground := Ground.guard }], guard := some (5, true) }) (v := undef) rfl (by kernel_rfl) (by kernel_rfl) (by kernel_rfl) (fun _ _ _ h => h) (Or.inr ⟨by rfl, rfl⟩) hHeld ?_
          simp only [Act.put, List.setIfInBounds_toArray, List.set_cons_zero, List.set_cons_succ]
          refine wpAnyH_take (i := 17) (oi := { dst := some 69, op := Op.binOp BinOp.sub 3 (Operand.tmp 68) (Operand.const (Value.int IntKind.i64 1)) 3, type := 3, pos := "law.go:38", after := #[{ on := 16, ground := Ground.data }, { on := 5, ground := Ground.guard }], guard := some (5, true) }) (v := undef) rfl (by kernel_rfl) (by kernel_rfl) (by kernel_rfl) (fun _ _ _ h => h) (Or.inr ⟨by rfl, rfl⟩) hHeld ?_
          simp only [Act.put, List.setIfInBounds_toArray, List.set_cons_zero, List.set_cons_succ]
          refine wpAnyH_take (i := 18) (oi := { dst := some 70, op := Op.indexAddr 28 (Operand.tmp 65) (Operand.tmp 69), type := 0, pos := "law.go:38", after := #[{ on := 13, ground := Ground.data }, { on := 17, ground := Ground.data }, { on := 5, ground := Ground.guard }], guard := some (5, true) }) (v := undef) rfl (by kernel_rfl) (by kernel_rfl) (by kernel_rfl) (fun _ _ _ h => h) (Or.inr ⟨by rfl, rfl⟩) hHeld ?_
          simp only [Act.put, List.setIfInBounds_toArray, List.set_cons_zero, List.set_cons_succ]
          refine wpAnyH_take (i := 19) (oi := { dst := some 71, op := Op.load 34 (Operand.tmp 70), type := 34, pos := "law.go:38", after := #[{ on := 18, ground := Ground.data }, { on := 5, ground := Ground.guard }], guard := some (5, true) }) (v := undef) rfl (by kernel_rfl) (by kernel_rfl) (by kernel_rfl) (fun _ _ _ h => h) (Or.inr ⟨by rfl, rfl⟩) hHeld ?_
          simp only [Act.put, List.setIfInBounds_toArray, List.set_cons_zero, List.set_cons_succ]
          refine wpAnyH_take (i := 20) (oi := { dst := some 72, op := Op.move (Operand.tmp 0), type := 22, pos := "law.go:38", after := #[{ on := 5, ground := Ground.guard }], guard := some (5, true) }) (v := undef) rfl (by kernel_rfl) (by kernel_rfl) (by kernel_rfl) (fun _ _ _ h => h) (Or.inr ⟨by rfl, rfl⟩) hHeld ?_
          simp only [Act.put, List.setIfInBounds_toArray, List.set_cons_zero, List.set_cons_succ]
          refine wpAnyH_take (i := 21) (oi := { dst := some 73, op := Op.move (Operand.tmp 9), type := 3, pos := "law.go:38", after := #[{ on := 5, ground := Ground.guard }], guard := some (5, true) }) (v := undef) rfl (by kernel_rfl) (by kernel_rfl) (by kernel_rfl) (fun _ _ _ h => h) (Or.inr ⟨by rfl, rfl⟩) hHeld ?_
          simp only [Act.put, List.setIfInBounds_toArray, List.set_cons_zero, List.set_cons_succ]
          refine wpAnyH_take (i := 22) (oi := { dst := some 74, op := Op.indexAddr 22 (Operand.tmp 72) (Operand.tmp 73), type := 0, pos := "law.go:38", after := #[{ on := 20, ground := Ground.data }, { on := 21, ground := Ground.data }, { on := 5, ground := Ground.guard }], guard := some (5, true) }) (v := undef) rfl (by kernel_rfl) (by kernel_rfl) (by kernel_rfl) (fun _ _ _ h => h) (Or.inr ⟨by rfl, rfl⟩) hHeld ?_
          simp only [Act.put, List.setIfInBounds_toArray, List.set_cons_zero, List.set_cons_succ]
          refine wpAnyH_take (i := 23) (oi := { dst := some 75, op := Op.load 33 (Operand.tmp 74), type := 33, pos := "law.go:38", after := #[{ on := 22, ground := Ground.data }, { on := 5, ground := Ground.guard }], guard := some (5, true) }) (v := undef) rfl (by kernel_rfl) (by kernel_rfl) (by kernel_rfl) (fun _ _ _ h => h) (Or.inr ⟨by rfl, rfl⟩) hHeld ?_
          simp only [Act.put, List.setIfInBounds_toArray, List.set_cons_zero, List.set_cons_succ]
          refine wpAnyH_take (i := 24) (oi := { dst := some 76, op := Op.call { callee := Callee.value (Operand.func 13), args := #[Operand.tmp 71, Operand.tmp 75], argTypes := #[34, 33] }, type := 34, pos := "law.go:38", after := #[{ on := 19, ground := Ground.data }, { on := 23, ground := Ground.data }, { on := 11, ground := Ground.chain }, { on := 5, ground := Ground.guard }], guard := some (5, true) }) (v := undef) rfl (by kernel_rfl) (by kernel_rfl) (by kernel_rfl) (fun _ _ _ h => h) (Or.inr ⟨by rfl, rfl⟩) hHeld ?_
          simp only [Act.put, List.setIfInBounds_toArray, List.set_cons_zero, List.set_cons_succ]
          refine wpAnyH_take (i := 25) (oi := { dst := some 77, op := Op.call { callee := Callee.builtin Builtin.len, args := #[Operand.tmp 76], argTypes := #[34] }, type := 3, pos := "law.go:38", after := #[{ on := 24, ground := Ground.data }, { on := 5, ground := Ground.guard }], guard := some (5, true) }) (v := undef) rfl (by kernel_rfl) (by kernel_rfl) (by kernel_rfl) (fun _ _ _ h => h) (Or.inr ⟨by rfl, rfl⟩) hHeld ?_
          simp only [Act.put, List.setIfInBounds_toArray, List.set_cons_zero, List.set_cons_succ]
          refine wpAnyH_take (i := 26) (oi := { dst := some 78, op := Op.binOp BinOp.leq 3 (Operand.tmp 77) (Operand.const (Value.int IntKind.i64 4096)) 3, type := 4, pos := "law.go:38", after := #[{ on := 25, ground := Ground.data }, { on := 5, ground := Ground.guard }], guard := some (5, true) }) (v := undef) rfl (by kernel_rfl) (by kernel_rfl) (by kernel_rfl) (fun _ _ _ h => h) (Or.inr ⟨by rfl, rfl⟩) hHeld ?_
          simp only [Act.put, List.setIfInBounds_toArray, List.set_cons_zero, List.set_cons_succ]
          refine wpAnyH_take (i := 27) (oi := { dst := some 79, op := Op.binOp BinOp.neq 4 (Operand.tmp 63) (Operand.tmp 78) 4, type := 4, pos := "law.go:38", after := #[{ on := 11, ground := Ground.data }, { on := 26, ground := Ground.data }, { on := 5, ground := Ground.guard }], guard := some (5, true) }) (v := undef) rfl (by kernel_rfl) (by kernel_rfl) (by kernel_rfl) (fun _ _ _ h => h) (Or.inr ⟨by rfl, rfl⟩) hHeld ?_
          simp only [Act.put, List.setIfInBounds_toArray, List.set_cons_zero, List.set_cons_succ]
          refine wpAnyH_take (i := 28) (oi := { dst := some 80, op := Op.pick (Operand.tmp 57) (Operand.tmp 79) (Operand.const (Value.bool false)), type := 4, pos := "law.go:38", after := #[{ on := 5, ground := Ground.data }, { on := 27, ground := Ground.data }], guard := none }) (v := .bool false) rfl (by kernel_rfl) (by kernel_rfl) (by kernel_rfl) (fun _ _ _ h => h) (Or.inl ⟨by rfl, ?_⟩) hHeld ?_
          · intro W hSw
            obtain ⟨t0, t1, t2⟩ := hSw
            go_simp
          simp only [Act.put, List.setIfInBounds_toArray, List.set_cons_zero, List.set_cons_succ]
          refine wpAnyH_done (by kernel_rfl) ?_ _
          have HBN := HB5
          have PN := Hid.mk (P4.out.plus HBN.out)
          obtain ⟨s0, s1, s2⟩ := HCC.out w5 HBN.out
          have CA := Hid.mk (fun u (hu : Below w5.heap.size w5 u) => rApply_any (PN.out.all.below hu) ((HXC.out.below HBN.out).below hu) (by rw [← HN.out]; omega) (by rw [← HN.out]; exact hone) HFW.out (N : Int))
          rw [PN.out.eq] at CA
          have HDA : Hid (Below w5.heap.size w5 w5.drew) := Hid.mk (Below.refl _ _).drew
          have HDB : Hid (Below w5.heap.size w5 (w5.drew.alloc (.cells #[.slice none 0 0] 30))) := Hid.mk ((Below.refl _ _).drew.alloc (Nat.le_refl _) _)
          have HNB : Hid (∀ u, Below (w5.drew.alloc (.cells #[.slice none 0 0] 30)).heap.size (w5.drew.alloc (.cells #[.slice none 0 0] 30)) u → u.heap[w5.heap.size]? = some (.cells #[.slice none 0 0] 30 (0, 0))) := Hid.mk (fun u hu => by
            have hx := box_at w5.drew (.cells #[.slice none 0 0] 30)
            exact (hu.block _ (lt_of_block hx)).trans hx)
          have HK : Hid (∀ u, Below w5.heap.size w5 u → u.cell? ⟨g, off + i, none⟩ = some x.1 ∧ u.cell? ⟨qb, 0, none⟩ = some (.slice (some ⟨g4, o4, none⟩) N c4)) := Hid.mk (fun u hu => by
            obtain ⟨t0, t1, _⟩ := HCC.out u (HBN.out.trans (hu.mono HBN.out.size))
            exact ⟨t0, t1⟩)
          have hqn : qb ≠ w5.heap.size := by have := PN.out.lt; omega
          have hgn : g ≠ w5.heap.size := by have := HBN.out.size; omega
          clear CM CR q0 q4 x0 z0
          go_wp2_with fail
          go_region_held3 (fun w' => w'.cell? ⟨g, off + i, none⟩ = some x.1 ∧ w'.cell? ⟨qb, 0, none⟩ = some (.slice (some ⟨g4, o4, none⟩) N c4))
            (first | with_reducible exact HK.out _ HDB.out | with_reducible exact ⟨s0, s1⟩ | exact ⟨by assumption, by assumption⟩ | exact ⟨(World.cell?_setCell_other _ _ _ _ (by intro e; injection e with e1 _ _; omega)).trans y0, (World.cell?_setCell_other _ _ _ _ (by intro e; injection e with e1 _ _; omega)).trans y1⟩ | go_keep)
            (first | (go_at_call 14; refine (CA.out _ HDA.out).mono ?_; rintro e w8 ⟨v8, ps8, rfl, hr8, he8, hb8⟩; obtain ⟨y0, y1⟩ := HK.out w8 (HDA.out.trans (hb8.mono HDA.out.size)); obtain ⟨a8, c8, hv8⟩ := hr8.sl.sl.slice; subst hv8; have HR8 := Hid.mk hr8; have HE8 := Hid.mk he8; have HB8 := Hid.mk hb8; clear hr8 he8 hb8) | (go_at_call 14; refine (CA.out _ HDB.out).mono ?_; rintro e w8 ⟨v8, ps8, rfl, hr8, he8, hb8⟩; obtain ⟨y0, y1⟩ := HK.out w8 (HDB.out.trans (hb8.mono HDB.out.size)); obtain ⟨y2, y3⟩ := one_cell (HNB.out w8 hb8); obtain ⟨a8, c8, hv8⟩ := hr8.sl.sl.slice; subst hv8; have HR8 := Hid.mk hr8; have HE8 := Hid.mk he8; have HB8 := Hid.mk hb8; clear hr8 he8 hb8))
          · obtain ⟨WZ, hWZ⟩ : ∃ WZ, WZ = w8.alloc (.cells #[(.slice a8 ps8.length c8)] 30) := ⟨_, rfl⟩
            obtain ⟨nb, hnb⟩ : ∃ nb, nb = w8.heap.size := ⟨_, rfl⟩
            have hbz : Below w5.heap.size w5 WZ := by
              have b8 := HDA.out.trans (HB8.out.mono HDA.out.size)
              rw [hWZ]; exact b8.alloc b8.size _
            have hbox : WZ.heap[nb]? = some (.cells #[(.slice a8 ps8.length c8)] 30 (0, 0)) := by rw [hWZ, hnb]; exact box_at w8 _
            have hnl : w5.heap.size ≤ nb := by rw [hnb]; exact (HDA.out.trans (HB8.out.mono HDA.out.size)).size
            have hrz : RAll (fun k => (Plus S4 wx.heap.size w5.heap.size k ∧ k ≠ qb) ∨ w5.heap.size ≤ k) WZ (.slice a8 ps8.length c8) ps8 := by
              have b9 : Below w8.heap.size w8 WZ := by rw [hWZ]; exact (Below.refl _ _).alloc (Nat.le_refl _) _
              exact (HR8.out.below b9).sub (fun k hk _ => hk.imp id (fun h => h.1))
            rw [← hWZ, ← hnb]
            have PZ := Hid.mk (PN.out.plus hbz)
            have HRZ : Hid (RAll (fun k => Plus (Plus S4 wx.heap.size w5.heap.size) w5.heap.size WZ.heap.size k ∧ k ≠ qb) WZ (.slice a8 ps8.length c8) ps8) := Hid.mk (hrz.sub (fun k hk hl => by
              rcases hk with hk | hk
              · exact ⟨.inl hk.1, hk.2⟩
              · exact ⟨.inr ⟨hk, hl⟩, by have := PN.out.lt; omega⟩))
            have HNBX := Hid.mk hbox
            have HNS : Hid (Plus (Plus S4 wx.heap.size w5.heap.size) w5.heap.size WZ.heap.size nb) := Hid.mk (.inr ⟨hnl, lt_of_block hbox⟩)
            have HNQ : Hid (nb ≠ qb) := Hid.mk (by have := PN.out.lt; omega)
            obtain ⟨s0, s1⟩ := HK.out WZ hbz
            have CS := Hid.mk (PZ.out.live.apply ((HXC.out.below HBN.out).below hbz).1 HXC.out.len (N : Int) (by omega))
            have HE9 := HE8
            obtain ⟨er, her⟩ : ∃ er, er = apE All (N : Int) x.2 := ⟨_, rfl⟩
            rw [← her] at CS ⊢
            clear hWZ hnb hbz hbox hnl hrz her
            go_wp2_with fail
            refine CS.out.mono ?_
            rintro e w9 ⟨rfl, hl9, hf9⟩
            have hbq : w9.heap[qb]? = some (.cells #[.slice (some ⟨g4, o4, none⟩) N c4] 30 (0, 0)) := (hf9.block qb PZ.out.inS).trans PZ.out.box
            have P9 := Hid.mk (pl_set hl9 PZ.out.inS PZ.out.hi hbq (HRZ.out.frO hf9) HE8.out)
            obtain ⟨d0, d1⟩ := one_cell hbq
            obtain ⟨d2, d3⟩ := one_cell ((hf9.block nb HNS.out).trans HNBX.out)
            have hAl9 : (apA All (N : Int) x.2).length ≤ i + 1 + 1 := by
              rcases apE_cases0 All (N : Int) x.2 with h | h
              · rw [(apE_may h).2.2.2]; simp; exact hAl
              · rw [(apE_not h).1]; omega
            clear hl9 hf9 hbq CS
            go_wp2
            go_roundw
            case rel => exact ⟨i + 1, _, _, _, _, by omega, by go_num, hAl9, P9.out⟩
            case measure => simp [intOf]; omega
          · obtain ⟨WZ, hWZ⟩ : ∃ WZ, WZ = w8.setCell ⟨w5.heap.size, 0, none⟩ (.slice a8 ps8.length c8) := ⟨_, rfl⟩
            obtain ⟨nb, hnb⟩ : ∃ nb, nb = w5.heap.size := ⟨_, rfl⟩
            have hbz : Below w5.heap.size w5 WZ := by
              rw [hWZ]; exact (HDB.out.trans (HB8.out.mono HDB.out.size)).setCell (p := ⟨w5.heap.size, 0, none⟩) (Nat.le_refl _) _
            have hbx8 : w8.heap[w5.heap.size]? = some (.cells #[.slice none 0 0] 30 (0, 0)) := HNB.out w8 HB8.out
            have hbox : WZ.heap[nb]? = some (.cells #[(.slice a8 ps8.length c8)] 30 (0, 0)) := by rw [hWZ, hnb]; simp [World.setCell, Array.getElem?_modify, hbx8]
            have hnl : w5.heap.size ≤ nb := by rw [hnb]; exact Nat.le_refl _
            have hrz : RAll (fun k => (Plus S4 wx.heap.size w5.heap.size k ∧ k ≠ qb) ∨ w5.heap.size ≤ k) WZ (.slice a8 ps8.length c8) ps8 := by
              have hsame : ∀ k, k ≠ w5.heap.size → WZ.heap[k]? = w8.heap[k]? := fun k hk => by rw [hWZ]; exact Below.heap_setCell _ ⟨w5.heap.size, 0, none⟩ _ k hk
              have key : ∀ k, Plus (fun k => Plus S4 wx.heap.size w5.heap.size k ∧ k ≠ qb) (w5.drew.alloc (.cells #[.slice none 0 0] 30)).heap.size w8.heap.size k → k < w8.heap.size → ((Plus S4 wx.heap.size w5.heap.size k ∧ k ≠ qb) ∨ w5.heap.size ≤ k) ∧ WZ.heap[k]? = w8.heap[k]? := fun k hk _ => by
                rcases hk with hk | hk
                · exact ⟨.inl hk, hsame k (fun e => by have := PN.out.live.low k hk.1; omega)⟩
                · have h2 := hk.1
                  simp at h2
                  exact ⟨.inr (by omega), hsame k (by omega)⟩
              exact ⟨HR8.out.sl.keep (by rw [hWZ]; simp) key, fun p hp => (HR8.out.lists p hp).keep (by rw [hWZ]; simp) key⟩
            rw [← hWZ, ← hnb]
            have PZ := Hid.mk (PN.out.plus hbz)
            have HRZ : Hid (RAll (fun k => Plus (Plus S4 wx.heap.size w5.heap.size) w5.heap.size WZ.heap.size k ∧ k ≠ qb) WZ (.slice a8 ps8.length c8) ps8) := Hid.mk (hrz.sub (fun k hk hl => by
              rcases hk with hk | hk
              · exact ⟨.inl hk.1, hk.2⟩
              · exact ⟨.inr ⟨hk, hl⟩, by have := PN.out.lt; omega⟩))
            have HNBX := Hid.mk hbox
            have HNS : Hid (Plus (Plus S4 wx.heap.size w5.heap.size) w5.heap.size WZ.heap.size nb) := Hid.mk (.inr ⟨hnl, lt_of_block hbox⟩)
            have HNQ : Hid (nb ≠ qb) := Hid.mk (by have := PN.out.lt; omega)
            obtain ⟨s0, s1⟩ := HK.out WZ hbz
            have CS := Hid.mk (PZ.out.live.apply ((HXC.out.below HBN.out).below hbz).1 HXC.out.len (N : Int) (by omega))
            have HE9 := HE8
            obtain ⟨er, her⟩ : ∃ er, er = apE All (N : Int) x.2 := ⟨_, rfl⟩
            rw [← her] at CS ⊢
            clear hWZ hnb hbz hbox hnl hrz her
            go_wp2_with fail
            refine CS.out.mono ?_
            rintro e w9 ⟨rfl, hl9, hf9⟩
            have hbq : w9.heap[qb]? = some (.cells #[.slice (some ⟨g4, o4, none⟩) N c4] 30 (0, 0)) := (hf9.block qb PZ.out.inS).trans PZ.out.box
            have P9 := Hid.mk (pl_set hl9 PZ.out.inS PZ.out.hi hbq (HRZ.out.frO hf9) HE8.out)
            obtain ⟨d0, d1⟩ := one_cell hbq
            obtain ⟨d2, d3⟩ := one_cell ((hf9.block nb HNS.out).trans HNBX.out)
            have hAl9 : (apA All (N : Int) x.2).length ≤ i + 1 + 1 := by
              rcases apE_cases0 All (N : Int) x.2 with h | h
              · rw [(apE_may h).2.2.2]; simp; exact hAl
              · rw [(apE_not h).1]; omega
            clear hl9 hf9 hbq CS
            go_wp2
            go_roundw
            case rel => exact ⟨i + 1, _, _, _, _, by omega, by go_num, hAl9, P9.out⟩
            case measure => simp [intOf]; omega
        | true =>
          rw [hmay] at CM
          obtain ⟨nd, hnd⟩ : ∃ nd, nd = (doneT p.2 x.2).length := ⟨_, rfl⟩
          have HND := Hid.mk hnd
          have CD := Hid.mk (fun u (hu : Below wx.heap.size wx u) => rDone_any ((P4.out.all.lists p hpm).below hu) (HXC.out.below hu) (by have := mayT_len hmay; omega))
          have hrm : roomB All x.2 = decide ((nd : Int) ≤ 4096) := by
            unfold roomB
            rw [hmay, hlast, Bool.true_and, ← hnd]
            exact decide_eq_decide.2 (by omega)
          rw [hrm] at CR
          have hdx : (decide ((nd : Int) ≤ 4096) != decide ((nd : Int) ≤ 4096)) = false := by simp
          clear hnd hrm
          go_wp2_with fail
          go_region_held3 (fun w' => w'.cell? ⟨g, off + i, none⟩ = some x.1 ∧ w'.cell? ⟨qb, 0, none⟩ = some (.slice (some ⟨g4, o4, none⟩) N c4) ∧ w'.cell? ⟨g4, o4 + j, none⟩ = some p.1)
            (first | exact ⟨q0, x0, q4⟩ | exact ⟨by assumption, by assumption, by assumption⟩)
            (first | (go_at_call 11; refine (CM.out _ HD.out).mono ?_; rintro e w5 ⟨rfl, hb5⟩; have HB5 := Hid.mk (HD.out.trans (hb5.mono HD.out.size)); obtain ⟨r0, r1, r2⟩ := HCC.out w5 HB5.out; clear hb5) | (go_at_call 12; refine (CR.out _ HB5.out).mono ?_; rintro e w6 ⟨rfl, hb6⟩; have HB6 := Hid.mk (HB5.out.trans (hb6.mono HB5.out.size)); obtain ⟨r3, r4, r5⟩ := HCC.out w6 HB6.out; clear hb6) | (go_at_call 13; refine (CD.out _ HB6.out).mono ?_; rintro e w7 ⟨v7, rfl, hr7, hb7⟩; obtain ⟨a7, c7, hv7⟩ := hr7.sl.slice; subst hv7; have HB7 := Hid.mk (HB6.out.trans (hb7.mono HB6.out.size)); obtain ⟨r6, r7, r8⟩ := HCC.out w7 HB7.out; rw [← HND.out]; clear hb7 hr7))
          clear r0 r1 r2 r3 r4 r5 r6 r7 r8 CD
          have HBN := HB7
          have PN := Hid.mk (P4.out.plus HBN.out)
          obtain ⟨s0, s1, s2⟩ := HCC.out w7 HBN.out
          have CA := Hid.mk (fun u (hu : Below w7.heap.size w7 u) => rApply_any (PN.out.all.below hu) ((HXC.out.below HBN.out).below hu) (by rw [← HN.out]; omega) (by rw [← HN.out]; exact hone) HFW.out (N : Int))
          rw [PN.out.eq] at CA
          have HDA : Hid (Below w7.heap.size w7 w7.drew) := Hid.mk (Below.refl _ _).drew
          have HDB : Hid (Below w7.heap.size w7 (w7.drew.alloc (.cells #[.slice none 0 0] 30))) := Hid.mk ((Below.refl _ _).drew.alloc (Nat.le_refl _) _)
          have HNB : Hid (∀ u, Below (w7.drew.alloc (.cells #[.slice none 0 0] 30)).heap.size (w7.drew.alloc (.cells #[.slice none 0 0] 30)) u → u.heap[w7.heap.size]? = some (.cells #[.slice none 0 0] 30 (0, 0))) := Hid.mk (fun u hu => by
            have hx := box_at w7.drew (.cells #[.slice none 0 0] 30)
            exact (hu.block _ (lt_of_block hx)).trans hx)
          have HK : Hid (∀ u, Below w7.heap.size w7 u → u.cell? ⟨g, off + i, none⟩ = some x.1 ∧ u.cell? ⟨qb, 0, none⟩ = some (.slice (some ⟨g4, o4, none⟩) N c4)) := Hid.mk (fun u hu => by
            obtain ⟨t0, t1, _⟩ := HCC.out u (HBN.out.trans (hu.mono HBN.out.size))
            exact ⟨t0, t1⟩)
          have hqn : qb ≠ w7.heap.size := by have := PN.out.lt; omega
          have hgn : g ≠ w7.heap.size := by have := HBN.out.size; omega
          clear CM CR q0 q4 x0 z0
          go_wp2_with fail
          go_region_held3 (fun w' => w'.cell? ⟨g, off + i, none⟩ = some x.1 ∧ w'.cell? ⟨qb, 0, none⟩ = some (.slice (some ⟨g4, o4, none⟩) N c4))
            (first | with_reducible exact HK.out _ HDB.out | with_reducible exact ⟨s0, s1⟩ | exact ⟨by assumption, by assumption⟩ | exact ⟨(World.cell?_setCell_other _ _ _ _ (by intro e; injection e with e1 _ _; omega)).trans y0, (World.cell?_setCell_other _ _ _ _ (by intro e; injection e with e1 _ _; omega)).trans y1⟩ | go_keep)
            (first | (go_at_call 14; refine (CA.out _ HDA.out).mono ?_; rintro e w8 ⟨v8, ps8, rfl, hr8, he8, hb8⟩; obtain ⟨y0, y1⟩ := HK.out w8 (HDA.out.trans (hb8.mono HDA.out.size)); obtain ⟨a8, c8, hv8⟩ := hr8.sl.sl.slice; subst hv8; have HR8 := Hid.mk hr8; have HE8 := Hid.mk he8; have HB8 := Hid.mk hb8; clear hr8 he8 hb8) | (go_at_call 14; refine (CA.out _ HDB.out).mono ?_; rintro e w8 ⟨v8, ps8, rfl, hr8, he8, hb8⟩; obtain ⟨y0, y1⟩ := HK.out w8 (HDB.out.trans (hb8.mono HDB.out.size)); obtain ⟨y2, y3⟩ := one_cell (HNB.out w8 hb8); obtain ⟨a8, c8, hv8⟩ := hr8.sl.sl.slice; subst hv8; have HR8 := Hid.mk hr8; have HE8 := Hid.mk he8; have HB8 := Hid.mk hb8; clear hr8 he8 hb8))
          · obtain ⟨WZ, hWZ⟩ : ∃ WZ, WZ = w8.alloc (.cells #[(.slice a8 ps8.length c8)] 30) := ⟨_, rfl⟩
            obtain ⟨nb, hnb⟩ : ∃ nb, nb = w8.heap.size := ⟨_, rfl⟩
            have hbz : Below w7.heap.size w7 WZ := by
              have b8 := HDA.out.trans (HB8.out.mono HDA.out.size)
              rw [hWZ]; exact b8.alloc b8.size _
            have hbox : WZ.heap[nb]? = some (.cells #[(.slice a8 ps8.length c8)] 30 (0, 0)) := by rw [hWZ, hnb]; exact box_at w8 _
            have hnl : w7.heap.size ≤ nb := by rw [hnb]; exact (HDA.out.trans (HB8.out.mono HDA.out.size)).size
            have hrz : RAll (fun k => (Plus S4 wx.heap.size w7.heap.size k ∧ k ≠ qb) ∨ w7.heap.size ≤ k) WZ (.slice a8 ps8.length c8) ps8 := by
              have b9 : Below w8.heap.size w8 WZ := by rw [hWZ]; exact (Below.refl _ _).alloc (Nat.le_refl _) _
              exact (HR8.out.below b9).sub (fun k hk _ => hk.imp id (fun h => h.1))
            rw [← hWZ, ← hnb]
            have PZ := Hid.mk (PN.out.plus hbz)
            have HRZ : Hid (RAll (fun k => Plus (Plus S4 wx.heap.size w7.heap.size) w7.heap.size WZ.heap.size k ∧ k ≠ qb) WZ (.slice a8 ps8.length c8) ps8) := Hid.mk (hrz.sub (fun k hk hl => by
              rcases hk with hk | hk
              · exact ⟨.inl hk.1, hk.2⟩
              · exact ⟨.inr ⟨hk, hl⟩, by have := PN.out.lt; omega⟩))
            have HNBX := Hid.mk hbox
            have HNS : Hid (Plus (Plus S4 wx.heap.size w7.heap.size) w7.heap.size WZ.heap.size nb) := Hid.mk (.inr ⟨hnl, lt_of_block hbox⟩)
            have HNQ : Hid (nb ≠ qb) := Hid.mk (by have := PN.out.lt; omega)
            obtain ⟨s0, s1⟩ := HK.out WZ hbz
            have CS := Hid.mk (PZ.out.live.apply ((HXC.out.below HBN.out).below hbz).1 HXC.out.len (N : Int) (by omega))
            have HE9 := HE8
            obtain ⟨er, her⟩ : ∃ er, er = apE All (N : Int) x.2 := ⟨_, rfl⟩
            rw [← her] at CS ⊢
            clear hWZ hnb hbz hbox hnl hrz her
            go_wp2_with fail
            refine CS.out.mono ?_
            rintro e w9 ⟨rfl, hl9, hf9⟩
            have hbq : w9.heap[qb]? = some (.cells #[.slice (some ⟨g4, o4, none⟩) N c4] 30 (0, 0)) := (hf9.block qb PZ.out.inS).trans PZ.out.box
            have P9 := Hid.mk (pl_set hl9 PZ.out.inS PZ.out.hi hbq (HRZ.out.frO hf9) HE8.out)
            obtain ⟨d0, d1⟩ := one_cell hbq
            obtain ⟨d2, d3⟩ := one_cell ((hf9.block nb HNS.out).trans HNBX.out)
            have hAl9 : (apA All (N : Int) x.2).length ≤ i + 1 + 1 := by
              rcases apE_cases0 All (N : Int) x.2 with h | h
              · rw [(apE_may h).2.2.2]; simp; exact hAl
              · rw [(apE_not h).1]; omega
            clear hl9 hf9 hbq CS
            go_wp2
            go_roundw
            case rel => exact ⟨i + 1, _, _, _, _, by omega, by go_num, hAl9, P9.out⟩
            case measure => simp [intOf]; omega
          · obtain ⟨WZ, hWZ⟩ : ∃ WZ, WZ = w8.setCell ⟨w7.heap.size, 0, none⟩ (.slice a8 ps8.length c8) := ⟨_, rfl⟩
            obtain ⟨nb, hnb⟩ : ∃ nb, nb = w7.heap.size := ⟨_, rfl⟩
            have hbz : Below w7.heap.size w7 WZ := by
              rw [hWZ]; exact (HDB.out.trans (HB8.out.mono HDB.out.size)).setCell (p := ⟨w7.heap.size, 0, none⟩) (Nat.le_refl _) _
            have hbx8 : w8.heap[w7.heap.size]? = some (.cells #[.slice none 0 0] 30 (0, 0)) := HNB.out w8 HB8.out
            have hbox : WZ.heap[nb]? = some (.cells #[(.slice a8 ps8.length c8)] 30 (0, 0)) := by rw [hWZ, hnb]; simp [World.setCell, Array.getElem?_modify, hbx8]
            have hnl : w7.heap.size ≤ nb := by rw [hnb]; exact Nat.le_refl _
            have hrz : RAll (fun k => (Plus S4 wx.heap.size w7.heap.size k ∧ k ≠ qb) ∨ w7.heap.size ≤ k) WZ (.slice a8 ps8.length c8) ps8 := by
              have hsame : ∀ k, k ≠ w7.heap.size → WZ.heap[k]? = w8.heap[k]? := fun k hk => by rw [hWZ]; exact Below.heap_setCell _ ⟨w7.heap.size, 0, none⟩ _ k hk
              have key : ∀ k, Plus (fun k => Plus S4 wx.heap.size w7.heap.size k ∧ k ≠ qb) (w7.drew.alloc (.cells #[.slice none 0 0] 30)).heap.size w8.heap.size k → k < w8.heap.size → ((Plus S4 wx.heap.size w7.heap.size k ∧ k ≠ qb) ∨ w7.heap.size ≤ k) ∧ WZ.heap[k]? = w8.heap[k]? := fun k hk _ => by
                rcases hk with hk | hk
                · exact ⟨.inl hk, hsame k (fun e => by have := PN.out.live.low k hk.1; omega)⟩
                · have h2 := hk.1
                  simp at h2
                  exact ⟨.inr (by omega), hsame k (by omega)⟩
              exact ⟨HR8.out.sl.keep (by rw [hWZ]; simp) key, fun p hp => (HR8.out.lists p hp).keep (by rw [hWZ]; simp) key⟩
            rw [← hWZ, ← hnb]
            have PZ := Hid.mk (PN.out.plus hbz)
            have HRZ : Hid (RAll (fun k => Plus (Plus S4 wx.heap.size w7.heap.size) w7.heap.size WZ.heap.size k ∧ k ≠ qb) WZ (.slice a8 ps8.length c8) ps8) := Hid.mk (hrz.sub (fun k hk hl => by
              rcases hk with hk | hk
              · exact ⟨.inl hk.1, hk.2⟩
              · exact ⟨.inr ⟨hk, hl⟩, by have := PN.out.lt; omega⟩))
            have HNBX := Hid.mk hbox
            have HNS : Hid (Plus (Plus S4 wx.heap.size w7.heap.size) w7.heap.size WZ.heap.size nb) := Hid.mk (.inr ⟨hnl, lt_of_block hbox⟩)
            have HNQ : Hid (nb ≠ qb) := Hid.mk (by have := PN.out.lt; omega)
            obtain ⟨s0, s1⟩ := HK.out WZ hbz
            have CS := Hid.mk (PZ.out.live.apply ((HXC.out.below HBN.out).below hbz).1 HXC.out.len (N : Int) (by omega))
            have HE9 := HE8
            obtain ⟨er, her⟩ : ∃ er, er = apE All (N : Int) x.2 := ⟨_, rfl⟩
            rw [← her] at CS ⊢
            clear hWZ hnb hbz hbox hnl hrz her
            go_wp2_with fail
            refine CS.out.mono ?_
            rintro e w9 ⟨rfl, hl9, hf9⟩
            have hbq : w9.heap[qb]? = some (.cells #[.slice (some ⟨g4, o4, none⟩) N c4] 30 (0, 0)) := (hf9.block qb PZ.out.inS).trans PZ.out.box
            have P9 := Hid.mk (pl_set hl9 PZ.out.inS PZ.out.hi hbq (HRZ.out.frO hf9) HE8.out)
            obtain ⟨d0, d1⟩ := one_cell hbq
            obtain ⟨d2, d3⟩ := one_cell ((hf9.block nb HNS.out).trans HNBX.out)
            have hAl9 : (apA All (N : Int) x.2).length ≤ i + 1 + 1 := by
              rcases apE_cases0 All (N : Int) x.2 with h | h
              · rw [(apE_may h).2.2.2]; simp; exact hAl
              · rw [(apE_not h).1]; omega
            clear hl9 hf9 hbq CS
            go_wp2
            go_roundw
            case rel => exact ⟨i + 1, _, _, _, _, by omega, by go_num, hAl9, P9.out⟩
            case measure => simp [intOf]; omega
    · have cut2 : (¬ i < n1) ∨ (i < n1 ∧ ¬ i < 40) := by omega
      rcases cut2 with h3 | ⟨h3, h4⟩
      · have h3I : ¬ (i : Int) < (n1 : Int) := by omega
        have SV := Hid.mk P4.out.eq
        have LIK : Hid (∀ u, Below W1.heap.size W1 u → u.cell? ⟨w.heap.size, 0, none⟩ = some (strV like.1) ∧ u.cell? ⟨w.heap.size, 1, none⟩ = some (strV like.2.1) ∧ u.cell? ⟨w.heap.size, 2, none⟩ = some (strV like.2.2)) := Hid.mk (fun u hu => box3_below HW1.out hu)
        go_wp2_with fail
        go_loopw [13] (fun c wr => ∃ (k : Nat) (S : Nat → Prop), k ≤ N + 2 ∧ c = .int .i64 ((k : Int) - 1) ∧ Pl W1 wr S b qb All (.slice a4 N c4) ps) (fun c _ => N + 2 - (intOf c + 1).toNat)
        case atStart => exact ⟨0, _, by omega, rfl, P4.out⟩
        case round =>
          obtain ⟨k, S5, hk, rfl, hp5⟩ := hrel
          obtain ⟨wy, hwy⟩ : ∃ wy, wy = wr := ⟨_, rfl⟩
          subst hwy
          have P5 := Hid.mk hp5
          obtain ⟨e0, e1⟩ := hp5.cell
          obtain ⟨l0, l1, l2⟩ := LIK.out wy hp5.live.bel
          clear hp5
          obtain ⟨ver, hver⟩ : ∃ ver : Int, ver = (k : Int) - 1 := ⟨_, rfl⟩
          rw [← hver]
          by_cases hkN : k ≤ N + 1
          · have hkI : ver ≤ (N : Int) := by omega
            obtain ⟨L, hL⟩ : ∃ L, L = (verO All ver).getD [] := ⟨_, rfl⟩
            obtain ⟨M, hM⟩ : ∃ M, M = maL All ver like := ⟨_, rfl⟩
            obtain ⟨er, her⟩ : ∃ er, er = maE All ver := ⟨_, rfl⟩
            have hLl : L.length ≤ 4096 := by
              rw [hL]
              cases hv : verO All ver with
              | none => simp
              | some F =>
                obtain ⟨ts, hh⟩ := P5.out.live.hist
                refine hh.few F ?_
                unfold verO at hv
                by_cases e : ver < 0
                · rw [if_pos e] at hv; cases hv
                · rw [if_neg e] at hv; exact List.mem_of_getElem? hv
            have hMl : M.length ≤ 4096 := by
              have h2 : M = L.filter (likeT like) := by rw [hM, hL]; rfl
              rw [h2]
              exact Nat.le_trans (List.length_filter_le _ _) hLl
            have CF := Hid.mk (facts_any P5.out.live.q (by omega) ver)
            have CG := Hid.mk (fun u S (h : RAll S u (.slice a4 N c4) ps) => rFacts_any h ver)
            have CM := Hid.mk (fun u S (h : Q S u b All) => match_any h (by omega : All.length ≤ 1000000) ver like)
            have CN := Hid.mk (fun u S (h : RAll S u (.slice a4 N c4) ps) => rMatch_any h (fun p hp => by
              obtain ⟨ts, hh⟩ := P5.out.live.hist
              have := hh.few _ (by rw [← SV.out]; exact List.mem_map.2 ⟨p, hp, rfl⟩)
              omega) ver like)
            rw [SV.out] at CG CN
            rw [← hL, ← her] at CF CG
            rw [← hM, ← her] at CM CN
            have HVER := Hid.mk hver
            clear hver hL hM her
            go_wp2_with fail
            refine CF.out.mono ?_
            rintro e w6 ⟨a6, c6, rfl, hl6, hb6⟩
            have T6 := Hid.mk hl6.tris
            have P6 := Hid.mk (P5.out.below hb6)
            obtain ⟨e0, e1⟩ := P6.out.cell
            clear hl6 hb6 CF
            go_wp2_with fail
            refine (CG.out _ _ P6.out.all).mono ?_
            rintro e w7 ⟨x7, rfl, hl7, hb7⟩
            obtain ⟨a7, c7, hx7⟩ := hl7.sl.slice
            subst hx7
            have T7 := Hid.mk hl7.sl
            have T6b := Hid.mk (T6.out.below hb7)
            have P7 := Hid.mk (P6.out.below hb7)
            obtain ⟨e0, e1⟩ := P7.out.cell
            obtain ⟨l0, l1, l2⟩ := LIK.out w7 P7.out.live.bel
            have CM7 := Hid.mk (CM.out _ _ P7.out.live.q)
            clear hl7 hb7 CG T6 CM
            go_wp2_with fail
            refine CM7.out.mono ?_
            rintro e w8 ⟨a8, c8, rfl, hl8, hb8⟩
            have T8 := Hid.mk hl8.tris
            have T6c := Hid.mk (T6b.out.below hb8)
            have T7c := Hid.mk (T7.out.below hb8)
            have P8 := Hid.mk (P7.out.below hb8)
            obtain ⟨e0, e1⟩ := P8.out.cell
            obtain ⟨l0, l1, l2⟩ := LIK.out w8 P8.out.live.bel
            have CN8 := Hid.mk (CN.out _ _ P8.out.all)
            clear hl8 hb8 CM7 CN T6b T7
            go_wp2_with fail
            refine CN8.out.mono ?_
            rintro e w9 ⟨x9, rfl, hl9, hb9⟩
            obtain ⟨a9, c9, hx9⟩ := hl9.sl.slice
            subst hx9
            have HB9 := Hid.mk hb9
            have T9 := Hid.mk hl9.sl
            clear hl9 hb9
            have P9 := Hid.mk (P8.out.below HB9.out)
            have CS1 := Hid.mk (fun u (hu : Below w9.heap.size w9 u) => same_any ((T6c.out.below HB9.out).below hu) ((T7c.out.below HB9.out).below hu) (by omega))
            have CS2 := Hid.mk (fun u (hu : Below w9.heap.size w9 u) => same_any ((T8.out.below HB9.out).below hu) (T9.out.below hu) (by omega))
            rw [decide_eq_true rfl] at CS1 CS2
            have HD9 : Hid (Below w9.heap.size w9 w9.drew) := Hid.mk (Below.refl _ _).drew
            clear CN8 e0 e1 l0 l1 l2
            go_wp2_with fail
            refine (CS1.out _ (Below.refl _ _)).mono ?_
            rintro e w10 ⟨rfl, hb10⟩
            have HB10 := Hid.mk hb10
            clear hb10
            go_wp2_with fail
            refine (CS2.out _ HB10.out).mono ?_
            rintro e w11 ⟨rfl, hb11⟩
            have HB11 := Hid.mk (HB10.out.trans (hb11.mono HB10.out.size))
            clear hb11
            have P11 := Hid.mk (P9.out.below HB11.out)
            have hver := HVER.out
            have hvlo : -1 ≤ ver := by omega
            have hvhi : ver ≤ 41 := by omega
            clear hver
            go_wp2
            go_roundw
            case rel => exact ⟨k + 1, _, by omega, by have := HVER.out; go_num, P11.out⟩
            case measure => have := HVER.out; simp [intOf]; omega
          · have hkI : ¬ ver ≤ (N : Int) := by omega
            clear hver
            go_wp2_with fail
            go_loopw [22] (fun c wr => ∃ (k : Nat) (S : Nat → Prop), k ≤ 3 ∧ c = .int .i64 (k : Int) ∧ Pl W1 wr S b qb All (.slice a4 N c4) ps) (fun c _ => 3 - (intOf c).toNat)
            case atStart => exact ⟨0, _, by omega, rfl, P5.out⟩
            case round =>
              obtain ⟨m, S6, hm, rfl, hp6⟩ := hrel
              obtain ⟨wz, hwz⟩ : ∃ wz, wz = wr := ⟨_, rfl⟩
              subst hwz
              have P6 := Hid.mk hp6
              obtain ⟨e0, e1⟩ := hp6.cell
              clear hp6
              by_cases hm3 : m < 3
              · have hm3I : (m : Int) < 3 := by omega
                have CH := Hid.mk (fun u (hu : Below wz.heap.size wz u) => homes_any (P6.out.below hu).live.q (by omega) (m : Int) 3)
                have CG := Hid.mk (fun u (hu : Below wz.heap.size wz u) => rHomes_any (P6.out.all.below hu) (by rw [← HN.out]; omega) (fun p hp => by
                  obtain ⟨ts, hh⟩ := P6.out.live.hist
                  have hF : p.2 ∈ All := by rw [← SV.out]; exact List.mem_map.2 ⟨p, hp, rfl⟩
                  exact ⟨Nat.le_trans (hh.few _ hF) (by omega), hh.word _ hF⟩) (m : Int) 3 (by omega) (by omega))
                rw [SV.out] at CG
                obtain ⟨hb, hhb⟩ : ∃ hb, hb = homesB All (m : Int) 3 := ⟨_, rfl⟩
                rw [← hhb] at CH CG
                clear hhb
                have hbx : (hb != hb) = false := by simp
                have HD : Hid (Below wz.heap.size wz wz.drew) := Hid.mk (Below.refl _ _).drew
                go_wp2_with fail
                go_region_held3 (fun w' => w'.cell? ⟨qb, 0, none⟩ = some (.slice a4 N c4))
                  (first | exact e0 | assumption)
                  (first | (go_at_call 21; refine (CH.out _ HD.out).mono ?_; rintro e w7 ⟨rfl, hb7⟩; have HB7 := Hid.mk (HD.out.trans (hb7.mono HD.out.size)); have f0 := (P6.out.below HB7.out).cell.1; clear hb7) | (go_at_call 22; refine (CG.out _ HB7.out).mono ?_; rintro e w8 ⟨rfl, hb8⟩; have HB8 := Hid.mk (HB7.out.trans (hb8.mono HB7.out.size)); have f1 := (P6.out.below HB8.out).cell.1; clear hb8))
                have P8 := Hid.mk (P6.out.below HB8.out)
                clear CH CG e0 e1 f0 f1
                go_wp2
                go_roundw
                case rel => exact ⟨m + 1, _, by omega, by go_num, P8.out⟩
                case measure => simp [intOf]; omega
              · have hm3I : ¬ (m : Int) < 3 := by omega
                obtain ⟨j, hj⟩ : ∃ j, j = N - 1 := ⟨_, rfl⟩
                have hjw : IntKind.i64.wrap ((N : Int) - 1) = (j : Int) := by rw [IntKind.wrap_i64]; omega
                have CV := Hid.mk (fun u (hu : Below wz.heap.size wz u) => version_any (P6.out.below hu).live.q)
                rw [← HNA.out, ← hj] at CV
                have CX := Hid.mk awake_any
                have HBZ := Hid.mk (HB1.out.trans (P6.out.live.bel.mono HB1.out.size))
                have HD : Hid (Below wz.heap.size wz wz.drew) := Hid.mk (Below.refl _ _).drew
                clear hj
                go_wp2_with fail
                go_region_held3 (fun w' => w'.cell? ⟨qb, 0, none⟩ = some (.slice a4 N c4))
                  (first | exact e0 | assumption)
                  (first | (go_at_call 23; refine (CV.out _ HD.out).mono ?_; rintro e w7 ⟨rfl, hw7⟩; subst hw7) | (go_at_call 24; refine (CX.out _).mono ?_; rintro e w8 ⟨rfl, hb8⟩; have HB8 := Hid.mk (HD.out.trans (hb8.mono HD.out.size)); have f1 := (P6.out.below HB8.out).cell.1; clear hb8))
                go_wp2
                go_ret
                exact ⟨rfl, HBZ.out.trans (HB8.out.mono HBZ.out.size)⟩
      · have h3I : (i : Int) < (n1 : Int) := by omega
        have h4I : ¬ (i : Int) < 40 := by omega
        have SV := Hid.mk P4.out.eq
        have LIK : Hid (∀ u, Below W1.heap.size W1 u → u.cell? ⟨w.heap.size, 0, none⟩ = some (strV like.1) ∧ u.cell? ⟨w.heap.size, 1, none⟩ = some (strV like.2.1) ∧ u.cell? ⟨w.heap.size, 2, none⟩ = some (strV like.2.2)) := Hid.mk (fun u hu => box3_below HW1.out hu)
        go_wp2_with fail
        go_loopw [13] (fun c wr => ∃ (k : Nat) (S : Nat → Prop), k ≤ N + 2 ∧ c = .int .i64 ((k : Int) - 1) ∧ Pl W1 wr S b qb All (.slice a4 N c4) ps) (fun c _ => N + 2 - (intOf c + 1).toNat)
        case atStart => exact ⟨0, _, by omega, rfl, P4.out⟩
        case round =>
          obtain ⟨k, S5, hk, rfl, hp5⟩ := hrel
          obtain ⟨wy, hwy⟩ : ∃ wy, wy = wr := ⟨_, rfl⟩
          subst hwy
          have P5 := Hid.mk hp5
          obtain ⟨e0, e1⟩ := hp5.cell
          obtain ⟨l0, l1, l2⟩ := LIK.out wy hp5.live.bel
          clear hp5
          obtain ⟨ver, hver⟩ : ∃ ver : Int, ver = (k : Int) - 1 := ⟨_, rfl⟩
          rw [← hver]
          by_cases hkN : k ≤ N + 1
          · have hkI : ver ≤ (N : Int) := by omega
            obtain ⟨L, hL⟩ : ∃ L, L = (verO All ver).getD [] := ⟨_, rfl⟩
            obtain ⟨M, hM⟩ : ∃ M, M = maL All ver like := ⟨_, rfl⟩
            obtain ⟨er, her⟩ : ∃ er, er = maE All ver := ⟨_, rfl⟩
            have hLl : L.length ≤ 4096 := by
              rw [hL]
              cases hv : verO All ver with
              | none => simp
              | some F =>
                obtain ⟨ts, hh⟩ := P5.out.live.hist
                refine hh.few F ?_
                unfold verO at hv
                by_cases e : ver < 0
                · rw [if_pos e] at hv; cases hv
                · rw [if_neg e] at hv; exact List.mem_of_getElem? hv
            have hMl : M.length ≤ 4096 := by
              have h2 : M = L.filter (likeT like) := by rw [hM, hL]; rfl
              rw [h2]
              exact Nat.le_trans (List.length_filter_le _ _) hLl
            have CF := Hid.mk (facts_any P5.out.live.q (by omega) ver)
            have CG := Hid.mk (fun u S (h : RAll S u (.slice a4 N c4) ps) => rFacts_any h ver)
            have CM := Hid.mk (fun u S (h : Q S u b All) => match_any h (by omega : All.length ≤ 1000000) ver like)
            have CN := Hid.mk (fun u S (h : RAll S u (.slice a4 N c4) ps) => rMatch_any h (fun p hp => by
              obtain ⟨ts, hh⟩ := P5.out.live.hist
              have := hh.few _ (by rw [← SV.out]; exact List.mem_map.2 ⟨p, hp, rfl⟩)
              omega) ver like)
            rw [SV.out] at CG CN
            rw [← hL, ← her] at CF CG
            rw [← hM, ← her] at CM CN
            have HVER := Hid.mk hver
            clear hver hL hM her
            go_wp2_with fail
            refine CF.out.mono ?_
            rintro e w6 ⟨a6, c6, rfl, hl6, hb6⟩
            have T6 := Hid.mk hl6.tris
            have P6 := Hid.mk (P5.out.below hb6)
            obtain ⟨e0, e1⟩ := P6.out.cell
            clear hl6 hb6 CF
            go_wp2_with fail
            refine (CG.out _ _ P6.out.all).mono ?_
            rintro e w7 ⟨x7, rfl, hl7, hb7⟩
            obtain ⟨a7, c7, hx7⟩ := hl7.sl.slice
            subst hx7
            have T7 := Hid.mk hl7.sl
            have T6b := Hid.mk (T6.out.below hb7)
            have P7 := Hid.mk (P6.out.below hb7)
            obtain ⟨e0, e1⟩ := P7.out.cell
            obtain ⟨l0, l1, l2⟩ := LIK.out w7 P7.out.live.bel
            have CM7 := Hid.mk (CM.out _ _ P7.out.live.q)
            clear hl7 hb7 CG T6 CM
            go_wp2_with fail
            refine CM7.out.mono ?_
            rintro e w8 ⟨a8, c8, rfl, hl8, hb8⟩
            have T8 := Hid.mk hl8.tris
            have T6c := Hid.mk (T6b.out.below hb8)
            have T7c := Hid.mk (T7.out.below hb8)
            have P8 := Hid.mk (P7.out.below hb8)
            obtain ⟨e0, e1⟩ := P8.out.cell
            obtain ⟨l0, l1, l2⟩ := LIK.out w8 P8.out.live.bel
            have CN8 := Hid.mk (CN.out _ _ P8.out.all)
            clear hl8 hb8 CM7 CN T6b T7
            go_wp2_with fail
            refine CN8.out.mono ?_
            rintro e w9 ⟨x9, rfl, hl9, hb9⟩
            obtain ⟨a9, c9, hx9⟩ := hl9.sl.slice
            subst hx9
            have HB9 := Hid.mk hb9
            have T9 := Hid.mk hl9.sl
            clear hl9 hb9
            have P9 := Hid.mk (P8.out.below HB9.out)
            have CS1 := Hid.mk (fun u (hu : Below w9.heap.size w9 u) => same_any ((T6c.out.below HB9.out).below hu) ((T7c.out.below HB9.out).below hu) (by omega))
            have CS2 := Hid.mk (fun u (hu : Below w9.heap.size w9 u) => same_any ((T8.out.below HB9.out).below hu) (T9.out.below hu) (by omega))
            rw [decide_eq_true rfl] at CS1 CS2
            have HD9 : Hid (Below w9.heap.size w9 w9.drew) := Hid.mk (Below.refl _ _).drew
            clear CN8 e0 e1 l0 l1 l2
            go_wp2_with fail
            refine (CS1.out _ (Below.refl _ _)).mono ?_
            rintro e w10 ⟨rfl, hb10⟩
            have HB10 := Hid.mk hb10
            clear hb10
            go_wp2_with fail
            refine (CS2.out _ HB10.out).mono ?_
            rintro e w11 ⟨rfl, hb11⟩
            have HB11 := Hid.mk (HB10.out.trans (hb11.mono HB10.out.size))
            clear hb11
            have P11 := Hid.mk (P9.out.below HB11.out)
            have hver := HVER.out
            have hvlo : -1 ≤ ver := by omega
            have hvhi : ver ≤ 41 := by omega
            clear hver
            go_wp2
            go_roundw
            case rel => exact ⟨k + 1, _, by omega, by have := HVER.out; go_num, P11.out⟩
            case measure => have := HVER.out; simp [intOf]; omega
          · have hkI : ¬ ver ≤ (N : Int) := by omega
            clear hver
            go_wp2_with fail
            go_loopw [22] (fun c wr => ∃ (k : Nat) (S : Nat → Prop), k ≤ 3 ∧ c = .int .i64 (k : Int) ∧ Pl W1 wr S b qb All (.slice a4 N c4) ps) (fun c _ => 3 - (intOf c).toNat)
            case atStart => exact ⟨0, _, by omega, rfl, P5.out⟩
            case round =>
              obtain ⟨m, S6, hm, rfl, hp6⟩ := hrel
              obtain ⟨wz, hwz⟩ : ∃ wz, wz = wr := ⟨_, rfl⟩
              subst hwz
              have P6 := Hid.mk hp6
              obtain ⟨e0, e1⟩ := hp6.cell
              clear hp6
              by_cases hm3 : m < 3
              · have hm3I : (m : Int) < 3 := by omega
                have CH := Hid.mk (fun u (hu : Below wz.heap.size wz u) => homes_any (P6.out.below hu).live.q (by omega) (m : Int) 3)
                have CG := Hid.mk (fun u (hu : Below wz.heap.size wz u) => rHomes_any (P6.out.all.below hu) (by rw [← HN.out]; omega) (fun p hp => by
                  obtain ⟨ts, hh⟩ := P6.out.live.hist
                  have hF : p.2 ∈ All := by rw [← SV.out]; exact List.mem_map.2 ⟨p, hp, rfl⟩
                  exact ⟨Nat.le_trans (hh.few _ hF) (by omega), hh.word _ hF⟩) (m : Int) 3 (by omega) (by omega))
                rw [SV.out] at CG
                obtain ⟨hb, hhb⟩ : ∃ hb, hb = homesB All (m : Int) 3 := ⟨_, rfl⟩
                rw [← hhb] at CH CG
                clear hhb
                have hbx : (hb != hb) = false := by simp
                have HD : Hid (Below wz.heap.size wz wz.drew) := Hid.mk (Below.refl _ _).drew
                go_wp2_with fail
                go_region_held3 (fun w' => w'.cell? ⟨qb, 0, none⟩ = some (.slice a4 N c4))
                  (first | exact e0 | assumption)
                  (first | (go_at_call 21; refine (CH.out _ HD.out).mono ?_; rintro e w7 ⟨rfl, hb7⟩; have HB7 := Hid.mk (HD.out.trans (hb7.mono HD.out.size)); have f0 := (P6.out.below HB7.out).cell.1; clear hb7) | (go_at_call 22; refine (CG.out _ HB7.out).mono ?_; rintro e w8 ⟨rfl, hb8⟩; have HB8 := Hid.mk (HB7.out.trans (hb8.mono HB7.out.size)); have f1 := (P6.out.below HB8.out).cell.1; clear hb8))
                have P8 := Hid.mk (P6.out.below HB8.out)
                clear CH CG e0 e1 f0 f1
                go_wp2
                go_roundw
                case rel => exact ⟨m + 1, _, by omega, by go_num, P8.out⟩
                case measure => simp [intOf]; omega
              · have hm3I : ¬ (m : Int) < 3 := by omega
                obtain ⟨j, hj⟩ : ∃ j, j = N - 1 := ⟨_, rfl⟩
                have hjw : IntKind.i64.wrap ((N : Int) - 1) = (j : Int) := by rw [IntKind.wrap_i64]; omega
                have CV := Hid.mk (fun u (hu : Below wz.heap.size wz u) => version_any (P6.out.below hu).live.q)
                rw [← HNA.out, ← hj] at CV
                have CX := Hid.mk awake_any
                have HBZ := Hid.mk (HB1.out.trans (P6.out.live.bel.mono HB1.out.size))
                have HD : Hid (Below wz.heap.size wz wz.drew) := Hid.mk (Below.refl _ _).drew
                clear hj
                go_wp2_with fail
                go_region_held3 (fun w' => w'.cell? ⟨qb, 0, none⟩ = some (.slice a4 N c4))
                  (first | exact e0 | assumption)
                  (first | (go_at_call 23; refine (CV.out _ HD.out).mono ?_; rintro e w7 ⟨rfl, hw7⟩; subst hw7) | (go_at_call 24; refine (CX.out _).mono ?_; rintro e w8 ⟨rfl, hb8⟩; have HB8 := Hid.mk (HD.out.trans (hb8.mono HD.out.size)); have f1 := (P6.out.below HB8.out).cell.1; clear hb8))
                go_wp2
                go_ret
                exact ⟨rfl, HBZ.out.trans (HB8.out.mono HBZ.out.size)⟩
end Go.Proofs.Ytiabnjjdeikefaa
