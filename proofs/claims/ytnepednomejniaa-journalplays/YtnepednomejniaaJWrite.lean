/- Write of the program. -/
import Derived.Test.YtnepednomejniaaJState
namespace Go.Proofs.Ytnepednomejniaa
open Go.RowKit

theorem run_append_string_at {w : World} {B : Nat} {v : Value} {n : Nat} {xs : List Value} (hown : w.ownsRow B 5 1 v n xs) (s : ByteArray) (hlim : n + s.size ≤ 140737488355328) (hB : B ≤ w.heap.size) (ty : TypeId) :
    ∃ v' w', (Builtin.append_ #[53, 9] ty #[v, .string s]).run Try.prog w = .ok v' w' ∧ w'.ownsRow B 5 1 v' (n + s.size) (xs ++ Lib.strCells s) ∧ w.grownBy w' v.ownBlock ∧ (v'.ownBlock = v.ownBlock ∨ v'.ownBlock = some w.heap.size) := by
  obtain ⟨i0, hi, hz0, hz1, hz2⟩ := info_parts info5
  obtain ⟨v', w', hr, h2, h3, h4⟩ := Lib.run_append_own_string (P := Try.prog) w B 53 9 ty 5 i0 Try.underlying53 Try.underlying9 hi hz0 hz1 hz2 v n xs hown s (by unfold maxLen; omega) hlim hB
  refine ⟨v', w', hr, h2, h3, ?_⟩
  have hsrc : Src Try.prog i0.size 9 (.string s) s.size (byteCells s) w := by rw [hz1]; exact Src.ofString w Try.underlying9 s
  have hbl := byteCells_length s
  rcases hown.2 with ⟨rfl, rfl⟩ | ⟨g, cap, cur, rfl, _, e3, e4, e5, e6, e7⟩
  · by_cases h0 : s.size = 0
    · left; rw [h4.2 ⟨rfl, h0⟩]
    · right
      have hg := run_append_grow_src (P := Try.prog) w 53 9 ty 5 i0 (.int .u8 0) Try.underlying53 hi hz0 none 0 0 [] (run_firstCells_none w.drew i0.size 0 0 0) (.string s) s.size (byteCells s) hsrc (by omega) (by omega) (by rw [hz2]; exact growslice_fits (by omega) (by omega))
      rw [hr] at hg
      have := (Result.ok.inj hg).1
      rw [this]; rfl
  · by_cases hroom : n + s.size ≤ cap
    · left
      have hg := run_append_room_src (P := Try.prog) w 53 9 ty 5 i0 Try.underlying53 hi g 0 n cap (.string s) s.size (byteCells s) hsrc hroom
        (fun j hj => by
          rw [hz1, Nat.mul_one, Nat.zero_add]
          simp only [World.cell?, e3]
          rw [Array.getElem?_eq_getElem (by omega)]; rfl)
        (fun j hj => by
          rw [hz1, Nat.mul_one, Nat.zero_add]
          simp [World.frozen?, e3])
      rw [hr] at hg
      have := (Result.ok.inj hg).1
      rw [this]; rfl
    · right
      have hold : (Builtin.firstCells i0.size n (.slice (some ⟨g, 0, none⟩) n cap)).run Try.prog w.drew = .ok xs.toArray w.drew :=
        run_firstCells_some w.drew i0.size n ⟨g, 0, none⟩ n cap xs (by rw [hz1]; exact hown.1) (fun j u hu => hown.cells (g := g) rfl j u hu)
      have hg := run_append_grow_src (P := Try.prog) w 53 9 ty 5 i0 (.int .u8 0) Try.underlying53 hi hz0 (some ⟨g, 0, none⟩) n cap xs hold (.string s) s.size (byteCells s) hsrc (by omega) (by omega) (by rw [hz2]; exact growslice_fits (by omega) (by omega))
      rw [hr] at hg
      have := (Result.ok.inj hg).1
      rw [this]; rfl

/-- The operation, for a walk. -/
theorem wpList_append_string_at {w : World} {ops : Array Oper} {rest : List Oper} {o : Oper} {a : Act} {Q : Exit → Act → World → Prop} (hgd : o.guard = none) (sl x : Operand)
    (ho : o.op = .call { callee := .builtin .append, args := #[sl, x], argTypes := #[53, 9] })
    (B : Nat) (v : Value) (n : Nat) (xs : List Value) (hs : a.eval sl = v) (hown : w.ownsRow B 5 1 v n xs) (s : ByteArray) (hx : a.eval x = .string s) (hlim : n + s.size ≤ 140737488355328) (hB : B ≤ w.heap.size)
    (h : ∀ v' w', w'.ownsRow B 5 1 v' (n + s.size) (xs ++ Lib.strCells s) → w.grownBy w' v.ownBlock → (v'.ownBlock = v.ownBlock ∨ v'.ownBlock = some w.heap.size) → wpList Try.prog ops Q rest (a.put o.dst v') w') : wpList Try.prog ops Q (o :: rest) a w := by
  refine wpList_plain hgd fun K hK => ?_
  obtain ⟨v', w', hr, h2, h3, h4⟩ := run_append_string_at hown s hlim hB o.type
  unfold Oper.wp execOp
  simp only [ho, resolve, invoke, builtin, Sem.run_bind, Sem.run_pure, Result.andThen_ok, List.map_toArray, List.map_cons, List.map_nil, hs, hx, hr]
  exact hK _ _ (h v' w' h2 h3 h4)

theorem own_ne {w : World} {B n b : Nat} {e t : TypeId} {size : Nat} {v : Value} {xs : List Value} {cs : Array Value} {fz : Nat × Nat} (h : w.ownsRow B e size v n xs) (hb : w.heap[b]? = some (.cells cs t fz)) (hne : e ≠ t) : v.ownBlock ≠ some b := by
  intro hv
  rcases h.2 with ⟨rfl, _⟩ | ⟨g, cap, cur, rfl, _, e3, _⟩
  · simp [Value.ownBlock] at hv
  · have : g = b := by simpa [Value.ownBlock] using hv
    subst this
    rw [hb] at e3
    simp only [Option.some.injEq, Obj.cells.injEq] at e3
    exact hne e3.2.1.symm
theorem owns_setAt {w : World} {B n b i : Nat} {e t : TypeId} {size : Nat} {v u : Value} {xs : List Value} {cs : Array Value} {fz : Nat × Nat} (h : w.ownsRow B e size v n xs) (hb : w.heap[b]? = some (.cells cs t fz)) (hne : e ≠ t) : (w.setCell ⟨b, i, none⟩ u).ownsRow B e size v n xs := by
  have hv := own_ne h hb hne
  refine ⟨h.1, ?_⟩
  rcases h.2 with h0 | ⟨g, cap, cur, e1, e2, e3, e4⟩
  · exact .inl h0
  · refine .inr ⟨g, cap, cur, e1, e2, (Below.heap_setCell w ⟨b, i, none⟩ u g (fun hg => hv ?_)).trans e3, e4⟩
    rw [e1]
    exact congrArg some hg
theorem blk_grown {w w' : World} {b : Nat} {o : Obj} {row : Option Nat} (h : w.heap[b]? = some o) (hg : w.grownBy w' row) (hne : row ≠ some b) : w'.heap[b]? = some o :=
  (hg.block b (lt_of_block h) (fun e => hne e.symm)).trans h
theorem strCells_u8s (l : List UInt8) : Lib.strCells ⟨l.toArray⟩ = u8s l := by
  simp [Lib.strCells, u8s]

theorem seals_count : ∀ {ns : List NoteD}, (∀ n ∈ ns, n.may) → 8 * ns.length ≤ (seals ns).length
  | [], _ => by simp
  | n :: ns, h => by
    have a := seals_count (ns := ns) (fun m hm => h m (by simp [hm]))
    have c := sealB_len n.body
    rw [seals_cons, List.length_append, List.length_cons]; omega
theorem u8s_append (a b : List UInt8) : u8s (a ++ b) = u8s a ++ u8s b := by simp [u8s]

/-- The journal holds the notes ns, the first s of them sure. -/
def J (S : Nat → Prop) (w : World) (b room : Nat) (ns : List NoteD) (s : Nat) : Prop := s ≤ ns.length ∧ ∃ vb ve, JAt S w b room vb ve ns (seals (ns.take s)).length
theorem J.below {S : Nat → Prop} {w w' : World} {b room : Nat} {ns : List NoteD} {s : Nat} (h : J S w b room ns s) (hb : Below w.heap.size w w') : J S w' b room ns s := by
  obtain ⟨hs, vb, ve, h⟩ := h
  exact ⟨hs, vb, ve, h.below hb⟩
theorem J.more {S T : Nat → Prop} {w : World} {b room : Nat} {ns : List NoteD} {s : Nat} (h : J S w b room ns s) (hT : ∀ k, T k → S k ∨ w.heap.size ≤ k) : J T w b room ns s := by
  obtain ⟨hs, vb, ve, h⟩ := h
  exact ⟨hs, vb, ve, h.more hT⟩
theorem J.may {S : Nat → Prop} {w : World} {b room : Nat} {ns : List NoteD} {s : Nat} (h : J S w b room ns s) : ∀ n ∈ ns, n.may := by
  obtain ⟨_, vb, ve, h⟩ := h
  exact h.may
theorem J.fits {S : Nat → Prop} {w : World} {b room : Nat} {ns : List NoteD} {s : Nat} (h : J S w b room ns s) : (seals ns).length ≤ room ∧ room ≤ 67108864 := by
  obtain ⟨_, vb, ve, h⟩ := h
  exact ⟨h.fits, h.room_le⟩
theorem J.zero {S : Nat → Prop} {w w' : World} {room : Nat} (hS : Low S w) (h : w'.heap[w.heap.size]? = some (jZero w room)) (hr : room ≤ 67108864) : J S w' w.heap.size room [] 0 :=
  ⟨Nat.le_refl _, _, _, jZero_at hS h hr⟩

theorem jsize_any {S : Nat → Prop} {w : World} {b room : Nat} {ns : List NoteD} {s : Nat} (h : J S w b room ns s) :
    Calls Try.prog 14 #[.pointer (some ⟨b, 0, none⟩)] w fun e w' => e = .returned (.tuple #[.int .i64 ((seals ns).length : Int), .int .i64 ((seals (ns.take s)).length : Int)]) ∧ Below w.heap.size w w' := by
  obtain ⟨_, vb, ve, h⟩ := h
  exact size_any h
theorem jnotes_any {S : Nat → Prop} {w : World} {b room : Nat} {ns : List NoteD} {s : Nat} (h : J S w b room ns s) :
    Calls Try.prog 16 #[.pointer (some ⟨b, 0, none⟩)] w fun e w' => ∃ v, e = .returned v ∧ NotesOwn w' w.heap.size v ns ∧ Below w.heap.size w w' := by
  obtain ⟨_, vb, ve, h⟩ := h
  exact notes_any h
theorem jsure_any {S : Nat → Prop} {w : World} {b room : Nat} {ns : List NoteD} {s : Nat} (h : J S w b room ns s) :
    Calls Try.prog 19 #[.pointer (some ⟨b, 0, none⟩)] w fun e w' => e = .returned (.int .i64 0) ∧ J S w' b room ns ns.length ∧ Fr S w w' := by
  obtain ⟨_, vb, ve, h⟩ := h
  refine (sure_any h).mono ?_
  rintro e w' ⟨rfl, h1, h2⟩
  exact ⟨rfl, ⟨Nat.le_refl _, vb, ve, by rw [List.take_of_length_le (Nat.le_refl _)]; exact h1⟩, h2⟩

/-- What Write answers, and what it makes of the journal. -/
def WEnd (S : Nat → Prop) (b room : Nat) (ns : List NoteD) (s : Nat) (n : NoteD) (e : Ending) (w' : World) : Prop :=
  (¬ n.may ∧ e = .returned (.int .i64 1) ∧ J S w' b room ns s) ∨
  (n.may ∧ room < (seals ns).length + (sealB n.body).length ∧ e = .returned (.int .i64 40) ∧ J S w' b room ns s) ∨
  (n.may ∧ (seals (ns ++ [n])).length ≤ room ∧ e = .returned (.int .i64 0) ∧ J S w' b room (ns ++ [n]) s)

set_option maxHeartbeats 2000000 in
set_option maxRecDepth 100000 in
theorem write_any {S : Nat → Prop} {w : World} {b room : Nat} {ns : List NoteD} {s : Nat} (hJ : J S w b room ns s) (hS : Low S w) (vn : Value) (n : NoteD) (hn : NoteAt w vn n) (hs : n.sane) :
    Calls Try.prog 18 #[.pointer (some ⟨b, 0, none⟩), vn] w fun e w' => Fr S w w' ∧ WEnd S b room ns s n e w' := by
  obtain ⟨hs0, vb, ve, h⟩ := hJ
  obtain ⟨sure, hsure⟩ : ∃ k, k = (seals (ns.take s)).length := ⟨_, rfl⟩
  rw [← hsure] at h
  have HSU := Hid.mk hsure
  clear hsure
  obtain ⟨i0, hi0, hz0, hz1, hz2⟩ := info_parts infoInt
  have hN := hn
  obtain ⟨x1, x2, x3, rfl, _⟩ := hn
  obtain ⟨W0, hW0⟩ : ∃ W0, W0 = w.alloc (.cells #[.int .i64 n.kind, x1, x2, x3] 37) := ⟨_, rfl⟩
  have t2 : Below w.heap.size w W0 := by rw [hW0]; exact (Below.refl _ _).alloc (Nat.le_refl _) _
  have NA := Hid.mk (hN.below t2)
  have H0 := Hid.mk (h.below t2)
  have F0 := Hid.mk (fr_below hS t2)
  obtain ⟨⟨r0, r1, r2, r3⟩, _⟩ := four_cells (show W0.heap[w.heap.size]? = some (.cells #[.int .i64 n.kind, x1, x2, x3] 37 (0, 0)) from by rw [hW0]; exact box_at w _)
  obtain ⟨⟨g0, g1, g2, g3, g4⟩, _⟩ := five_cells H0.out.blk
  have C := Hid.mk (given_any b W0 g0)
  have P1 := Hid.mk (pack_any _ n W0 NA.out hs)
  have HW0 := Hid.mk hW0
  have HS := Hid.mk hS
  clear h hN hW0 t2 g0 g1 g2 g3 g4 NA hS
  go_enter Try.func18, Try.ntmps18
  go_wp2_with fail
  rw [← HW0.out]
  refine C.out.mono ?_
  rintro e w1 ⟨rfl, hw⟩
  subst hw
  by_cases hm : n.may
  · rw [packV_may hm] at P1
    have hsl := sealB_len n.body
    have hbl := hm.2.2
    have HM := Hid.mk hm
    obtain ⟨l, hl⟩ : ∃ l, l = sealB n.body := ⟨_, rfl⟩
    rw [← hl] at P1 hsl
    have HL := Hid.mk hl
    have hll : l.length ≤ 1048584 := by omega
    have hzl := size_list l
    have hl1 := Hid.mk (show l ≠ [] by intro e; rw [e] at hsl; simp at hsl; omega)
    clear hm hl hbl hsl
    go_wp2_with fail
    refine P1.out.mono ?_
    rintro e w2 ⟨rfl, hb2⟩
    have H2 := Hid.mk (H0.out.below hb2)
    have F2 := Hid.mk (F0.out.next HS.out hb2)
    clear hb2 H0 F0 C P1 r0 r1 r2 r3 HW0
    obtain ⟨a1, c1, a2, c2, hv1, hv2⟩ := H2.out.slices
    have hsl := H2.out.fits
    have hrl := H2.out.room_le
    subst hv1 hv2
    obtain ⟨⟨g0, g1, g2, g3, g4⟩, _⟩ := five_cells H2.out.blk
    obtain ⟨L, hL⟩ : ∃ L, L = (seals ns).length := ⟨_, rfl⟩
    rw [← hL] at H2 hsl g2
    have HLn := Hid.mk hL
    clear hL
    go_wp2_with fail
    go_quiet (fail)
    have hbq := below_drewN (Below.refl w2.heap.size w2) nq
    obtain ⟨W2, hW2⟩ : ∃ W, W = w2.drewN nq := ⟨_, rfl⟩
    rw [← hW2] at hbq ⊢
    have H3 := Hid.mk (H2.out.below hbq)
    have F3 := Hid.mk (F2.out.next HS.out hbq)
    clear hbq hW2 H2 F2 g0 g1 g2 g3 g4
    obtain ⟨⟨g0, g1, g2, g3, g4⟩, ⟨f0, f1, f2, f3, f4⟩⟩ := five_cells H3.out.blk
    by_cases hr : room < L + l.length
    · have hrI : (room : Int) < (L : Int) + (l.length : Int) := by omega
      go_wp2
      go_ret
      exact ⟨F3.out, .inr (.inl ⟨HM.out, by rw [← HL.out, ← HLn.out]; exact hr, rfl, hs0, _, _, by rw [← HSU.out]; exact H3.out⟩)⟩
    · have hrI : ¬ (room : Int) < (L : Int) + (l.length : Int) := by omega
      have hcnt := seals_count H3.out.may
      rw [← HLn.out] at hcnt
      have hnl : ns.length ≤ 8388608 := by omega
      go_wp2_with (at_builtin; refine wpList_append_string_at rfl (.tmp 35) (.tmp 36) rfl 0 (.slice a1 L c1) _ _ (by rfl) H3.out.ob ⟨l.toArray⟩ (by rfl) ?o2 (Nat.zero_le _) ?_)
      case o2 => rw [← HLn.out]; omega
      intro v3 w3 hown3 hgrow3 hat3
      rw [strCells_u8s, ← HLn.out] at hown3
      have hb3 := blk_grown H3.out.blk hgrow3 (own_ne H3.out.ob H3.out.blk (by decide))
      have he3 := owns_other H3.out.oe H3.out.ob hgrow3 (by decide)
      have F4 := Hid.mk ((F3.out.grown HS.out hgrow3 H3.out.outb).setCell (i := 2) H3.out.out v3)
      have O3 : Hid (∀ g, v3.ownBlock = some g → ¬ S g) := Hid.mk (fun g hg hk => by
        rcases hat3 with e1 | e1
        · exact H3.out.outb g (by rw [← e1]; exact hg) hk
        · rw [hg] at e1
          have e2 : g = W2.heap.size := Option.some.inj e1
          have := (HS.out.fr F3.out) g hk
          omega)
      obtain ⟨a3, c3, rfl⟩ := own_slice hown3
      have hblk4 := five_set2 (v := .slice a3 (L + l.length) c3) hb3
      have oe4 := owns_setAt (i := 2) (u := .slice a3 (L + l.length) c3) he3 hb3 (by decide)
      have ob4 := owns_setAt (i := 2) (u := .slice a3 (L + l.length) c3) hown3 hb3 (by decide)
      clear g0 g1 g2 g3 g4 f0 f1 f2 f3 f4
      obtain ⟨⟨g0, g1, g2, g3, g4⟩, ⟨f0, f1, f2, f3, f4⟩⟩ := five_cells hb3
      obtain ⟨⟨r0, r1, r2, r3, r4⟩, ⟨k0, k1, k2, k3, k4⟩⟩ := five_cells hblk4
      clear hown3 hgrow3 hat3 hb3 he3 F3
      go_wp2_with fail
      obtain ⟨W4, hW4⟩ : ∃ W, W = w3.setCell ⟨b, 2, none⟩ (.slice a3 (L + l.length) c3) := ⟨_, rfl⟩
      rw [← hW4] at F4 hblk4 oe4 ob4 r0 r1 r2 r3 r4 k0 k1 k2 k3 k4 ⊢
      clear hW4 g0 g1 g2 g3 g4 f0 f1 f2 f3 f4
      have ba : Below W4.heap.size W4 (W4.alloc (.cells #[.int .i64 ((L : Int) + (l.length : Int))] 3)).drew := ((Below.refl _ _).alloc (Nat.le_refl _) _).drew
      have oe5 := owns_below oe4 ba
      have ob5 := owns_below ob4 ba
      have hltb : b < W4.heap.size := lt_of_block hblk4
      have hblk5 := (ba.block b hltb).trans hblk4
      have F5 := Hid.mk (F4.out.next HS.out ba)
      clear ba
      go_region_law (refine step_append_lies _ (by rfl) _ _ _ (by rfl) 0 3 i0 _ 1 8 Try.underlying28 hi0 hz0 hz1 hz2 rfl (by omega) (.slice a2 ns.length c2) _ _ (by rfl) oe5 ⟨W4.heap.size, 0, none⟩ 1 1 [.int .i64 _] (by rfl) (by rfl) (World.news_of_block (cs := #[.int .i64 _]) (t := 3) (fr := (0, 0)) (heap_alloc_new W4 _)) (by simp [Value.oneCell']) (by omega) (by unfold maxLen; omega) (by omega) (Nat.zero_le _) (W4.heap.size + 1) (by simp) ?_; intro gg cap w5 hown5 hgrow5 hat5 hlt5; have hb5 := blk_grown hblk5 hgrow5 (own_ne oe5 hblk5 (by decide)); obtain ⟨⟨q0, q1, q2, q3, q4⟩, ⟨j0, j1, j2, j3, j4⟩⟩ := five_cells hb5)
      all_goals (
        have ob6 := owns_other ob5 oe5 hgrow5 (by decide)
        have hfin : J S (w5.setCell ⟨b, 3, none⟩ (.slice (some ⟨gg, 0, none⟩) (ns.length + 1) cap)) b room (ns ++ [n]) s := by
          have eL : (seals (ns ++ [n])).length = L + l.length := by rw [seals_snoc, List.length_append, HLn.out, HL.out]
          refine ⟨by rw [List.length_append]; omega, .slice a3 (L + l.length) c3, .slice (some ⟨gg, 0, none⟩) (ns.length + 1) cap, by rw [List.take_append_of_le_length hs0, ← HSU.out]; exact five_set3 hb5, H3.out.out, ?_, O3.out, ?_, ?_, ?_, by omega, hrl, by rw [List.take_append_of_le_length hs0, ← HSU.out]; have := H3.out.sure_le; rw [← HLn.out] at this; omega⟩
          · rw [eL, seals_snoc, u8s_append, ← HL.out]
            exact owns_setAt ob6 hb5 (by decide)
          · rw [endsOf_snoc, intCs_snoc, eL, List.length_append]
            exact owns_setAt hown5 hb5 (by decide)
          · intro g hg hk
            have e1 : gg = g := by simpa [Value.ownBlock] using hg
            subst e1
            rcases hat5 with e2 | e2
            · exact H3.out.oute gg e2 hk
            · have := (HS.out.fr F4.out) gg hk
              omega
          · intro m hm
            rcases List.mem_append.1 hm with hm | hm
            · exact H3.out.may m hm
            · rw [List.mem_singleton] at hm; rw [hm]; exact HM.out
        have hfr : Fr S w (w5.setCell ⟨b, 3, none⟩ (.slice (some ⟨gg, 0, none⟩) (ns.length + 1) cap)) := (F5.out.grown HS.out hgrow5 H3.out.oute).setCell H3.out.out _
        have HFIN := Hid.mk hfin
        have HFR := Hid.mk hfr
        have HLE : Hid ((seals (ns ++ [n])).length ≤ room) := Hid.mk (by rw [seals_snoc, List.length_append, ← HLn.out, ← HL.out]; omega)
        clear hfin hfr ob6 hown5 hgrow5 hat5 hlt5 hb5 q0 q1 q2 q3 q4 j0 j1 j2 j3 j4 oe5 ob5 hblk5 oe4 ob4 hblk4 r0 r1 r2 r3 r4 k0 k1 k2 k3 k4
        go_wp2
        go_ret
        exact ⟨HFR.out, .inr (.inr ⟨HM.out, HLE.out, rfl, HFIN.out⟩)⟩)
  · rw [packV_not hm] at P1
    have HM := Hid.mk hm
    clear hm
    go_wp2_with fail
    refine P1.out.mono ?_
    rintro e w2 ⟨rfl, hb2⟩
    go_wp2
    go_ret
    exact ⟨F0.out.next HS.out hb2, .inl ⟨HM.out, rfl, hs0, _, _, by rw [← HSU.out]; exact H0.out.below hb2⟩⟩
end Go.Proofs.Ytnepednomejniaa
