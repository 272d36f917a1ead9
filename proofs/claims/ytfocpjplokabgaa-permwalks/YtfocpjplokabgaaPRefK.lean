/- The document's Key, Up and Open. -/
import Derived.Test.YtfocpjplokabgaaPRefL
import Derived.Test.YtfocpjplokabgaaPAllM
namespace Go.Proofs.Ytfocpjplokabgaa
open Go.RowKit Go.Shelf

/-- The document's walk, as a value. -/
abbrev wV (o : R3) (vl va : Value) (bh : Bool) : Value := .agg #[.int .i64 o.a, .int .i64 o.b, .int .i64 o.c, vl, va, .bool bh]
abbrev wCs (o : R3) (vl va : Value) (bh : Bool) : Array Value := #[.int .i64 o.a, .int .i64 o.b, .int .i64 o.c, vl, va, .bool bh]
abbrev wC0 : Array Value := #[.int .i64 0, .int .i64 0, .int .i64 0, .slice none 0 0, .slice none 0 0, .bool false]
theorem six_cells {w : World} {b : Nat} {c0 c1 c2 c3 c4 c5 : Value} {t : TypeId} (h : w.heap[b]? = some (.cells #[c0, c1, c2, c3, c4, c5] t (0, 0))) :
    (w.cell? ⟨b, 0, none⟩ = some c0 ∧ w.cell? ⟨b, 1, none⟩ = some c1 ∧ w.cell? ⟨b, 2, none⟩ = some c2 ∧ w.cell? ⟨b, 3, none⟩ = some c3 ∧ w.cell? ⟨b, 4, none⟩ = some c4 ∧ w.cell? ⟨b, 5, none⟩ = some c5) ∧
    (w.frozen? ⟨b, 0, none⟩ = false ∧ w.frozen? ⟨b, 1, none⟩ = false ∧ w.frozen? ⟨b, 2, none⟩ = false ∧ w.frozen? ⟨b, 3, none⟩ = false ∧ w.frozen? ⟨b, 4, none⟩ = false ∧ w.frozen? ⟨b, 5, none⟩ = false) := by
  simp [World.cell?, World.frozen?, h]
abbrev set6 (w : World) (b : Nat) (u0 u1 u2 u3 u4 u5 : Value) : World := (((((w.setCell ⟨b, 0, none⟩ u0).setCell ⟨b, 1, none⟩ u1).setCell ⟨b, 2, none⟩ u2).setCell ⟨b, 3, none⟩ u3).setCell ⟨b, 4, none⟩ u4).setCell ⟨b, 5, none⟩ u5
theorem set6_block {w : World} {b : Nat} {c0 c1 c2 c3 c4 c5 : Value} {t : TypeId} (h : w.heap[b]? = some (.cells #[c0, c1, c2, c3, c4, c5] t (0, 0))) (u0 u1 u2 u3 u4 u5 : Value) : (set6 w b u0 u1 u2 u3 u4 u5).heap[b]? = some (.cells #[u0, u1, u2, u3, u4, u5] t (0, 0)) := by
  simp [set6, World.setCell, Array.getElem?_modify, h]
theorem set6_below {a w : World} {B b : Nat} (h : Below B a w) (hb : B ≤ b) (u0 u1 u2 u3 u4 u5 : Value) : Below B a (set6 w b u0 u1 u2 u3 u4 u5) :=
  (((((h.setCell (p := ⟨b, 0, none⟩) hb _).setCell (p := ⟨b, 1, none⟩) hb _).setCell (p := ⟨b, 2, none⟩) hb _).setCell (p := ⟨b, 3, none⟩) hb _).setCell (p := ⟨b, 4, none⟩) hb _).setCell (p := ⟨b, 5, none⟩) hb _
theorem set6_other {w : World} {b g : Nat} (hg : g ≠ b) (u0 u1 u2 u3 u4 u5 : Value) : (set6 w b u0 u1 u2 u3 u4 u5).heap[g]? = w.heap[g]? := by
  unfold set6
  rw [Below.heap_setCell _ ⟨b, 5, none⟩ _ g hg, Below.heap_setCell _ ⟨b, 4, none⟩ _ g hg, Below.heap_setCell _ ⟨b, 3, none⟩ _ g hg, Below.heap_setCell _ ⟨b, 2, none⟩ _ g hg, Below.heap_setCell _ ⟨b, 1, none⟩ _ g hg, Below.heap_setCell _ ⟨b, 0, none⟩ _ g hg]
theorem six_set4 {w : World} {b : Nat} {c0 c1 c2 c3 c4 c5 : Value} {t : TypeId} (h : w.heap[b]? = some (.cells #[c0, c1, c2, c3, c4, c5] t (0, 0))) (u : Value) : (w.setCell ⟨b, 4, none⟩ u).heap[b]? = some (.cells #[c0, c1, c2, c3, u, c5] t (0, 0)) := by
  simp [World.setCell, Array.getElem?_modify, h]
theorem six_set5 {w : World} {b : Nat} {c0 c1 c2 c3 c4 c5 : Value} {t : TypeId} (h : w.heap[b]? = some (.cells #[c0, c1, c2, c3, c4, c5] t (0, 0))) (u : Value) : (w.setCell ⟨b, 5, none⟩ u).heap[b]? = some (.cells #[c0, c1, c2, c3, c4, u] t (0, 0)) := by
  simp [World.setCell, Array.getElem?_modify, h]

/-- The document's walk in memory: the rows of its index, and its numbers, in blocks of S. -/
structure DW (S : Nat → Prop) (w : World) (vl va : Value) (L : List R3) (p : List Int) : Prop where
  rows : RowsS S w vl L
  at_ : IntsS S w va p
theorem DW.keep {S T : Nat → Prop} {w w' : World} {vl va : Value} {L : List R3} {p : List Int} (h : DW S w vl va L p) (hz : w.heap.size ≤ w'.heap.size) (hk : ∀ k, S k → k < w.heap.size → T k ∧ w'.heap[k]? = w.heap[k]?) : DW T w' vl va L p := ⟨h.rows.keep hz hk, h.at_.keep hz hk⟩
theorem DW.below {S : Nat → Prop} {w w' : World} {vl va : Value} {L : List R3} {p : List Int} (h : DW S w vl va L p) (hb : Below w.heap.size w w') : DW S w' vl va L p := ⟨h.rows.below hb, h.at_.below hb⟩
theorem DW.sub {S T : Nat → Prop} {w : World} {vl va : Value} {L : List R3} {p : List Int} (h : DW S w vl va L p) (hs : ∀ k, S k → k < w.heap.size → T k) : DW T w vl va L p := h.keep (Nat.le_refl _) (fun k hk hl => ⟨hs k hk hl, rfl⟩)
theorem DW.slices {S : Nat → Prop} {w : World} {vl va : Value} {L : List R3} {p : List Int} (h : DW S w vl va L p) : ∃ al cl aa ca, vl = .slice al L.length cl ∧ va = .slice aa p.length ca := by
  obtain ⟨_, _, al, cl, e1, _⟩ := h.rows
  obtain ⟨aa, ca, e2, _⟩ := h.at_
  exact ⟨al, cl, aa, ca, e1, e2⟩
/-- S, and what is made now. -/
abbrev More (S : Nat → Prop) (w : World) : Nat → Prop := fun k => S k ∨ w.heap.size ≤ k
theorem DW.more {S : Nat → Prop} {w w' : World} {vl va : Value} {L : List R3} {p : List Int} (h : DW S w vl va L p) (hb : Below w.heap.size w w') : DW (More S w) w' vl va L p := (h.below hb).sub (fun _ hk _ => .inl hk)
/-- What a call of it leaves. -/
def DEnd (S : Nat → Prop) (w : World) (o : Od) (vl : Value) (L : List R3) (r : Wk × Nat) (e : Ending) (w' : World) : Prop :=
  ∃ va', e = .returned (.tuple #[wV o.r3 vl va' r.1.bh, .int .i64 (r.2 : Int)]) ∧ DW (More S w) w' vl va' L r.1.p ∧ Below w.heap.size w w'

section
variable {S : Nat → Prop} {w : World} {vl va : Value} {o : Od} {L : List R3} {s : Wk}
set_option maxHeartbeats 2000000 in
set_option maxRecDepth 100000 in
theorem rKey_any (h : DW S w vl va L s.p) (hp : s.p.length ≤ 3) : Calls Try.prog 26 #[wV o.r3 vl va s.bh] w fun e w' => e = .returned (.tuple #[.int .i64 (wKey s).1, .bool (wKey s).2]) ∧ Below w.heap.size w w' := by
  obtain ⟨al, cl, aa, ca, rfl, rfl⟩ := h.slices
  have HB : Hid (∀ o, Below w.heap.size w (w.alloc o)) := Hid.mk (fun o => (Below.refl _ _).alloc (Nat.le_refl _) o)
  obtain ⟨p, bh⟩ := s
  obtain ⟨N, hN⟩ : ∃ N, N = L.length := ⟨_, rfl⟩
  have HA := Hid.mk h.at_
  simp only at HA hp
  rw [← hN]
  clear h hN
  by_cases h0 : p = []
  · have e : wKey ⟨p, bh⟩ = (0, false) := by unfold wKey; rw [if_pos (.inl h0)]
    rw [e]
    subst h0
    simp only [List.length_nil]
    clear e HA
    go_enter Try.func26, Try.ntmps26
    go_wp2
    go_ret2
    exact ⟨rfl, HB.out _⟩
  · obtain ⟨q, x, rfl⟩ := snoc_of h0
    have hl : (q ++ [x]).length = q.length + 1 := by simp
    cases bh with
    | true =>
      have e : wKey ⟨q ++ [x], true⟩ = (0, false) := by unfold wKey; rw [if_pos (.inr rfl)]
      rw [e]
      simp only [hl]
      obtain ⟨m, hm⟩ : ∃ m, m = q.length := ⟨_, rfl⟩
      rw [← hm]
      clear e HA hm hl h0
      have hm0 : ¬ (m : Int) + 1 = 0 := by omega
      go_enter Try.func26, Try.ntmps26
      go_wp2
      go_ret2
      exact ⟨rfl, HB.out _⟩
    | false =>
      have e : wKey ⟨q ++ [x], false⟩ = (x, true) := by unfold wKey; rw [if_neg (by simp), lastN_snoc]
      rw [e]
      obtain ⟨aa2, ca2, e2, hlc, _, hc⟩ := HA.out
      injection e2 with e3 _ e4
      subst e3 e4
      rcases hc with hc | ⟨g, off, rfl, _, hg, hc⟩
      · simp at hc
      have cx := hc q.length x (by simp)
      have cx2 := ((HB.out (.cells #[.int .i64 o.r3.a, .int .i64 o.r3.b, .int .i64 o.r3.c, .slice al N cl, .slice (some ⟨g, off, none⟩) (q ++ [x]).length ca, .bool false] 43)).cell (p := ⟨g, off + q.length, none⟩) hg).trans cx
      simp only [hl] at cx2 ⊢
      obtain ⟨m, hm⟩ : ∃ m, m = q.length := ⟨_, rfl⟩
      rw [← hm] at cx2 ⊢
      rw [hl, ← hm] at hlc hp
      clear e HA hm hl h0 cx hc
      have hm0 : ¬ (m : Int) + 1 = 0 := by omega
      have hm3 : m ≤ 2 := by omega
      have wm : IntKind.i64.wrap (m : Int) = (m : Int) := by rw [IntKind.wrap_i64]; omega
      clear hp
      go_enter Try.func26, Try.ntmps26
      go_wp2
      go_ret2
      exact ⟨rfl, HB.out _⟩

set_option maxHeartbeats 2000000 in
set_option maxRecDepth 100000 in
theorem rUp_any (h : DW S w vl va L s.p) (hp : s.p.length ≤ 3) : Calls Try.prog 20 #[wV o.r3 vl va s.bh] w (DEnd S w o vl L (wUp s)) := by
  obtain ⟨al, cl, aa, ca, rfl, rfl⟩ := h.slices
  have HB : Hid (∀ o1 o2, Below w.heap.size w ((w.alloc o1).alloc o2)) := Hid.mk (fun o1 o2 => ((Below.refl _ _).alloc (Nat.le_refl _) o1).alloc (by simp) o2)
  obtain ⟨p, bh⟩ := s
  have HD := Hid.mk h
  simp only at HD hp
  obtain ⟨N, hN⟩ : ∃ N, N = L.length := ⟨_, rfl⟩
  rw [← hN] at HD ⊢
  clear h hN
  by_cases h0 : p = []
  · have e : wUp ⟨p, bh⟩ = (⟨p, bh⟩, 3) := by unfold wUp; rw [if_pos h0]
    rw [e]
    subst h0
    simp only [List.length_nil] at HD ⊢
    clear e
    go_enter Try.func20, Try.ntmps20
    go_wp2
    refine bodyPost_ret (v := .tuple #[wV o.r3 (.slice al N cl) (.slice aa 0 ca) bh, .int .i64 3]) ?_ rfl ⟨_, rfl, HD.out.more (HB.out _ _), HB.out _ _⟩
    simp [results, Try.results20, go_sem]
  · obtain ⟨q, x, rfl⟩ := snoc_of h0
    have e : wUp ⟨q ++ [x], bh⟩ = (⟨q, false⟩, 0) := by unfold wUp; rw [if_neg (by simp), List.dropLast_concat]
    rw [e]
    have hl : (q ++ [x]).length = q.length + 1 := by simp
    obtain ⟨m, hm⟩ : ∃ m, m = q.length := ⟨_, rfl⟩
    rw [hl, ← hm] at HD hp ⊢
    obtain ⟨_, a2, c2, slU, hc2⟩ := ints_cut (k := m) HD.out.at_ (by omega)
    have etk : (q ++ [x]).take m = q := by rw [hm]; simp
    rw [etk] at hc2
    have HD2 : Hid (DW S w (.slice al N cl) (.slice a2 m c2) L q) := Hid.mk ⟨HD.out.rows, hc2⟩
    have hm0 : ¬ (m : Int) + 1 = 0 := by omega
    have wm : IntKind.i64.wrap (m : Int) = (m : Int) := by rw [IntKind.wrap_i64]; omega
    clear e hl hm etk hc2 HD h0
    go_enter Try.func20, Try.ntmps20
    go_wp2
    refine bodyPost_ret (v := .tuple #[wV o.r3 (.slice al N cl) (.slice a2 m c2) false, .int .i64 0]) ?_ rfl ⟨_, rfl, HD2.out.more (HB.out _ _), HB.out _ _⟩
    simp [results, Try.results20, go_sem]

theorem own_after {w3 : World} {M gw gr k n : Nat} {e : TypeId} {v u : Value} {xs : List Value} (h : w3.ownsRow M e k v n xs) (h1 : gw < M) (h2 : gr < M) (u0 u1 u2 u3 u4 u5 : Value) : (set6 (w3.setCell ⟨gw, 4, none⟩ u) gr u0 u1 u2 u3 u4 u5).ownsRow M e k v n xs :=
  owns_key h (fun g _ hg ho => by
    have := (h.lt g hg).1
    rw [set6_other (by omega), Below.heap_setCell w3 ⟨gw, 4, none⟩ _ g (show g ≠ gw by omega)]
    exact ho)
theorem lev_first {p : List Int} (hs : Strict o L) (hok : WkOk o L ⟨p, false⟩) (hL : L ≠ []) : ∃ rest, lev o L p = num o (L.getD (lo o L p) default) p.length :: rest := by
  obtain ⟨r, hr, _⟩ := (hok.has hs rfl hL).row hs
  have h1 := lev_head o L p
  simp only at hr
  rw [find_lo, hr] at h1
  have eg : L.getD (lo o L p) default = r := by rw [List.getD, hr]; rfl
  rw [eg]
  cases hl : lev o L p with
  | nil => rw [hl] at h1; simp at h1
  | cons y rest => rw [hl] at h1; simp at h1; exact ⟨rest, by rw [h1]⟩

set_option maxHeartbeats 4000000 in
set_option maxRecDepth 100000 in
theorem rOpen_any (ho : o.ok) (hs : Strict o L) (h : DW S w vl va L s.p) (hok : WkOk o L s) : Calls Try.prog 18 #[wV o.r3 vl va s.bh] w (DEnd S w o vl L (wOpen o L s)) := by
  obtain ⟨al, cl, aa, ca, rfl, rfl⟩ := h.slices
  have HB : Hid (∀ o1 o2, Below w.heap.size w ((w.alloc o1).alloc o2)) := Hid.mk (fun o1 o2 => ((Below.refl _ _).alloc (Nat.le_refl _) o1).alloc (by simp) o2)
  obtain ⟨p, bh⟩ := s
  have HD := Hid.mk h
  have hp := hok.len
  simp only at HD hp
  obtain ⟨N, hN⟩ : ∃ N, N = L.length := ⟨_, rfl⟩
  obtain ⟨n, hn⟩ : ∃ n, n = p.length := ⟨_, rfl⟩
  have HN := Hid.mk hN
  have HN2 := Hid.mk hn
  have HO := Hid.mk ho
  have HS := Hid.mk hs
  have HOK := Hid.mk hok
  simp only
  rw [← hN, ← hn] at HD ⊢
  rw [← hn] at hp
  clear h hN hn ho hs hok
  by_cases hc : n = 3 ∨ bh = true ∨ N = 0
  · have e : wOpen o L ⟨p, bh⟩ = (⟨p, bh⟩, 3) := by
      unfold wOpen
      rw [if_pos]
      rcases hc with h | h | h
      · exact .inl (by rw [← h]; exact HN2.out.symm)
      · exact .inr (.inl h)
      · exact .inr (.inr (List.length_eq_zero_iff.1 (by rw [← HN.out]; exact h)))
    rw [e]
    have hc3 : n = 3 ∨ (¬ n = 3 ∧ bh = true) ∨ (¬ n = 3 ∧ bh = false ∧ N = 0) := by
      by_cases h3 : n = 3
      · exact .inl h3
      · cases bh with
        | true => exact .inr (.inl ⟨h3, rfl⟩)
        | false =>
          rcases hc with h | h | h
          · exact .inl h
          · cases h
          · exact .inr (.inr ⟨h3, rfl, h⟩)
    clear e hc HO HS HOK
    rcases hc3 with rfl | ⟨h1, rfl⟩ | ⟨h1, rfl, rfl⟩
    · clear HN2
      go_enter Try.func18, Try.ntmps18
      go_wp2
      refine bodyPost_ret (v := .tuple #[wV o.r3 (.slice al N cl) (.slice aa 3 ca) bh, .int .i64 3]) ?_ rfl ⟨_, rfl, HD.out.more (HB.out _ _), HB.out _ _⟩
      simp [results, Try.results18, go_sem]
    · have h1I : ¬ (n : Int) = 3 := by omega
      go_enter Try.func18, Try.ntmps18
      go_wp2
      refine bodyPost_ret (v := .tuple #[wV o.r3 (.slice al N cl) (.slice aa n ca) true, .int .i64 3]) ?_ rfl ⟨_, rfl, HD.out.more (HB.out _ _), HB.out _ _⟩
      simp [results, Try.results18, go_sem]
    · have h1I : ¬ (n : Int) = 3 := by omega
      go_enter Try.func18, Try.ntmps18
      go_wp2
      refine bodyPost_ret (v := .tuple #[wV o.r3 (.slice al 0 cl) (.slice aa n ca) false, .int .i64 3]) ?_ rfl ⟨_, rfl, HD.out.more (HB.out _ _), HB.out _ _⟩
      simp [results, Try.results18, go_sem]
  · simp only [not_or, Bool.not_eq_true] at hc
    obtain ⟨h1, rfl, h3⟩ := hc
    have hL : L ≠ [] := by intro e; rw [HN.out, e] at h3; exact h3 rfl
    have e : wOpen o L ⟨p, false⟩ = (⟨p ++ [num o (L.getD (lo o L p) default) p.length], false⟩, 0) := by
      unfold wOpen
      rw [if_neg (by simp only [not_or]; exact ⟨by rw [← HN2.out]; exact h1, by simp, hL⟩)]
    rw [e]
    obtain ⟨rest, hrest⟩ := lev_first HS.out HOK.out hL
    obtain ⟨X, hX⟩ : ∃ X, X = num o (L.getD (lo o L p) default) p.length := ⟨_, rfl⟩
    rw [← hX] at hrest ⊢
    obtain ⟨t0, t1, t2⟩ := two_blocks w (.cells (wCs o.r3 (.slice al N cl) (.slice aa n ca) false) 43) (.cells wC0 43)
    obtain ⟨W0, hW0⟩ : ∃ W0, W0 = (w.alloc (.cells (wCs o.r3 (.slice al N cl) (.slice aa n ca) false) 43)).alloc (.cells wC0 43) := ⟨_, rfl⟩
    rw [← hW0] at t0 t1 t2
    have CL := Hid.mk (level_any HO.out ((HD.out.rows.below t2).sub (fun _ _ _ => trivial)) (HD.out.at_.below t2).weak (by rw [← HN2.out]; omega))
    have T0 := Hid.mk t0
    have T1 := Hid.mk t1
    have T2 := Hid.mk t2
    have HW0 : Hid (W0 = (w.alloc (.cells #[.int .i64 o.r3.a, .int .i64 o.r3.b, .int .i64 o.r3.c, .slice al N cl, .slice aa n ca, .bool false] 43)).alloc (.cells #[.int .i64 0, .int .i64 0, .int .i64 0, .slice none 0 0, .slice none 0 0, .bool false] 43)) := Hid.mk hW0
    have HREST := Hid.mk hrest
    have h1I : ¬ (n : Int) = 3 := by omega
    have h3I : ¬ (N : Int) = 0 := by omega
    have h1b : ((n : Int) == 3) = false := by simpa using h1I
    have h3b : ((N : Int) == 0) = false := by simpa using h3I
    have hn3 : n < 3 := by omega
    obtain ⟨i0, hi0, hz0, hz1, hz2⟩ := info_parts infoI
    clear t0 t1 t2 hW0 e hrest hX hL
    go_enter Try.func18, Try.ntmps18
    go_wp2_with fail
    rw [← HW0.out]
    refine CL.out.mono ?_
    rintro e w1 ⟨al1, cl1, rfl, hl1, hb1⟩
    obtain ⟨K, hK⟩ : ∃ K, K = (lev o L p).length := ⟨_, rfl⟩
    have hK0 : 0 < K := by rw [hK, HREST.out]; simp
    have hK0I : (0 : Int) < (K : Int) := by omega
    rw [← hK] at hl1 ⊢
    have HL1 := Hid.mk hl1
    have e0 := (hb1.block _ (lt_of_block T0.out)).trans T0.out
    have e1 := (hb1.block _ (lt_of_block T1.out)).trans T1.out
    have HB1 := Hid.mk (T2.out.trans (hb1.mono T2.out.size))
    have E0 := Hid.mk e0
    have E1 := Hid.mk e1
    have HA1 := Hid.mk ((HD.out.at_.below HB1.out).cut)
    obtain ⟨⟨r0, r1, r2, r3, r4, r5⟩, _⟩ := six_cells e0
    have hg1 : w.heap.size + 1 < w1.heap.size := lt_of_block e1
    clear hl1 hb1 hK CL e0 e1
    go_wp2_with (at_builtin; refine wpList_append_many rfl _ _ rfl Try.underlying41 hi0 hz0 hz1 hz2 rfl (by decide) (by rfl) (World.ownsRow_nil _ w1.heap.size _ _) aa (intCs p) n ca (by rfl) HA1.out.len HA1.out.none_ HA1.out.reads (intCs_one _) ?c1 ?c2 (Nat.le_refl _) ?_)
    case c1 => unfold maxLen; omega
    case c2 => omega
    intro v2 w2 hown2 hgrow2
    obtain ⟨a2, c2, rfl⟩ := own_slice hown2
    have HB2 : Hid (Below w1.heap.size w1 w2) := Hid.mk (Below.grown (Below.refl _ _) hgrow2 (Nat.le_refl _) (fun k hk => by cases hk))
    have HO2 := Hid.mk hown2
    have hl2 := HL1.out.below HB2.out
    obtain ⟨al2, cl2, eq2, hkc, _, hcc⟩ := hl2
    injection eq2 with eq2 _ eq3
    subst eq2 eq3
    rcases hcc with hcc | ⟨g9, off9, rfl, _, hg9, hcc⟩
    · rw [HREST.out] at hcc; cases hcc
    have c9 := hcc 0 X (by rw [HREST.out]; rfl)
    rw [Nat.add_zero] at c9
    clear hown2 hgrow2 hcc r0 r1 r2 r3 r4 r5
    go_wp2_with (at_builtin; refine wpList_append_lies _ rfl _ _ _ rfl w1.heap.size 3 i0 _ 1 8 Try.underlying41 hi0 hz0 hz1 hz2 rfl (by decide) (.slice a2 n c2) _ _ (by rfl) (HO2.out.alloc _) ⟨w2.heap.size, 0, none⟩ 1 1 [.int .i64 X] (by rfl) (by rfl) ?d1 ?d2 (by decide) ?d3 ?d4 ?d5 (w2.heap.size + 1) (by simp) ?_)
    case d1 => exact World.news_of_block (cs := #[.int .i64 X]) (t := 3) (fr := (0, 0)) (heap_alloc_new w2 _)
    case d2 => intro u hu; simp at hu; rw [hu]; rfl
    case d3 => unfold maxLen; omega
    case d4 => omega
    case d5 => have := HB2.out.size; simp; omega
    intro gg cap8 w3 hown3 hgrow3 _ _
    have HB3 : Hid (Below w1.heap.size w1 w3) := Hid.mk ((HB2.out.alloc HB2.out.size _).grown hgrow3 (by have := HB2.out.size; simp; omega) (fun k hk => (HO2.out.lt k hk).1))
    have e0 := (HB3.out.block _ (by omega)).trans E0.out
    have e1 := (HB3.out.block _ hg1).trans E1.out
    have e2 := six_set4 e0 (.slice (some ⟨gg, 0, none⟩) (n + 1) cap8)
    have e3 : (w3.setCell ⟨w.heap.size, 4, none⟩ (.slice (some ⟨gg, 0, none⟩) (n + 1) cap8)).heap[w.heap.size + 1]? = _ := (Below.heap_setCell w3 ⟨w.heap.size, 4, none⟩ (.slice (some ⟨gg, 0, none⟩) (n + 1) cap8) (w.heap.size + 1) (show w.heap.size + 1 ≠ w.heap.size by omega)).trans e1
    obtain ⟨⟨r0, r1, r2, r3, r4, r5⟩, ⟨f0, f1, f2, f3, f4, f5⟩⟩ := six_cells e0
    obtain ⟨⟨p0, p1, p2, p3, p4, p5⟩, _⟩ := six_cells e2
    obtain ⟨⟨m0, m1, m2, m3, m4, m5⟩, ⟨n0, n1, n2, n3, n4, n5⟩⟩ := six_cells e3
    obtain ⟨⟨z0, z1, z2, z3, z4, z5⟩, _⟩ := six_cells (set6_block e3 (.int .i64 o.r3.a) (.int .i64 o.r3.b) (.int .i64 o.r3.c) (.slice al N cl) (.slice (some ⟨gg, 0, none⟩) (n + 1) cap8) (.bool false))
    have Z0 := Hid.mk z0
    have Z1 := Hid.mk z1
    have Z2 := Hid.mk z2
    have Z3 := Hid.mk z3
    have Z4 := Hid.mk z4
    have Z5 := Hid.mk z5
    have HBF := Hid.mk (HB1.out.trans (HB3.out.mono HB1.out.size))
    have BF := Hid.mk (set6_below (b := w.heap.size + 1) (HBF.out.setCell (p := ⟨w.heap.size, 4, none⟩) (Nat.le_refl _) (.slice (some ⟨gg, 0, none⟩) (n + 1) cap8)) (by omega) (.int .i64 o.r3.a) (.int .i64 o.r3.b) (.int .i64 o.r3.c) (.slice al N cl) (.slice (some ⟨gg, 0, none⟩) (n + 1) cap8) (.bool false))
    have HE : Hid (DW (More S w) (set6 (w3.setCell ⟨w.heap.size, 4, none⟩ (.slice (some ⟨gg, 0, none⟩) (n + 1) cap8)) (w.heap.size + 1) (.int .i64 o.r3.a) (.int .i64 o.r3.b) (.int .i64 o.r3.c) (.slice al N cl) (.slice (some ⟨gg, 0, none⟩) (n + 1) cap8) (.bool false)) (.slice al N cl) (.slice (some ⟨gg, 0, none⟩) (n + 1) cap8) L (p ++ [X])) := Hid.mk (by
      refine ⟨(HD.out.more BF.out).rows, own_ints (B := w1.heap.size) ?_ (fun k hk => .inr (by omega))⟩
      rw [List.length_append, List.length_singleton, ← HN2.out]
      have e1 : intCs (p ++ [X]) = intCs p ++ [.int .i64 X] := by simp [intCs]
      rw [e1]
      exact own_after hown3 (by omega) hg1 _ _ _ _ _ _)
    clear z0 z1 z2 z3 z4 z5 e0 e1 e2 e3 hown3 hgrow3 c9
    go_wp2
    refine bodyPost_ret (v := .tuple #[wV o.r3 (.slice al N cl) (.slice (some ⟨gg, 0, none⟩) (n + 1) cap8) false, .int .i64 0]) ?_ rfl ⟨_, rfl, HE.out, BF.out⟩
    simp [results, Try.results18, go_sem, Z0.out, Z1.out, Z2.out, Z3.out, Z4.out, Z5.out]
end
end Go.Proofs.Ytfocpjplokabgaa
