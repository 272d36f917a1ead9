/- Parts of the proofs of stage 15. -/
import Derived.Test.YtifmpcldiimdbaaZI
import Derived.Maps.AppendAt
namespace Go.Proofs.Ytifmpcldiimdbaa
open Go.RowKit Go.Shelf

/-- 'append(v, list...)': the list may be nil, empty or of any length. -/
theorem run_append_all {w : World} {B n k : Nat} {v : Value} {xs : List Value} {t e : TypeId} {i0 : TypeInfo} {z : Value} {bytes : Nat} (ht : Try.prog.underlying t = some (.slice e)) (hi : Try.prog.info? e = some i0) (hz0 : i0.zero = some z) (hz1 : i0.size = k) (hz2 : i0.bytes = bytes) (hz3 : z.cells.size = k) (hk : 0 < k)
    (hown : w.ownsRow B e k v n xs) (ao : Option Addr) (us : List Value) (m cap : Nat) (hm : us.length = m * k) (hnone : ao = none → m = 0 ∧ cap = 0) (hc : ∀ ad, ao = some ad → ∀ j u, us[j]? = some u → w.cell? (ad.add j) = some u) (h1 : ∀ u ∈ us, u.oneCell' = true)
    (h63 : n + m ≤ maxLen) (hb : (n + m) * bytes ≤ 140737488355328) (hB : B ≤ w.heap.size) (ty : TypeId) :
    ∃ v' w', (Builtin.append_ #[t, t] ty #[v, .slice ao m cap]).run Try.prog w = .ok v' w' ∧ w'.ownsRow B e k v' (n + m) (xs ++ us) ∧ w.grownBy w' v.ownBlock ∧ (v'.ownBlock = v.ownBlock ∨ v'.ownBlock = some w.heap.size) := by
  cases ao with
  | some ad =>
    obtain ⟨v', w', hr, h2, h3, _, h5⟩ := run_append_own_at (P := Try.prog) w B t ty e i0 z k bytes ht hi hz0 hz1 hz2 hz3 hk v n xs hown ad m cap us hm (hc ad rfl) h1 h63 hb hB
    exact ⟨v', w', hr, h2, h3, h5⟩
  | none =>
    obtain ⟨rfl, rfl⟩ := hnone rfl
    have e0 : us = [] := List.length_eq_zero_iff.1 (by omega)
    subst e0
    have hrun := run_append_owned_none (P := Try.prog) w B t ty e i0 k ht hi v n xs hown
    exact ⟨v, w, hrun, by simpa using hown, World.grownBy.refl _ _, .inl rfl⟩
/-- The operation, for a walk. -/
theorem wpList_append_all {w : World} {ops : Array Oper} {rest : List Oper} {o : Oper} {a : Act} {Q : Exit → Act → World → Prop} (hgd : o.guard = none) (sl x : Operand) {t : TypeId}
    (ho : o.op = .call { callee := .builtin .append, args := #[sl, x], argTypes := #[t, t] })
    {B n k : Nat} {v : Value} {xs : List Value} {e : TypeId} {i0 : TypeInfo} {z : Value} {bytes : Nat} (ht : Try.prog.underlying t = some (.slice e)) (hi : Try.prog.info? e = some i0) (hz0 : i0.zero = some z) (hz1 : i0.size = k) (hz2 : i0.bytes = bytes) (hz3 : z.cells.size = k) (hk : 0 < k)
    (hs : a.eval sl = v) (hown : w.ownsRow B e k v n xs) (ao : Option Addr) (us : List Value) (m cap : Nat) (hx : a.eval x = .slice ao m cap) (hm : us.length = m * k) (hnone : ao = none → m = 0 ∧ cap = 0) (hc : ∀ ad, ao = some ad → ∀ j u, us[j]? = some u → w.cell? (ad.add j) = some u) (h1 : ∀ u ∈ us, u.oneCell' = true)
    (h63 : n + m ≤ maxLen) (hb : (n + m) * bytes ≤ 140737488355328) (hB : B ≤ w.heap.size)
    (h : ∀ v' w', w'.ownsRow B e k v' (n + m) (xs ++ us) → w.grownBy w' v.ownBlock → (v'.ownBlock = v.ownBlock ∨ v'.ownBlock = some w.heap.size) → wpList Try.prog ops Q rest (a.put o.dst v') w') : wpList Try.prog ops Q (o :: rest) a w := by
  refine wpList_plain hgd fun K hK => ?_
  obtain ⟨v', w', hr, h2, h3, h5⟩ := run_append_all ht hi hz0 hz1 hz2 hz3 hk hown ao us m cap hm hnone hc h1 h63 hb hB o.type
  unfold Oper.wp execOp
  simp only [ho, resolve, invoke, builtin, Sem.run_bind, Sem.run_pure, Result.andThen_ok, List.map_toArray, List.map_cons, List.map_nil, hs, hx, hr]
  exact hK _ _ (h v' w' h2 h3 h5)
theorem infoN : (Try.prog.info? 36).map (fun i => (i.zero, i.size, i.bytes)) = some (some (.agg #[.int .i64 0, .slice none 0 0, .slice none 0 0, .slice none 0 0]), 4, 80) := by kernel_rfl

/-! Without memory. -/
def backs (f : En) (ps : List (List UInt8)) : En := ps.foldl (fun f p => (takeE f p).1) f
def stepR (st : En × En × List NoteD × Bool) (p : List UInt8) : En × En × List NoteD × Bool :=
  (backs st.1 (takeE st.2.1 p).2.2.1, (takeE st.2.1 p).1, st.2.2.1 ++ (takeE st.2.1 p).2.1, st.2.2.2 || (takeE st.2.1 p).2.2.2)
def carS (f t : En) (ps : List (List UInt8)) : En × En × List NoteD × Bool := ps.foldl stepR (f, t, [], false)
def carC (f t : En) : En × En × List NoteD × Bool := carS f t (tickE f)
theorem carS_snoc (f t : En) (ps : List (List UInt8)) (p : List UInt8) : carS f t (ps ++ [p]) = stepR (carS f t ps) p := by simp [carS]
theorem backs_snoc (f : En) (ps : List (List UInt8)) (p : List UInt8) : backs f (ps ++ [p]) = (takeE (backs f ps) p).1 := by simp [backs]

/-- Numbers that can be read, in a block of T. -/
def IntT (T : Nat → Prop) (w : World) (v : Value) (xs : List Int) : Prop :=
  (∃ ao cap, v = .slice ao 0 cap ∧ xs = []) ∨ ∃ g o cap cur fz, v = .slice (some ⟨g, o, none⟩) xs.length cap ∧ T g ∧ w.heap[g]? = some (.cells cur 3 fz) ∧ ∀ (j : Nat) x, xs[j]? = some x → cur[o + j]? = some (.int .i64 x)
theorem IntT.keep {T U : Nat → Prop} {w w' : World} {v : Value} {xs : List Int} (h : IntT T w v xs) (hk : ∀ g cur fz, T g → w.heap[g]? = some (.cells cur 3 fz) → U g ∧ w'.heap[g]? = some (.cells cur 3 fz)) : IntT U w' v xs := by
  rcases h with h | ⟨g, o, cap, cur, fz, e1, e2, e3, e4⟩
  · exact .inl h
  · obtain ⟨k1, k2⟩ := hk g cur fz e2 e3
    exact .inr ⟨g, o, cap, cur, fz, e1, k1, k2, e4⟩
theorem RowIn.intT {w : World} {B : Nat} {T : Nat → Prop} {v : Value} {xs : List Int} (h : RowIn w B 3 v (intCs xs)) (hT : ∀ g, B ≤ g → g < w.heap.size → T g) : IntT T w v xs := by
  rcases h with ⟨ao, cap, e, h0⟩ | ⟨g, o, cap, cur, fz, e1, e2, e3, e4⟩
  · exact .inl ⟨ao, cap, e, List.map_eq_nil_iff.1 h0⟩
  · rw [intCs_len] at e1
    exact .inr ⟨g, o, cap, cur, fz, e1, hT g e2 (lt_of_block e3), e3, fun j x hx => e4 j _ (by rw [intCs, List.getElem?_map, hx]; rfl)⟩
/-- Payloads that came: their kinds and numbers. -/
def Pay (B : Nat) (T : Nat → Prop) (w : World) (v : Value) (ns : List NoteD) : Prop :=
  ∃ cs : List Value, w.ownsRow B 36 4 v ns.length cs ∧ (∀ g, v.ownBlock = some g → T g) ∧ ∀ (j : Nat) n, ns[j]? = some n → cs[j * 4]? = some (.int .i64 n.kind) ∧ ∃ vn, cs[j * 4 + 1]? = some vn ∧ IntT T w vn n.nums
theorem Pay.nil (B : Nat) (T : Nat → Prop) (w : World) : Pay B T w (.slice none 0 0) [] := ⟨[], World.ownsRow_nil _ _ _ _, fun g hg => (by cases hg), by simp⟩
theorem Pay.keep {B : Nat} {T U : Nat → Prop} {w w' : World} {v : Value} {ns : List NoteD} (h : Pay B T w v ns) (hk : ∀ g o, T g → w.heap[g]? = some o → U g ∧ w'.heap[g]? = some o) : Pay B U w' v ns := by
  obtain ⟨cs, h1, h2, h3⟩ := h
  refine ⟨cs, ⟨h1.1, ?_⟩, fun g hg => ?_, fun j n hn => ?_⟩
  · rcases h1.2 with h0 | ⟨g, cap, cur, e1, e2, e3, e4⟩
    · exact .inl h0
    · exact .inr ⟨g, cap, cur, e1, e2, (hk g _ (h2 g (by rw [e1]; rfl)) e3).2, e4⟩
  · rcases h1.2 with ⟨h0, _⟩ | ⟨g', cap, cur, e1, e2, e3, e4⟩
    · rw [h0] at hg; cases hg
    · have : g = g' := by rw [e1] at hg; simpa [Value.ownBlock] using hg.symm
      subst this
      exact (hk g _ (h2 g hg) e3).1
  · obtain ⟨k1, vn, k2, k3⟩ := h3 j n hn
    exact ⟨k1, vn, k2, k3.keep (fun g cur fz hg ho => hk g _ hg ho)⟩
theorem Pay.fr {B : Nat} {T U : Nat → Prop} {w w' : World} {v : Value} {ns : List NoteD} (h : Pay B T w v ns) (hf : Fr T w w') (hU : ∀ k, T k → U k) : Pay B U w' v ns := h.keep (fun g _ hg ho => ⟨hU g hg, (hf.block g hg).trans ho⟩)
theorem packN_len (n : NoteD) : (packN n).length ≤ 1048584 := by
  unfold packN
  split
  · rename_i h
    rw [sealB_len]
    have := h.2.2
    omega
  · simp
theorem tickF_short (e : En) : ∀ (l : List (List UInt8)) (k : Nat), ∀ p ∈ tickF e k l, p.length ≤ 1048584
  | [], _, p, h => by simp [tickF] at h
  | x :: l, k, p, h => by
    rw [tickF] at h
    rcases List.mem_cons.1 h with rfl | h
    · exact packN_len _
    · exact tickF_short e l (k + 1) p h
theorem tickE_short (e : En) : ∀ p ∈ tickE e, p.length ≤ 1048584 := tickF_short e _ _
theorem takeE_short (e : En) (l : List UInt8) : ∀ p ∈ (takeE e l).2.2.1, p.length ≤ 1048584 := by
  intro p hp
  unfold takeE metE tookE at hp
  split at hp
  · simp at hp
  · split at hp
    · simp at hp
    · split at hp
      · simp at hp; rw [hp]; exact packN_len _
      · split at hp
        · simp at hp
        · split at hp
          · simp at hp; rw [hp]; exact packN_len _
          · simp at hp; rw [hp]; exact packN_len _
/-- The cells of what came. -/
theorem oneN_cells {w : World} {B : Nat} {a0 : Option Addr} {l0 c0 : Nat} {ns : List NoteD} {T : Nat → Prop} (h : OneN w B (.slice a0 l0 c0) ns) (hT : ∀ g, B ≤ g → g < w.heap.size → T g) :
    ∃ us : List Value, l0 = ns.length ∧ l0 ≤ 1 ∧ us.length = l0 * 4 ∧ (a0 = none → l0 = 0 ∧ c0 = 0) ∧ (∀ ad, a0 = some ad → ∃ g, ad = ⟨g, 0, none⟩ ∧ B ≤ g ∧ ∀ (j : Nat) u, us[j]? = some u → w.cell? ⟨g, j, none⟩ = some u) ∧ (∀ u ∈ us, u.oneCell' = true) ∧
      ∀ (j : Nat) n, ns[j]? = some n → us[j * 4]? = some (.int .i64 n.kind) ∧ ∃ vn, us[j * 4 + 1]? = some vn ∧ IntT T w vn n.nums := by
  rcases h with ⟨rfl, e⟩ | ⟨g, n, a0', l0', c0', a1, l1, c1, a2, l2, c2, rfl, e, hB, hb, ho⟩
  · injection e with e1 e2 e3
    subst e1 e2 e3
    exact ⟨[], rfl, by omega, rfl, fun _ => ⟨rfl, rfl⟩, fun ad h => (by cases h), by simp, by simp⟩
  · injection e with e1 e2 e3
    subst e1 e2 e3
    refine ⟨[.int .i64 n.kind, .slice a0' l0' c0', .slice a1 l1 c1, .slice a2 l2 c2], rfl, by omega, rfl, fun h => (by cases h), fun ad h => ⟨g, (Option.some.inj h).symm, hB, fun j u hj => ?_⟩, by simp [Value.oneCell'], fun j m hj => ?_⟩
    · simp only [World.cell?, hb]
      simpa using hj
    · have : j = 0 := by have := (List.getElem?_eq_some_iff.1 hj).1; simp at this; exact this
      subst this
      simp at hj
      subst hj
      refine ⟨rfl, _, rfl, ?_⟩
      obtain ⟨vn, vt, vr, e, h1, _⟩ := ho
      simp only [Value.agg.injEq, Array.mk.injEq, List.cons.injEq, and_true, true_and] at e
      obtain ⟨rfl, -, -⟩ := e
      exact h1.intT hT
theorem oneT_cells {w : World} {B : Nat} {a1 : Option Addr} {l1 c1 : Nat} {ps : List (List UInt8)} (h : OneT w B (.slice a1 l1 c1) ps) : l1 = ps.length ∧ l1 ≤ 1 ∧ ∀ (j : Nat) q, ps[j]? = some q → ∃ g, a1 = some ⟨g, 0, none⟩ ∧ B ≤ g ∧ w.heap[g]? = some (.cells #[.string ⟨q.toArray⟩] 9 (0, 0)) ∧ j = 0 := by
  rcases h with ⟨rfl, e⟩ | ⟨g, t, rfl, e, hB, hb⟩
  · injection e with e1 e2 e3
    subst e1 e2 e3
    exact ⟨rfl, by omega, by simp⟩
  · injection e with e1 e2 e3
    subst e1 e2 e3
    refine ⟨rfl, by omega, fun j q hj => ?_⟩
    have : j = 0 := by have := (List.getElem?_eq_some_iff.1 hj).1; simp at this; exact this
    subst this
    simp at hj
    subst hj
    exact ⟨g, rfl, hB, hb, rfl⟩
/-- More payloads. -/
theorem Pay.more {B : Nat} {T : Nat → Prop} {w' : World} {v' : Value} {ns ms : List NoteD} {us : List Value} {cs : List Value} (h1 : w'.ownsRow B 36 4 v' (ns.length + ms.length) (cs ++ us)) (hl : cs.length = ns.length * 4) (hv : ∀ g, v'.ownBlock = some g → T g)
    (hc : ∀ (j : Nat) n, ns[j]? = some n → cs[j * 4]? = some (.int .i64 n.kind) ∧ ∃ vn, cs[j * 4 + 1]? = some vn ∧ IntT T w' vn n.nums) (hu : ∀ (j : Nat) n, ms[j]? = some n → us[j * 4]? = some (.int .i64 n.kind) ∧ ∃ vn, us[j * 4 + 1]? = some vn ∧ IntT T w' vn n.nums) : Pay B T w' v' (ns ++ ms) := by
  refine ⟨cs ++ us, by rw [List.length_append]; exact h1, hv, fun j n hn => ?_⟩
  by_cases hj : j < ns.length
  · rw [List.getElem?_append_left hj] at hn
    obtain ⟨k1, vn, k2, k3⟩ := hc j n hn
    exact ⟨by rw [List.getElem?_append_left (by omega)]; exact k1, vn, by rw [List.getElem?_append_left (by omega)]; exact k2, k3⟩
  · rw [List.getElem?_append_right (by omega)] at hn
    obtain ⟨k1, vn, k2, k3⟩ := hu _ n hn
    have e1 : j * 4 - cs.length = (j - ns.length) * 4 := by omega
    have e2 : j * 4 + 1 - cs.length = (j - ns.length) * 4 + 1 := by omega
    exact ⟨by rw [List.getElem?_append_right (by omega), e1]; exact k1, vn, by rw [List.getElem?_append_right (by omega), e2]; exact k2, k3⟩
/-- What the packets of a tick bring. -/
def CarE (S : Nat → Prop) (w : World) (b1 : Nat) (f : En) (b2 : Nat) (t : En) (x : Ending) (w' : World) : Prop :=
  ∃ v T, x = .returned (.tuple #[v, .bool (carC f t).2.2.2]) ∧ Two T w' b1 (carC f t).1 b2 (carC f t).2.1 ∧ (∀ k, S k → T k) ∧ Low T w' ∧ Fr S w w' ∧ Pay w.heap.size T w' v (carC f t).2.2.1
end Go.Proofs.Ytifmpcldiimdbaa

namespace Go.Proofs.Ytifmpcldiimdbaa
open Go.RowKit Go.Shelf

/-- Rows that grow: what is new is none of theirs. -/
theorem two_nw2 {S : Nat → Prop} {w w' : World} {b1 b2 : Nat} {e1 e2 : En} {row : Option Nat} (h : Two S w b1 e1 b2 e2) (hg : w.grownBy w' row) (hr : ∀ g, row = some g → S g) : Two (Nw S w w') w' b1 e1 b2 e2 := by
  have h0 := h
  obtain ⟨v1, v2, h1, h2, h3⟩ := h
  have key : ∀ {b : Nat} {v : Value} {e : En}, LB S w b v e → LB (Nw S w w') w' b v e := fun {b v e} h => by
    have hh : LB S w' b v e := { h with blk := (hg.block b (lt_of_block h.blk) (fun e => h.out (hr b e.symm))).trans h.blk, row := h.row.keep (fun g o hgg ho => (hg.block g (lt_of_block ho) (fun e => h.outq g hgg (hr g e.symm))).trans ho), lowq := fun g hgg => Nat.lt_of_lt_of_le (h.lowq g hgg) hg.size }
    have hlt := lt_of_block h.blk
    exact hh.more (fun k hk => hk.elim .inl (fun h1 => .inr ⟨by omega, fun e => by have := h.lowq k e; omega⟩))
  exact ⟨v1, v2, key h1, key h2, h3⟩
/-- The state of carry ahead of the packet i. -/
structure CarI (S : Nat → Prop) (w : World) (b1 : Nat) (f : En) (b2 : Nat) (t : En) (vl : Value) (L : List (List UInt8)) (i : Nat) (T : Nat → Prop) (v : Value) (W : World) : Prop where
  two : Two T W b1 (carS f t (L.take i)).1 b2 (carS f t (L.take i)).2.1
  sub : ∀ k, S k → T k
  low : Low T W
  fr : Fr S w W
  pay : Pay w.heap.size T W v (carS f t (L.take i)).2.2.1
  len : (carS f t (L.take i)).2.2.1.length ≤ i
  row : W.ownsRow w.heap.size 9 1 vl L.length (strCs L)
  rowT : ∀ g, vl.ownBlock = some g → T g
set_option maxRecDepth 100000 in
set_option maxHeartbeats 2000000 in
theorem carry_law {S : Nat → Prop} {w : World} {b1 b2 : Nat} {f t : En} (h : Two S w b1 f b2 t) (hS : Low S w) :
    Calls Try.prog 29 #[.pointer (some ⟨b1, 0, none⟩), .pointer (some ⟨b2, 0, none⟩)] w (CarE S w b1 f b2 t) := by
  obtain ⟨i0, hi0, hz0, hz1, hz2⟩ := info_partsE infoN
  have CT := Hid.mk (tickT_any h)
  unfold TckE at CT
  obtain ⟨L, hL⟩ : ∃ L, tickE f = L := ⟨_, rfl⟩
  rw [hL] at CT
  have HLE : Hid (carC f t = carS f t L) := Hid.mk (by rw [carC, hL])
  have HLS : Hid (∀ p ∈ L, p.length ≤ 1048584) := Hid.mk (by rw [← hL]; exact tickE_short f)
  have hL64 : L.length ≤ 64 := by rw [← hL, tickE_len]; omega
  have H := Hid.mk h
  have HSL := Hid.mk hS
  clear h hL hS
  go_enter Try.func29, Try.ntmps29
  go_wp2_with fail
  refine CT.out.mono ?_
  clear CT
  rintro x w1 ⟨⟨vl, rfl, hrow⟩, hb⟩
  obtain ⟨la, lc, hvl⟩ := own_slice hrow
  subst hvl
  have C0 : Hid (CarI S w b1 f b2 t (.slice la L.length lc) L 0 (Nw S w w1) (.slice none 0 0) w1) := Hid.mk ⟨by simpa [carS] using H.out.nw hb, fun k hk => .inl hk, Nw.low HSL.out hb.size, fr_below HSL.out hb, by simpa [carS] using Pay.nil _ _ _, by simp [carS], hrow, fun g hg => .inr (hrow.lt g hg)⟩
  clear hrow hb
  go_wp2_with fail
  go_loopw [6, 7, 9] (fun vo va c wr => ∃ (i : Nat) (T : Nat → Prop) (v : Value), i ≤ L.length ∧ c = .int .i64 i ∧ va = .bool (carS f t (L.take i)).2.2.2 ∧ v = vo ∧ CarI S w b1 f b2 t (.slice la L.length lc) L i T v wr) (fun _ _ c _ => L.length - (intOf c).toNat)
  case atStart => exact ⟨0, _, _, Nat.zero_le _, rfl, rfl, rfl, C0.out⟩
  case round =>
    obtain ⟨i, T, v, hi, rfl, rfl, rfl, ci⟩ := hrel
    obtain ⟨wx, hwx⟩ : ∃ wx, wx = wr := ⟨_, rfl⟩
    subst hwx
    have CI := Hid.mk ci
    obtain ⟨ov, oc, hov⟩ : ∃ ov oc, v = .slice ov (carS f t (L.take i)).2.2.1.length oc := by
      obtain ⟨cs, h1, _⟩ := ci.pay
      obtain ⟨a, c, e⟩ := own_slice h1
      exact ⟨a, c, e⟩
    subst hov
    clear ci
    by_cases hlt : i < L.length
    · have hltI : (i : Int) < (L.length : Int) := by omega
      obtain ⟨p, hp⟩ : ∃ p, L[i]? = some p := ⟨_, List.getElem?_eq_getElem hlt⟩
      have HST0 : Hid (carS f t (L.take (i + 1)) = stepR (carS f t (L.take i)) p) := Hid.mk (by rw [List.take_add_one, hp, Option.toList_some, carS_snoc])
      obtain ⟨f1, hf1⟩ : ∃ x, (carS f t (L.take i)).1 = x := ⟨_, rfl⟩
      obtain ⟨t1, ht1⟩ : ∃ x, (carS f t (L.take i)).2.1 = x := ⟨_, rfl⟩
      obtain ⟨out, hout⟩ : ∃ x, (carS f t (L.take i)).2.2.1 = x := ⟨_, rfl⟩
      obtain ⟨an, han⟩ : ∃ x, (carS f t (L.take i)).2.2.2 = x := ⟨_, rfl⟩
      have h2 := CI.out.two
      have hpay := CI.out.pay
      have hol := CI.out.len
      rw [hf1, ht1] at h2
      rw [hout] at hpay hol
      rw [hout] at CI
      rw [hout, han]
      have CK := Hid.mk (takT_any h2.swap CI.out.low p (by have := HLS.out p (List.mem_of_getElem? hp); omega))
      unfold TakT at CK
      have hlap : ∃ g, la = some ⟨g, 0, none⟩ ∧ wx.cell? ⟨g, i, none⟩ = some (.string ⟨p.toArray⟩) := by
        obtain ⟨_, ao, cap, e, h5⟩ := strsAt_own (ss := L) CI.out.row (by omega)
        injection e with e
        subst e
        rcases CI.out.row.2 with ⟨h0, h1⟩ | ⟨g, cap2, cur, e1, _⟩
        · omega
        · injection e1 with e1
          refine ⟨g, e1, ?_⟩
          rcases h5 with h5 | ⟨b, o, e2, _, h5⟩
          · rw [h5] at hp; simp at hp
          · rw [e1] at e2
            injection e2 with e2
            injection e2 with e2 e3
            subst e2 e3
            have := h5 i p hp
            rwa [Nat.zero_add] at this
      obtain ⟨gl, rfl, hcl⟩ := hlap
      obtain ⟨t2, ht2⟩ : ∃ x, (takeE t1 p).1 = x := ⟨_, rfl⟩
      obtain ⟨ms, hms⟩ : ∃ x, (takeE t1 p).2.1 = x := ⟨_, rfl⟩
      obtain ⟨ps, hps⟩ : ∃ x, (takeE t1 p).2.2.1 = x := ⟨_, rfl⟩
      obtain ⟨an1, han1⟩ : ∃ x, (takeE t1 p).2.2.2 = x := ⟨_, rfl⟩
      rw [ht2, hms, hps, han1] at CK
      have HST : Hid (carS f t (L.take (i + 1)) = (backs f1 ps, t2, out ++ ms, an || an1)) := Hid.mk (by rw [HST0.out, stepR, hf1, ht1, hout, han, ht2, hms, hps, han1])
      have HPS : Hid (∀ q ∈ ps, q.length ≤ 1048584) := Hid.mk (by rw [← hps]; exact takeE_short t1 p)
      have HPAY := Hid.mk hpay
      have HOL := Hid.mk hol
      clear hf1 ht1 hout han ht2 hms hps han1 HST0 h2 hpay hol hp
      go_wp2_with fail
      refine CK.out.mono ?_
      clear CK
      rintro x w1 ⟨⟨a0, l0, c0, a1, l1, c1, rfl, hN1, hT1⟩, h2, hf2⟩
      have ba : Below w1.heap.size w1 (w1.alloc (.cells #[.slice a0 l0 c0, .slice a1 l1 c1, .bool an1] 50)) := (Below.refl _ _).alloc (Nat.le_refl _) _
      have hkA : ∀ k o, wx.heap.size ≤ k → w1.heap[k]? = some o → (w1.alloc (.cells #[.slice a0 l0 c0, .slice a1 l1 c1, .bool an1] 50)).heap[k]? = some o := fun k o _ ho => alloc_old ho
      obtain ⟨T2, hT2⟩ : ∃ T2, T2 = Nw T wx (w1.alloc (.cells #[.slice a0 l0 c0, .slice a1 l1 c1, .bool an1] 50)) := ⟨_, rfl⟩
      have hzz : (w1.alloc (.cells #[.slice a0 l0 c0, .slice a1 l1 c1, .bool an1] 50)).heap.size = w1.heap.size + 1 := by simp
      have HZ1 : Hid (wx.heap.size ≤ w1.heap.size) := Hid.mk hf2.size
      have HZX : Hid (wx.heap.size ≤ (w1.alloc (.cells #[.slice a0 l0 c0, .slice a1 l1 c1, .bool an1] 50)).heap.size) := Hid.mk (by have := HZ1.out; omega)
      have HZ2 : Hid (w.heap.size ≤ (w1.alloc (.cells #[.slice a0 l0 c0, .slice a1 l1 c1, .bool an1] 50)).heap.size) := Hid.mk (by have := CI.out.fr.size; have := HZ1.out; omega)
      have HT2 : Hid (Two T2 (w1.alloc (.cells #[.slice a0 l0 c0, .slice a1 l1 c1, .bool an1] 50)) b2 t2 b1 f1) := Hid.mk ((h2.nw ba).sub (fun k hk => by
        rw [hT2] at hk
        rcases hk with hk | hk
        · exact .inl (.inl hk)
        · by_cases h : k < w1.heap.size
          · exact .inl (.inr ⟨hk.1, h⟩)
          · exact .inr ⟨by omega, hk.2⟩))
      have HT2S : Hid (∀ k, Nw T wx (w1.alloc (.cells #[.slice a0 l0 c0, .slice a1 l1 c1, .bool an1] 50)) k → T2 k) := Hid.mk (by rw [hT2]; exact fun _ h => h)
      have HT2R : Hid (∀ k, T2 k → T k ∨ (wx.heap.size ≤ k ∧ k < (w1.alloc (.cells #[.slice a0 l0 c0, .slice a1 l1 c1, .bool an1] 50)).heap.size)) := Hid.mk (by rw [hT2]; exact fun _ h => h)
      have hFT : Fr T wx (w1.alloc (.cells #[.slice a0 l0 c0, .slice a1 l1 c1, .bool an1] 50)) := hf2.next CI.out.low ba
      have HFR2 : Hid (Fr S w (w1.alloc (.cells #[.slice a0 l0 c0, .slice a1 l1 c1, .bool an1] 50))) := Hid.mk (CI.out.fr.trans (hFT.sub CI.out.sub))
      have hpay2 : Pay w.heap.size T2 (w1.alloc (.cells #[.slice a0 l0 c0, .slice a1 l1 c1, .bool an1] 50)) (.slice ov out.length oc) out := HPAY.out.fr hFT (fun k hk => HT2S.out k (.inl hk))
      obtain ⟨cs, hcs1, hcs2, hcs3⟩ := hpay2
      have HPO := Hid.mk hcs1
      have HPT := Hid.mk hcs2
      have HPC := Hid.mk hcs3
      have HPL : Hid (cs.length = out.length * 4) := Hid.mk hcs1.1
      obtain ⟨us, hu1, hu2, hu3, hu4, hu5, hu6, hu7⟩ := oneN_cells (T := T2) (hN1.keep hkA) (fun g hg hl => HT2S.out g (.inr ⟨hg, hl⟩))
      have HML : Hid (l0 = ms.length) := Hid.mk hu1
      have HMS : Hid (ms.length ≤ 1) := Hid.mk (by omega)
      have HL0 : Hid (l0 ≤ 1 ∧ out.length ≤ 64) := Hid.mk ⟨hu2, by have := HOL.out; omega⟩
      have HUL := Hid.mk hu3
      have HUN := Hid.mk hu4
      have HUC : Hid (∀ ad, a0 = some ad → ∀ j u, us[j]? = some u → (w1.alloc (.cells #[.slice a0 l0 c0, .slice a1 l1 c1, .bool an1] 50)).cell? (ad.add j) = some u) := Hid.mk (fun ad had j u hj => by
        obtain ⟨g, rfl, _, h⟩ := hu5 ad had
        have e : (⟨g, 0, none⟩ : Addr).add j = ⟨g, j, none⟩ := by cases j <;> simp [Addr.add]
        rw [e]
        exact h j u hj)
      have HU1 := Hid.mk hu6
      have HUP := Hid.mk hu7
      obtain ⟨hp1, hp2, hp3⟩ := oneT_cells (hT1.keep hkA)
      subst hp1
      have HPK := Hid.mk hp3
      have hrow2 : (w1.alloc (.cells #[.slice a0 l0 c0, .slice a1 ps.length c1, .bool an1] 50)).ownsRow w.heap.size 9 1 (.slice (some ⟨gl, 0, none⟩) L.length lc) L.length (strCs L) := by
        refine ⟨CI.out.row.1, ?_⟩
        rcases CI.out.row.2 with h0 | ⟨g, cap, cur, e1, e2, e3, e4⟩
        · exact .inl h0
        · exact .inr ⟨g, cap, cur, e1, e2, (hFT.block g (CI.out.rowT g (by rw [e1]; rfl))).trans e3, e4⟩
      have HROW2 := Hid.mk hrow2
      have hbx := box_at w1 (.cells #[.slice a0 l0 c0, .slice a1 ps.length c1, .bool an1] 50)
      have HBX := Hid.mk hbx
      obtain ⟨⟨x0, x1, x2⟩, -⟩ := three_cells hbx
      clear hbx hrow2 hp2 hp3 hu1 hu2 hu3 hu4 hu5 hu6 hu7 hcs1 hcs2 hcs3 hFT ba hkA hN1 hT1 h2 hf2 hT2 hzz hcl
      cases an with
      | false =>
        have HAN2 : Hid ((false || an1) = an1) := Hid.mk (by simp)
        go_wp2_with (refine wpList_append_all rfl _ _ rfl Try.underlying48 hi0 hz0 hz1 hz2 rfl (by decide) (by rfl) HPO.out a0 us l0 c0 (by rfl) HUL.out HUN.out HUC.out HU1.out ?d1 ?d2 ?d3 ?_)
        case d1 => unfold maxLen; have := HL0.out; omega
        case d2 => have := HL0.out; omega
        case d3 => exact HZ2.out
        intro v3 w3 hown3 hg3 hv3
        obtain ⟨T3, hT3⟩ : ∃ T3, T3 = Nw T wx w3 := ⟨_, rfl⟩
        have hz3 := hg3.size
        have HS23 : ∀ k, T3 k → Nw T2 (w1.alloc (.cells #[.slice a0 l0 c0, .slice a1 ps.length c1, .bool an1] 50)) w3 k := fun k hk => by
          rw [hT3] at hk
          rcases hk with hk | hk
          · exact .inl (HT2S.out k (.inl hk))
          · by_cases h : k < (w1.alloc (.cells #[.slice a0 l0 c0, .slice a1 ps.length c1, .bool an1] 50)).heap.size
            · exact .inl (HT2S.out k (.inr ⟨hk.1, h⟩))
            · exact .inr ⟨by omega, hk.2⟩
        have HT23 : ∀ k, T2 k → T3 k := fun k hk => by
          rw [hT3]
          rcases HT2R.out k hk with h | h
          · exact .inl h
          · exact .inr ⟨h.1, by omega⟩
        have HTW := Hid.mk ((two_nw2 HT2.out hg3 (fun g hg => HPT.out g hg)).sub HS23).swap
        have hne : ∀ {g : Nat} {cur : Array Value} {ty : TypeId} {fz : Nat × Nat}, (w1.alloc (.cells #[.slice a0 l0 c0, .slice a1 ps.length c1, .bool an1] 50)).heap[g]? = some (.cells cur ty fz) → ty ≠ 36 → w3.heap[g]? = some (.cells cur ty fz) := fun {g cur ty fz} hg hty => (hg3.block g (lt_of_block hg) (fun e => by
          rcases HPO.out.2 with ⟨h0, _⟩ | ⟨g', cap', cur', e1, _, e3, _⟩
          · rw [h0] at e; cases e
          · rw [e1] at e
            simp only [Value.ownBlock, Option.some.injEq] at e
            subst e
            rw [hg] at e3
            simp only [Option.some.injEq, Obj.cells.injEq] at e3
            exact hty e3.2.1)).trans hg
        have HBX3 := Hid.mk (hne HBX.out (by decide))
        have HPK3 : Hid (∀ (j : Nat) q, ps[j]? = some q → ∃ g, a1 = some ⟨g, 0, none⟩ ∧ T3 g ∧ w3.heap[g]? = some (.cells #[.string ⟨q.toArray⟩] 9 (0, 0)) ∧ j = 0) := Hid.mk (fun j q hj => by
          obtain ⟨g, e1, e2, e3, e4⟩ := HPK.out j q hj
          exact ⟨g, e1, HT23 g (HT2S.out g (.inr ⟨e2, lt_of_block e3⟩)), hne e3 (by decide), e4⟩)
        have HLOW3 : Hid (Low T3 w3) := Hid.mk (fun k hk => by
          rw [hT3] at hk
          rcases hk with hk | hk
          · have := CI.out.low k hk; have := HZX.out; omega
          · exact hk.2)
        have HFR3 : Hid (Fr S w w3) := Hid.mk ⟨hg3.os.trans HFR2.out.os, hg3.tape.trans HFR2.out.tape, hg3.output.trans HFR2.out.output, Nat.le_trans HFR2.out.size hg3.size, fun k hk => (hg3.block k (by have := CI.out.low k (CI.out.sub k hk); have := HZX.out; omega) (fun e => by
          rcases HPO.out.2 with ⟨h0, _⟩ | ⟨g', cap', cur', e1, e2, e3, _⟩
          · rw [h0] at e; cases e
          · rw [e1] at e
            simp only [Value.ownBlock, Option.some.injEq] at e
            subst e
            have := HSL.out k hk
            omega)).trans (HFR2.out.block k hk)⟩
        have HIT : ∀ {vn : Value} {xs : List Int}, IntT T2 (w1.alloc (.cells #[.slice a0 l0 c0, .slice a1 ps.length c1, .bool an1] 50)) vn xs → IntT T3 w3 vn xs := fun {vn xs} h => h.keep (fun g cur fz hg ho => ⟨HT23 g hg, hne ho (by decide)⟩)
        have HPAY3 : Hid (Pay w.heap.size T3 w3 v3 (out ++ ms)) := Hid.mk (Pay.more (by rw [← HML.out]; exact hown3) HPL.out (fun g hg => by
            have hg0 := hg
            rcases hv3 with e | e
            · rw [e] at hg; exact HT23 g (HPT.out g hg)
            · rw [e] at hg
              have hgg : w1.heap.size + 1 = g := by simpa using hg
              rw [hT3]
              exact .inr ⟨by have := HZ1.out; omega, (hown3.lt g hg0).2⟩)
          (fun j n hj => by obtain ⟨k1, vn, k2, k3⟩ := HPC.out j n hj; exact ⟨k1, vn, k2, HIT k3⟩) (fun j n hj => by obtain ⟨k1, vn, k2, k3⟩ := HUP.out j n hj; exact ⟨k1, vn, k2, HIT k3⟩))
        have HROW3 : Hid (w3.ownsRow w.heap.size 9 1 (.slice (some ⟨gl, 0, none⟩) L.length lc) L.length (strCs L)) := Hid.mk (by
          refine ⟨HROW2.out.1, ?_⟩
          rcases HROW2.out.2 with h0 | ⟨g, cap, cur, e1, e2, e3, e4⟩
          · exact .inl h0
          · exact .inr ⟨g, cap, cur, e1, e2, hne e3 (by decide), e4⟩)
        have HSUB3 : Hid (∀ k, T k → T3 k) := Hid.mk (fun k hk => by rw [hT3]; exact .inl hk)
        have HBT3 : Hid (T3 w1.heap.size) := Hid.mk (HT23 _ (HT2S.out _ (.inr ⟨by have := HZ1.out; omega, by simp⟩)))
        obtain ⟨va, vc, hv3s⟩ : ∃ va vc, v3 = .slice va (out.length + ms.length) vc := by
          obtain ⟨va, vc, e⟩ := own_slice hown3
          exact ⟨va, vc, by rw [e, HML.out]⟩
        subst hv3s
        clear hown3 hg3 hv3 hT3 HS23 HT23 hne HIT hz3 HPO HUL HUN HUC HU1 HL0 HZ2 HT2 HT2S HT2R HPT HPL HPC HUP HPK HROW2 HFR2 HBX x0 x1 x2
        go_wp2_with fail
        go_loopw [11] (fun c wr => ∃ (k : Nat) (T' : Nat → Prop), c = .int .i64 k ∧ k ≤ ps.length ∧ Two T' wr b1 (backs f1 (ps.take k)) b2 t2 ∧ (∀ j, T3 j → T' j) ∧ Low T' wr ∧ Fr T3 w3 wr) (fun c _ => ps.length - (intOf c).toNat)
        case atStart => exact ⟨0, T3, rfl, Nat.zero_le _, by simpa [backs] using HTW.out, fun _ h => h, HLOW3.out, Fr.refl _ _⟩
        case round =>
          obtain ⟨k, T', rfl, hk, htw, hsub, hlow, hfr⟩ := hrel
          obtain ⟨wy, hwy⟩ : ∃ wy, wy = wr := ⟨_, rfl⟩
          subst hwy
          have HTW4 := Hid.mk htw
          have HSB4 := Hid.mk hsub
          have HLW4 := Hid.mk hlow
          have HFR4 := Hid.mk hfr
          obtain ⟨⟨y0, y1, y2⟩, -⟩ := three_cells ((hfr.block _ HBT3.out).trans HBX3.out)
          clear htw hsub hlow hfr
          by_cases hlt : k < ps.length
          · have hltI : (k : Int) < (ps.length : Int) := by omega
            obtain ⟨q, hq⟩ : ∃ q, ps[k]? = some q := ⟨_, List.getElem?_eq_getElem hlt⟩
            obtain ⟨g, rfl, hTg, hbg, rfl⟩ := HPK3.out k q hq
            have hcq : wy.cell? ⟨g, 0, none⟩ = some (.string ⟨q.toArray⟩) := by
              have h := (HFR4.out.block g hTg).trans hbg
              simp only [World.cell?, h]
              rfl
            have CT := Hid.mk (takT_any HTW4.out HLW4.out q (by have := HPS.out q (List.mem_of_getElem? hq); omega))
            have HQ : Hid (backs f1 (ps.take (0 + 1)) = (takeE (backs f1 (ps.take 0)) q).1) := Hid.mk (by rw [List.take_add_one, hq, Option.toList_some, backs_snoc])
            clear hq hbg hTg
            go_wp2_with fail
            refine CT.out.mono ?_
            clear CT
            rintro x w5 ⟨⟨d0, d1, d2, d3, d4, d5, rfl, -, -⟩, ht5, hf5⟩
            have HTW5 := Hid.mk ht5
            have HFR5 := Hid.mk hf5
            clear ht5 hf5 hcq y0 y1 y2
            go_wp2
            go_roundw
            case rel => exact ⟨0 + 1, Nw T' wy w5, by go_num, by omega, by rw [HQ.out]; exact HTW5.out, fun j hj => .inl (HSB4.out j hj), Nw.low HLW4.out HFR5.out.size, HFR4.out.trans (HFR5.out.sub HSB4.out)⟩
            case measure => simp [intOf]; omega
          · have hltI : ¬ (k : Int) < (ps.length : Int) := by omega
            obtain rfl : k = ps.length := by omega
            have hbk : backs f1 (ps.take ps.length) = backs f1 ps := by rw [List.take_length]
            have HCI : Hid (CarI S w b1 f b2 t (.slice (some ⟨gl, 0, none⟩) L.length lc) L (i + 1) T' (.slice va (out.length + ms.length) vc) wy) := Hid.mk (by
              have h := HTW4.out
              rw [hbk] at h
              refine ⟨?_, fun j hj => HSB4.out j (HSUB3.out j (CI.out.sub j hj)), HLW4.out, HFR3.out.trans (HFR4.out.sub (fun j hj => HSUB3.out j (CI.out.sub j hj))), ?_, ?_, ?_, fun g hg => HSB4.out g (HSUB3.out g (CI.out.rowT g hg))⟩
              · rw [HST.out]; exact h
              · rw [HST.out]; exact HPAY3.out.fr HFR4.out HSB4.out
              · rw [HST.out]; simp only [List.length_append]; have := HOL.out; have := HMS.out; omega
              · refine ⟨HROW3.out.1, ?_⟩
                rcases HROW3.out.2 with h0 | ⟨g, cap, cur, e1, e2, e3, e4⟩
                · exact .inl h0
                · exact .inr ⟨g, cap, cur, e1, e2, (HFR4.out.block g (HSUB3.out g (CI.out.rowT g (by rw [e1]; rfl)))).trans e3, e4⟩)
            have HAN3 : Hid ((carS f t (L.take (i + 1))).2.2.2 = an1) := Hid.mk (by rw [HST.out]; exact HAN2.out)
            clear hbk
            go_wp2
            go_roundw
            case rel => exact ⟨i + 1, T', _, by omega, by go_num, by rw [HAN3.out], rfl, HCI.out⟩
            case measure => simp [intOf]; omega
      | true =>
        have HAN2 : Hid ((true || an1) = true) := Hid.mk (by simp)
        go_wp2_with (refine wpList_append_all rfl _ _ rfl Try.underlying48 hi0 hz0 hz1 hz2 rfl (by decide) (by rfl) HPO.out a0 us l0 c0 (by rfl) HUL.out HUN.out HUC.out HU1.out ?d1 ?d2 ?d3 ?_)
        case d1 => unfold maxLen; have := HL0.out; omega
        case d2 => have := HL0.out; omega
        case d3 => exact HZ2.out
        intro v3 w3 hown3 hg3 hv3
        obtain ⟨T3, hT3⟩ : ∃ T3, T3 = Nw T wx w3 := ⟨_, rfl⟩
        have hz3 := hg3.size
        have HS23 : ∀ k, T3 k → Nw T2 (w1.alloc (.cells #[.slice a0 l0 c0, .slice a1 ps.length c1, .bool an1] 50)) w3 k := fun k hk => by
          rw [hT3] at hk
          rcases hk with hk | hk
          · exact .inl (HT2S.out k (.inl hk))
          · by_cases h : k < (w1.alloc (.cells #[.slice a0 l0 c0, .slice a1 ps.length c1, .bool an1] 50)).heap.size
            · exact .inl (HT2S.out k (.inr ⟨hk.1, h⟩))
            · exact .inr ⟨by omega, hk.2⟩
        have HT23 : ∀ k, T2 k → T3 k := fun k hk => by
          rw [hT3]
          rcases HT2R.out k hk with h | h
          · exact .inl h
          · exact .inr ⟨h.1, by omega⟩
        have HTW := Hid.mk ((two_nw2 HT2.out hg3 (fun g hg => HPT.out g hg)).sub HS23).swap
        have hne : ∀ {g : Nat} {cur : Array Value} {ty : TypeId} {fz : Nat × Nat}, (w1.alloc (.cells #[.slice a0 l0 c0, .slice a1 ps.length c1, .bool an1] 50)).heap[g]? = some (.cells cur ty fz) → ty ≠ 36 → w3.heap[g]? = some (.cells cur ty fz) := fun {g cur ty fz} hg hty => (hg3.block g (lt_of_block hg) (fun e => by
          rcases HPO.out.2 with ⟨h0, _⟩ | ⟨g', cap', cur', e1, _, e3, _⟩
          · rw [h0] at e; cases e
          · rw [e1] at e
            simp only [Value.ownBlock, Option.some.injEq] at e
            subst e
            rw [hg] at e3
            simp only [Option.some.injEq, Obj.cells.injEq] at e3
            exact hty e3.2.1)).trans hg
        have HBX3 := Hid.mk (hne HBX.out (by decide))
        have HPK3 : Hid (∀ (j : Nat) q, ps[j]? = some q → ∃ g, a1 = some ⟨g, 0, none⟩ ∧ T3 g ∧ w3.heap[g]? = some (.cells #[.string ⟨q.toArray⟩] 9 (0, 0)) ∧ j = 0) := Hid.mk (fun j q hj => by
          obtain ⟨g, e1, e2, e3, e4⟩ := HPK.out j q hj
          exact ⟨g, e1, HT23 g (HT2S.out g (.inr ⟨e2, lt_of_block e3⟩)), hne e3 (by decide), e4⟩)
        have HLOW3 : Hid (Low T3 w3) := Hid.mk (fun k hk => by
          rw [hT3] at hk
          rcases hk with hk | hk
          · have := CI.out.low k hk; have := HZX.out; omega
          · exact hk.2)
        have HFR3 : Hid (Fr S w w3) := Hid.mk ⟨hg3.os.trans HFR2.out.os, hg3.tape.trans HFR2.out.tape, hg3.output.trans HFR2.out.output, Nat.le_trans HFR2.out.size hg3.size, fun k hk => (hg3.block k (by have := CI.out.low k (CI.out.sub k hk); have := HZX.out; omega) (fun e => by
          rcases HPO.out.2 with ⟨h0, _⟩ | ⟨g', cap', cur', e1, e2, e3, _⟩
          · rw [h0] at e; cases e
          · rw [e1] at e
            simp only [Value.ownBlock, Option.some.injEq] at e
            subst e
            have := HSL.out k hk
            omega)).trans (HFR2.out.block k hk)⟩
        have HIT : ∀ {vn : Value} {xs : List Int}, IntT T2 (w1.alloc (.cells #[.slice a0 l0 c0, .slice a1 ps.length c1, .bool an1] 50)) vn xs → IntT T3 w3 vn xs := fun {vn xs} h => h.keep (fun g cur fz hg ho => ⟨HT23 g hg, hne ho (by decide)⟩)
        have HPAY3 : Hid (Pay w.heap.size T3 w3 v3 (out ++ ms)) := Hid.mk (Pay.more (by rw [← HML.out]; exact hown3) HPL.out (fun g hg => by
            have hg0 := hg
            rcases hv3 with e | e
            · rw [e] at hg; exact HT23 g (HPT.out g hg)
            · rw [e] at hg
              have hgg : w1.heap.size + 1 = g := by simpa using hg
              rw [hT3]
              exact .inr ⟨by have := HZ1.out; omega, (hown3.lt g hg0).2⟩)
          (fun j n hj => by obtain ⟨k1, vn, k2, k3⟩ := HPC.out j n hj; exact ⟨k1, vn, k2, HIT k3⟩) (fun j n hj => by obtain ⟨k1, vn, k2, k3⟩ := HUP.out j n hj; exact ⟨k1, vn, k2, HIT k3⟩))
        have HROW3 : Hid (w3.ownsRow w.heap.size 9 1 (.slice (some ⟨gl, 0, none⟩) L.length lc) L.length (strCs L)) := Hid.mk (by
          refine ⟨HROW2.out.1, ?_⟩
          rcases HROW2.out.2 with h0 | ⟨g, cap, cur, e1, e2, e3, e4⟩
          · exact .inl h0
          · exact .inr ⟨g, cap, cur, e1, e2, hne e3 (by decide), e4⟩)
        have HSUB3 : Hid (∀ k, T k → T3 k) := Hid.mk (fun k hk => by rw [hT3]; exact .inl hk)
        have HBT3 : Hid (T3 w1.heap.size) := Hid.mk (HT23 _ (HT2S.out _ (.inr ⟨by have := HZ1.out; omega, by simp⟩)))
        obtain ⟨va, vc, hv3s⟩ : ∃ va vc, v3 = .slice va (out.length + ms.length) vc := by
          obtain ⟨va, vc, e⟩ := own_slice hown3
          exact ⟨va, vc, by rw [e, HML.out]⟩
        subst hv3s
        clear hown3 hg3 hv3 hT3 HS23 HT23 hne HIT hz3 HPO HUL HUN HUC HU1 HL0 HZ2 HT2 HT2S HT2R HPT HPL HPC HUP HPK HROW2 HFR2 HBX x0 x1 x2
        go_wp2_with fail
        go_loopw [11] (fun c wr => ∃ (k : Nat) (T' : Nat → Prop), c = .int .i64 k ∧ k ≤ ps.length ∧ Two T' wr b1 (backs f1 (ps.take k)) b2 t2 ∧ (∀ j, T3 j → T' j) ∧ Low T' wr ∧ Fr T3 w3 wr) (fun c _ => ps.length - (intOf c).toNat)
        case atStart => exact ⟨0, T3, rfl, Nat.zero_le _, by simpa [backs] using HTW.out, fun _ h => h, HLOW3.out, Fr.refl _ _⟩
        case round =>
          obtain ⟨k, T', rfl, hk, htw, hsub, hlow, hfr⟩ := hrel
          obtain ⟨wy, hwy⟩ : ∃ wy, wy = wr := ⟨_, rfl⟩
          subst hwy
          have HTW4 := Hid.mk htw
          have HSB4 := Hid.mk hsub
          have HLW4 := Hid.mk hlow
          have HFR4 := Hid.mk hfr
          obtain ⟨⟨y0, y1, y2⟩, -⟩ := three_cells ((hfr.block _ HBT3.out).trans HBX3.out)
          clear htw hsub hlow hfr
          by_cases hlt : k < ps.length
          · have hltI : (k : Int) < (ps.length : Int) := by omega
            obtain ⟨q, hq⟩ : ∃ q, ps[k]? = some q := ⟨_, List.getElem?_eq_getElem hlt⟩
            obtain ⟨g, rfl, hTg, hbg, rfl⟩ := HPK3.out k q hq
            have hcq : wy.cell? ⟨g, 0, none⟩ = some (.string ⟨q.toArray⟩) := by
              have h := (HFR4.out.block g hTg).trans hbg
              simp only [World.cell?, h]
              rfl
            have CT := Hid.mk (takT_any HTW4.out HLW4.out q (by have := HPS.out q (List.mem_of_getElem? hq); omega))
            have HQ : Hid (backs f1 (ps.take (0 + 1)) = (takeE (backs f1 (ps.take 0)) q).1) := Hid.mk (by rw [List.take_add_one, hq, Option.toList_some, backs_snoc])
            clear hq hbg hTg
            go_wp2_with fail
            refine CT.out.mono ?_
            clear CT
            rintro x w5 ⟨⟨d0, d1, d2, d3, d4, d5, rfl, -, -⟩, ht5, hf5⟩
            have HTW5 := Hid.mk ht5
            have HFR5 := Hid.mk hf5
            clear ht5 hf5 hcq y0 y1 y2
            go_wp2
            go_roundw
            case rel => exact ⟨0 + 1, Nw T' wy w5, by go_num, by omega, by rw [HQ.out]; exact HTW5.out, fun j hj => .inl (HSB4.out j hj), Nw.low HLW4.out HFR5.out.size, HFR4.out.trans (HFR5.out.sub HSB4.out)⟩
            case measure => simp [intOf]; omega
          · have hltI : ¬ (k : Int) < (ps.length : Int) := by omega
            obtain rfl : k = ps.length := by omega
            have hbk : backs f1 (ps.take ps.length) = backs f1 ps := by rw [List.take_length]
            have HCI : Hid (CarI S w b1 f b2 t (.slice (some ⟨gl, 0, none⟩) L.length lc) L (i + 1) T' (.slice va (out.length + ms.length) vc) wy) := Hid.mk (by
              have h := HTW4.out
              rw [hbk] at h
              refine ⟨?_, fun j hj => HSB4.out j (HSUB3.out j (CI.out.sub j hj)), HLW4.out, HFR3.out.trans (HFR4.out.sub (fun j hj => HSUB3.out j (CI.out.sub j hj))), ?_, ?_, ?_, fun g hg => HSB4.out g (HSUB3.out g (CI.out.rowT g hg))⟩
              · rw [HST.out]; exact h
              · rw [HST.out]; exact HPAY3.out.fr HFR4.out HSB4.out
              · rw [HST.out]; simp only [List.length_append]; have := HOL.out; have := HMS.out; omega
              · refine ⟨HROW3.out.1, ?_⟩
                rcases HROW3.out.2 with h0 | ⟨g, cap, cur, e1, e2, e3, e4⟩
                · exact .inl h0
                · exact .inr ⟨g, cap, cur, e1, e2, (HFR4.out.block g (HSUB3.out g (CI.out.rowT g (by rw [e1]; rfl)))).trans e3, e4⟩)
            have HAN3 : Hid ((carS f t (L.take (i + 1))).2.2.2 = true) := Hid.mk (by rw [HST.out]; exact HAN2.out)
            clear hbk
            go_wp2
            go_roundw
            case rel => exact ⟨i + 1, T', _, by omega, by go_num, by rw [HAN3.out], rfl, HCI.out⟩
            case measure => simp [intOf]; omega
    · have hltI : ¬ (i : Int) < (L.length : Int) := by omega
      obtain rfl : i = L.length := by omega
      have hTL : L.take L.length = L := List.take_length
      have HE : Hid (CarE S w b1 f b2 t (.returned (.tuple #[.slice ov (carS f t L).2.2.1.length oc, .bool (carS f t L).2.2.2])) wx) := Hid.mk (by
        refine ⟨.slice ov (carS f t L).2.2.1.length oc, T, ?_, ?_, CI.out.sub, CI.out.low, CI.out.fr, ?_⟩
        · rw [HLE.out]
        · have h := CI.out.two
          rw [hTL] at h
          rw [HLE.out]
          exact h
        · have h := CI.out.pay
          rw [HLE.out]
          rw [hTL] at h
          exact h)
      clear hTL
      go_wp2
      go_ret2
      exact HE.out
end Go.Proofs.Ytifmpcldiimdbaa

namespace Go.Proofs.Ytifmpcldiimdbaa
open Go.RowKit Go.Shelf

theorem takeE_car {e f : En} (hf : f.ok) (hw : f.wt ≤ 4611686018427387903) {k : Nat} (hk : k ≤ 4611686018427387903) {n : NoteD} (hn : fitsN n) :
    takeE e (carB f k (sealB n.body)) = if f.ep < e.ot then (e, [], [], false) else metE (seeE e f.ep) ⟨f.ep, f.ot, f.wt, true, k, n⟩ := by
  rw [takeE, heardP_car hf hw hk hn.1 hn.2]
  have := hf.ep1
  simp only [Int.toNat_natCast]
  by_cases h : f.ep < e.ot
  · rw [if_pos (.inr (by omega)), if_pos h]
  · rw [if_neg (by omega), if_neg h]
theorem takeE_tel {e f : En} (hf : f.ok) (hw : f.wt ≤ 4611686018427387903) :
    takeE e (telB f) = if f.ep < e.ot then (e, [], [], false) else metE (seeE e f.ep) ⟨f.ep, f.ot, f.wt, false, 0, .none⟩ := by
  rw [takeE, heardP_tel hf hw]
  have := hf.ep1
  simp only [Int.toNat_natCast]
  by_cases h : f.ep < e.ot
  · rw [if_pos (.inr (by omega)), if_pos h]
  · rw [if_neg (by omega), if_neg h]
theorem metE_not {m : En × Bool} {h : Hd} (ho : h.ot ≠ (m.1.ep : Int)) : metE m h = (m.1, [], [telB m.1], m.2) := by rw [metE, if_pos ho]
theorem metE_yes {m : En × Bool} {h : Hd} (ho : h.ot = (m.1.ep : Int)) : metE m h = tookE (dropE m.1 h.wt.toNat) h m.2 := by rw [metE, if_neg (by simpa using ho)]
theorem dropE_none {e : En} {k : Nat} (h : k ≤ e.fs) : dropE e k = e := by
  have : goneE e k = 0 := by unfold goneE; omega
  simp [dropE, this]
def n7 : NoteD := ⟨7, [], [], []⟩
theorem n7_fits : fitsN n7 := ⟨by decide +kernel, by decide +kernel⟩
theorem n7_at (w : World) : NoteAt w (.agg #[.int .i64 7, .slice none 0 0, .slice none 0 0, .slice none 0 0]) n7 :=
  ⟨_, _, _, rfl, ⟨by simp [intCs, n7], none, 0, rfl, .inl rfl⟩, strs_nil _, rows_nil _⟩
theorem newE1 : (newE 1).ok := newE_ok (by omega) (by omega)
def s7 : List UInt8 := sealB n7.body
theorem s7_len : s7.length ≤ 32768 := n7_fits.2
theorem aw1 : putE (newE 1) n7 = (⟨1, 0, 1, 1, [s7]⟩, [carB (newE 1) 1 s7], 0) := by
  rw [putE, if_neg (fun h => h n7_fits), if_neg (by simp [newE]), if_neg (by simp [newE])]
  rfl
theorem aw2 : takeE (newE 1) (carB (newE 1) 1 s7) = (⟨1, 1, 1, 1, []⟩, [], [telB ⟨1, 1, 1, 1, []⟩], false) := by
  rw [s7, takeE_car newE1 (by simp [newE]) (by omega) n7_fits, if_neg (by simp [newE]), metE_not (by simp [newE, seeE, meetE])]
  rfl
theorem okA (q : List (List UInt8)) (f v : Nat) (hq : q.length ≤ 4096) (hp : ∀ p ∈ q, p.length ≤ 32768) (hf : 1 ≤ f ∧ f ≤ 10) (hv : 1 ≤ v ∧ v ≤ 10) : (En.mk 1 1 f v q).ok :=
  ⟨by simp, by simp, by simp, hf.1, by simp only; omega, hv.1, by simp only; omega, hq, hp⟩
theorem ok1 : (En.mk 1 1 1 1 []).ok := okA [] 1 1 (by simp) (by simp) (by omega) (by omega)
theorem ok2 : (En.mk 1 1 1 1 [s7]).ok := okA [s7] 1 1 (by simp) (fun p hp => by rw [List.mem_singleton.1 hp]; exact s7_len) (by omega) (by omega)
theorem ok3 : (En.mk 1 1 1 2 []).ok := okA [] 1 2 (by simp) (by simp) (by omega) (by omega)
theorem aw3 : (takeE ⟨1, 0, 1, 1, [s7]⟩ (telB ⟨1, 1, 1, 1, []⟩)).1 = ⟨1, 1, 1, 1, [s7]⟩ := by
  rw [takeE_tel ok1 (by simp), if_neg (by simp)]
  have h1 : seeE ⟨1, 0, 1, 1, [s7]⟩ 1 = (⟨1, 1, 1, 1, [s7]⟩, false) := rfl
  simp only
  rw [h1, metE_yes rfl]
  simp only [Int.toNat_natCast]
  rw [dropE_none (by simp), tookE, if_pos rfl]
theorem aw4 : carC ⟨1, 1, 1, 1, [s7]⟩ ⟨1, 1, 1, 1, []⟩ = (⟨1, 1, 2, 1, []⟩, ⟨1, 1, 1, 2, []⟩, [n7], false) := by
  have h0 : tickE ⟨1, 1, 1, 1, [s7]⟩ = [carB ⟨1, 1, 1, 1, [s7]⟩ 1 s7] := rfl
  have h1 : takeE ⟨1, 1, 1, 1, []⟩ (carB ⟨1, 1, 1, 1, [s7]⟩ 1 s7) = (⟨1, 1, 1, 2, []⟩, [n7], [telB ⟨1, 1, 1, 2, []⟩], false) := by
    rw [show carB ⟨1, 1, 1, 1, [s7]⟩ 1 s7 = carB ⟨1, 1, 1, 1, [s7]⟩ 1 (sealB n7.body) from rfl, takeE_car ok2 (by simp) (by omega) n7_fits, if_neg (by simp)]
    have h1 : seeE ⟨1, 1, 1, 1, []⟩ 1 = (⟨1, 1, 1, 1, []⟩, false) := rfl
    simp only
    rw [h1, metE_yes rfl]
    simp only [Int.toNat_natCast]
    rw [dropE_none (by simp), tookE, if_neg (by simp), if_pos rfl]
  have h2 : (takeE ⟨1, 1, 1, 1, [s7]⟩ (telB ⟨1, 1, 1, 2, []⟩)).1 = ⟨1, 1, 2, 1, []⟩ := by
    rw [takeE_tel ok3 (by simp), if_neg (by simp)]
    have h1 : seeE ⟨1, 1, 1, 1, [s7]⟩ 1 = (⟨1, 1, 1, 1, [s7]⟩, false) := rfl
    simp only
    rw [h1, metE_yes rfl]
    simp only [Int.toNat_natCast]
    rw [tookE, if_pos rfl]
    rfl
  rw [carC, carS, h0, List.foldl_cons, List.foldl_nil, stepR]
  simp only [h1, backs, List.foldl_cons, List.foldl_nil, h2]
  rfl

set_option maxRecDepth 100000 in
set_option maxHeartbeats 1000000 in
theorem awake_any (w : World) : Calls Try.prog 11 #[] w fun e w' => e = .returned (.bool true) ∧ Below w.heap.size w w' := by
  have C1 : Hid (∀ W : World, Calls Try.prog 9 #[.int .i64 1] W (NewE 1 W)) := Hid.mk (fun W => new_any 1 W)
  unfold NewE at C1
  have hE : EpOk 1 := ⟨by omega, by omega⟩
  have HEP := Hid.mk hE
  clear hE
  go_enter Try.func11, Try.ntmps11
  go_wp2_with fail
  refine (C1.out _).mono ?_
  rintro x w1 ⟨hb1, ⟨h, -⟩ | ⟨-, b1, rfl, hlo1, hk1⟩⟩
  · exact absurd HEP.out h
  have HB1 := Hid.mk hb1
  have HK1 := Hid.mk hk1
  have HL1 := Hid.mk hlo1
  clear hb1 hk1 hlo1
  go_wp2_with fail
  refine (C1.out _).mono ?_
  rintro x w2 ⟨hb2, ⟨h, -⟩ | ⟨-, b2, rfl, hlo2, hk2⟩⟩
  · exact absurd HEP.out h
  have hb1lt := lt_of_block HK1.out
  have HT : Hid (Two (fun k => k < w.heap.size) w2 b1 (newE 1) b2 (newE 1)) := Hid.mk (two_new (kpB hb2 HK1.out) hk2 newE1 newE1 (by have := HL1.out; omega) (by have := HB1.out.size; omega) (by omega))
  have HBL : Hid (Below w.heap.size w w2) := Hid.mk (HB1.out.trans (hb2.mono HB1.out.size))
  have HLW : Hid (Low (fun k => k < w.heap.size) w2) := Hid.mk (fun k hk => Nat.lt_of_lt_of_le hk (Nat.le_trans HB1.out.size hb2.size))
  clear hb2 hk2 hlo2 HB1 HK1 HL1 C1 hb1lt
  have CP := Hid.mk (putT_any HT.out HLW.out _ n7 (n7_at w2) ⟨by simp [n7], by simp [n7]⟩)
  unfold PtT at CP
  rw [aw1] at CP
  obtain ⟨p1, hp1⟩ : ∃ p, carB (newE 1) 1 s7 = p := ⟨_, rfl⟩
  have HT2 := aw2
  rw [hp1] at HT2
  simp only [hp1] at CP
  have HP1 : Hid (p1.length ≤ 1048584) := Hid.mk (by rw [← hp1]; exact packN_len _)
  have HAW2 := Hid.mk HT2
  clear hp1 HT2
  go_wp2_with fail
  refine CP.out.mono ?_
  clear CP
  rintro x w3 ⟨⟨a0, l0, c0, rfl, ho⟩, ht3, hf3⟩
  obtain ⟨e1, e2, e3⟩ := oneT_cells ho
  obtain ⟨g, rfl, hg, hbk, -⟩ := e3 0 p1 rfl
  obtain rfl : l0 = 1 := e1
  have HT3 := Hid.mk ht3.swap
  have HB3 : Hid (Below w.heap.size w w3) := Hid.mk (HBL.out.trans (hf3.below (fun _ h => h)))
  have HL3 := Hid.mk (HLW.out.fr hf3)
  have hc3 : w3.cell? ⟨g, 0, none⟩ = some (.string ⟨p1.toArray⟩) := by simp only [World.cell?, hbk]; rfl
  have CK := Hid.mk (takT_any HT3.out HL3.out p1 (by have := HP1.out; omega))
  unfold TakT at CK
  rw [HAW2.out] at CK
  obtain ⟨p2, hp2⟩ : ∃ p, telB ⟨1, 1, 1, 1, []⟩ = p := ⟨_, rfl⟩
  have HT3' := aw3
  rw [hp2] at HT3'
  simp only [hp2] at CK
  have HP2 : Hid (p2.length ≤ 1048584) := Hid.mk (by rw [← hp2]; exact packN_len _)
  have HAW3 := Hid.mk HT3'
  clear hp2 HT3' e2 e3 ho ht3 hf3 hbk hg HBL HLW HT HAW2
  go_wp2_with fail
  refine CK.out.mono ?_
  clear CK
  rintro x w4 ⟨⟨b0, m0, d0, b1', m1, d1, rfl, hN, ho⟩, ht4, hf4⟩
  obtain ⟨us, e0, -⟩ := oneN_cells (T := fun _ => True) hN (fun _ _ _ => trivial)
  obtain rfl : m0 = 0 := e0
  obtain ⟨e1, e2, e3⟩ := oneT_cells ho
  obtain ⟨g2, rfl, hg2, hbk2, -⟩ := e3 0 p2 rfl
  obtain rfl : m1 = 1 := e1
  have ba : Below w4.heap.size w4 (w4.alloc (.cells #[.slice b0 0 d0, .slice (some ⟨g2, 0, none⟩) 1 d1, .bool false] 50)) := (Below.refl _ _).alloc (Nat.le_refl _) _
  have HT4 := Hid.mk ((ht4.below ba).swap.sub (T := fun k => k < w.heap.size) (fun k hk => .inl hk))
  have hF4 : Below w.heap.size w w4 := HB3.out.trans (hf4.below (fun _ h => h))
  have HB4 : Hid (Below w.heap.size w (w4.alloc (.cells #[.slice b0 0 d0, .slice (some ⟨g2, 0, none⟩) 1 d1, .bool false] 50))) := Hid.mk (hF4.trans (ba.mono hF4.size))
  have HL4 : Hid (Low (fun k => k < w.heap.size) (w4.alloc (.cells #[.slice b0 0 d0, .slice (some ⟨g2, 0, none⟩) 1 d1, .bool false] 50))) := Hid.mk (fun k hk => Nat.lt_of_lt_of_le hk HB4.out.size)
  have hc4 : (w4.alloc (.cells #[.slice b0 0 d0, .slice (some ⟨g2, 0, none⟩) 1 d1, .bool false] 50)).cell? ⟨g2, 0, none⟩ = some (.string ⟨p2.toArray⟩) := by
    have h := kpB ba hbk2
    simp only [World.cell?, h]
    rfl
  obtain ⟨⟨x0, x1, x2⟩, -⟩ := three_cells (box_at w4 (.cells #[.slice b0 0 d0, .slice (some ⟨g2, 0, none⟩) 1 d1, .bool false] 50))
  have CK := Hid.mk (takT_any HT4.out HL4.out p2 (by have := HP2.out; omega))
  unfold TakT at CK
  rw [HAW3.out] at CK
  clear e2 e3 ho hN ht4 hf4 hbk2 hg2 ba hF4 hc3 HT3 HB3 HL3
  go_wp2_with fail
  refine CK.out.mono ?_
  clear CK
  rintro x w5 ⟨⟨f0, n0, k0, f1, n1, k1, rfl, -, -⟩, ht5, hf5⟩
  have HB5 : Hid (Below w.heap.size w w5) := Hid.mk (HB4.out.trans (hf5.below (fun _ h => h)))
  have HL5 := Hid.mk (HL4.out.fr hf5)
  have HT5 := Hid.mk (ht5.sub (T := fun k => k < w.heap.size) (fun k hk => .inl hk))
  have CC := Hid.mk (carry_law HT5.out HL5.out)
  unfold CarE at CC
  rw [aw4] at CC
  clear ht5 hf5 x0 x1 x2 hc4 HB4 HL4 HT4
  go_wp2_with fail
  refine CC.out.mono ?_
  clear CC
  rintro x w6 ⟨v, T, rfl, ht6, hsub6, hlow6, hf6, hpay⟩
  obtain ⟨cs, hrow, hrT, hcs⟩ := hpay
  obtain ⟨k1, -⟩ := hcs 0 n7 rfl
  have hv : ∃ g cap, v = .slice (some ⟨g, 0, none⟩) 1 cap ∧ w6.cell? ⟨g, 0, none⟩ = some (.int .i64 7) := by
    rcases hrow.2 with ⟨_, h0⟩ | ⟨g, cap, cur, e1, _⟩
    · cases h0
    · refine ⟨g, cap, e1, ?_⟩
      rw [e1] at hrow
      have := hrow.cellAt 0 (by simp)
      rw [this]
      exact k1
  obtain ⟨g6, cap6, rfl, hc6⟩ := hv
  have HB6 : Hid (Below w.heap.size w w6) := Hid.mk (HB5.out.trans (hf6.below (fun _ h => h)))
  have CW := Hid.mk (waitsT_any ht6)
  have CO := Hid.mk (otherT_any ht6)
  clear k1 hcs hrow hrT hf6 hsub6 hlow6 ht6 HB5 HL5 HT5
  go_wp2_with fail
  refine CW.out.mono ?_
  rintro x w7 ⟨rfl, hw⟩
  rw [hw]; clear hw CW w7
  go_wp2_with fail
  refine CO.out.mono ?_
  rintro x w7 ⟨rfl, hw⟩
  rw [hw]; clear hw CO w7
  go_wp2
  go_ret
  exact ⟨rfl, HB6.out⟩
end Go.Proofs.Ytifmpcldiimdbaa
