/- LinkAll: behind whatever script of up to 150 acts on a line of two ends, once all that an end sends again comes, in whatever order, all that was put has come and nothing waits: for every epochs, script and turn. -/
import Derived.Test.YtifmpcldiimdbaaXELineM
namespace Go.Proofs.Ytifmpcldiimdbaa
open Go.RowKit Go.Shelf

/-- 'append(v, list...)' at a step of a region that draws its order. -/
theorem step_append_all {w : World} {ops : Array Oper} {o : Oper} {a : Act} {K : Act → World → Prop} {Q : Exit → Act → World → Prop} {E : Prop} (hgd : o.guard = none) (sl x : Operand) {t : TypeId}
    (ho : o.op = .call { callee := .builtin .append, args := #[sl, x], argTypes := #[t, t] })
    {B n k : Nat} {v : Value} {xs : List Value} {e : TypeId} {i0 : TypeInfo} {z : Value} {bytes : Nat} (ht : Try.prog.underlying t = some (.slice e)) (hi : Try.prog.info? e = some i0) (hz0 : i0.zero = some z) (hz1 : i0.size = k) (hz2 : i0.bytes = bytes) (hz3 : z.cells.size = k) (hk : 0 < k)
    (hs : a.eval sl = v) (hown : w.ownsRow B e k v n xs) (ao : Option Addr) (us : List Value) (m cap : Nat) (hx : a.eval x = .slice ao m cap) (hm : us.length = m * k) (hnone : ao = none → m = 0 ∧ cap = 0) (hc : ∀ ad, ao = some ad → ∀ j u, us[j]? = some u → w.cell? (ad.add j) = some u) (h1 : ∀ u ∈ us, u.oneCell' = true)
    (h63 : n + m ≤ maxLen) (hb : (n + m) * bytes ≤ 140737488355328) (hB : B ≤ w.heap.size)
    (h : ∀ v' w', w'.ownsRow B e k v' (n + m) (xs ++ us) → w.grownBy w' v.ownBlock → (v'.ownBlock = v.ownBlock ∨ v'.ownBlock = some w.heap.size) → K (a.put o.dst v') w') :
    if Region.wanted o (yielded ops a.tmps) = true then Oper.wp Try.prog o a w K Q else E := by
  have hw : Region.wanted o (yielded ops a.tmps) = true := by simp [Region.wanted, hgd]
  rw [if_pos hw]
  obtain ⟨v', w', hr, h2, h3, h5⟩ := run_append_all ht hi hz0 hz1 hz2 hz3 hk hown ao us m cap hm hnone hc h1 h63 hb hB o.type
  unfold Oper.wp execOp
  simp only [ho, resolve, invoke, builtin, Sem.run_bind, Sem.run_pure, Result.andThen_ok, List.map_toArray, List.map_cons, List.map_nil, hs, hx, hr]
  exact h v' w' h2 h3 h5
/-- One value of a function is another. -/
def upd {α : Type} (f : Nat → α) (k : Nat) (v : α) : Nat → α := fun j => if j = k then v else f j
theorem upd_same {α : Type} (f : Nat → α) (k : Nat) (v : α) : upd f k v k = v := by simp [upd]
theorem upd_ne {α : Type} {f : Nat → α} {k j : Nat} {v : α} (h : j ≠ k) : upd f k v j = f j := by simp [upd, h]
/-- The values in a line's block. -/
structure LV where
  b : Nat → Nat
  u : Nat → Value
  p : Nat → Value
  c : Nat → Value
def lnC (V : LV) : Array Value := #[.pointer (some ⟨V.b 0, 0, none⟩), .pointer (some ⟨V.b 1, 0, none⟩), V.u 0, V.u 1, V.p 0, V.p 1, V.c 0, V.c 1, .bool true]
/-- Texts that can be read, in a block of T; nobody writes there. -/
def TxR (T : Nat → Prop) (w : World) (v : Value) (l : List (List UInt8)) : Prop :=
  ∃ ao cap, v = .slice ao l.length cap ∧ (ao = none → l.length = 0 ∧ cap = 0) ∧ l.length ≤ cap ∧ (l = [] ∨ ∃ g o cur, ao = some ⟨g, o, none⟩ ∧ T g ∧ w.heap[g]? = some (.cells cur 9 (0, 0)) ∧ ∀ (j : Nat) t, l[j]? = some t → cur[o + j]? = some (.string ⟨t.toArray⟩))
theorem TxR.keep {T U : Nat → Prop} {w w' : World} {v : Value} {l : List (List UInt8)} (h : TxR T w v l) (hk : ∀ g cur, T g → w.heap[g]? = some (.cells cur 9 (0, 0)) → U g ∧ w'.heap[g]? = some (.cells cur 9 (0, 0))) : TxR U w' v l := by
  obtain ⟨ao, cap, e, h0, h1, h⟩ := h
  refine ⟨ao, cap, e, h0, h1, ?_⟩
  rcases h with h | ⟨g, o, cur, e1, e2, e3, e4⟩
  · exact .inl h
  · obtain ⟨k1, k2⟩ := hk g cur e2 e3
    exact .inr ⟨g, o, cur, e1, k1, k2, e4⟩
theorem TxR.get {T : Nat → Prop} {w : World} {ao : Option Addr} {n cap : Nat} {l : List (List UInt8)} (h : TxR T w (.slice ao n cap) l) {j : Nat} {t : List UInt8} (hj : l[j]? = some t) : ∃ g o, ao = some ⟨g, o, none⟩ ∧ w.cell? ⟨g, o + j, none⟩ = some (.string ⟨t.toArray⟩) := by
  obtain ⟨ao', cap', e, _, _, h⟩ := h
  injection e with e
  subst e
  rcases h with rfl | ⟨g, o, cur, e1, e2, e3, e4⟩
  · simp at hj
  · exact ⟨g, o, e1, by simp only [World.cell?, e3]; exact e4 j t hj⟩
theorem TxR.own {T : Nat → Prop} {w : World} {B : Nat} {v : Value} {l : List (List UInt8)} (h : w.ownsRow B 9 1 v l.length (strCs l)) (hT : ∀ g, v.ownBlock = some g → T g) : TxR T w v l := by
  rcases h.2 with ⟨rfl, h0⟩ | ⟨g, cap, cur, e1, e2, e3, e4, e5, e6, e7⟩
  · exact ⟨none, 0, by rw [h0], fun _ => ⟨h0, rfl⟩, by omega, .inl (List.length_eq_zero_iff.1 h0)⟩
  · refine ⟨_, cap, e1, fun h => (by cases h), e4, .inr ⟨g, 0, cur, rfl, hT g (by rw [e1]; rfl), e3, fun j t hj => ?_⟩⟩
    rw [Nat.mul_one] at e7
    have hx : (strCs l)[j]? = some (.string ⟨t.toArray⟩) := by rw [strCs, List.getElem?_map, hj]; rfl
    rw [← e7, List.getElem?_take] at hx
    split at hx
    · rw [Nat.zero_add]; simpa using hx
    · simp at hx
def rngC (n : Nat) : List Value := (List.range n).map (fun i : Nat => Value.int .i64 (i : Int))
/-- The line at the block x. -/
structure LnB (w0 : World) (T : Nat → Prop) (W : World) (x : Nat) (V : LV) (e : Nat → En) (U : Nat → List (List UInt8)) (n c : Nat → Nat) : Prop where
  blk : W.heap[x]? = some (.cells (lnC V) 63 (0, 0))
  two : Two T W (V.b 0) (e 0) (V.b 1) (e 1)
  low : Low T W
  sub : ∀ k, k < w0.heap.size → T k
  bel : Below w0.heap.size w0 W
  xT : T x
  x1 : w0.heap.size ≤ x
  tu : ∀ k, k < 2 → TxR T W (V.u k) (U k)
  rp : ∀ k, k < 2 → W.ownsRow w0.heap.size 3 1 (V.p k) (n k) (rngC (n k)) ∧ ∀ g, (V.p k).ownBlock = some g → T g
  rc : ∀ k, k < 2 → W.ownsRow w0.heap.size 3 1 (V.c k) (c k) (rngC (c k)) ∧ ∀ g, (V.c k).ownBlock = some g → T g
  dpp : ∀ g, (V.p 0).ownBlock = some g → (V.p 1).ownBlock ≠ some g
  dcc : ∀ g, (V.c 0).ownBlock = some g → (V.c 1).ownBlock ≠ some g
  dpc : ∀ i j, i < 2 → j < 2 → ∀ g, (V.p i).ownBlock = some g → (V.c j).ownBlock ≠ some g
section
variable {w0 : World} {T : Nat → Prop} {W W' : World} {x : Nat} {V : LV} {e : Nat → En} {U : Nat → List (List UInt8)} {n c : Nat → Nat}
theorem LnB.cells (h : LnB w0 T W x V e U n c) : ∀ i v, (lnC V)[i]? = some v → W.cell? ⟨x, i, none⟩ = some v ∧ W.frozen? ⟨x, i, none⟩ = false := fun i v hv => ⟨by simp only [World.cell?, h.blk]; exact hv, by simp [World.frozen?, h.blk]⟩
theorem lnC_end (V : LV) {k : Nat} (hk : k < 2) : (lnC V)[k]? = some (.pointer (some ⟨V.b k, 0, none⟩)) := by
  match k, hk with
  | 0, _ => rfl
  | 1, _ => rfl
theorem lnC_u (V : LV) {k : Nat} (hk : k < 2) : (lnC V)[2 + k]? = some (V.u k) := by
  match k, hk with
  | 0, _ => rfl
  | 1, _ => rfl
theorem lnC_p (V : LV) {k : Nat} (hk : k < 2) : (lnC V)[4 + k]? = some (V.p k) := by
  match k, hk with
  | 0, _ => rfl
  | 1, _ => rfl
theorem lnC_c (V : LV) {k : Nat} (hk : k < 2) : (lnC V)[6 + k]? = some (V.c k) := by
  match k, hk with
  | 0, _ => rfl
  | 1, _ => rfl
theorem lnC_setu (V : LV) {k : Nat} (hk : k < 2) (v : Value) : (lnC V).setIfInBounds (2 + k) v = lnC { V with u := upd V.u k v } := by
  match k, hk with
  | 0, _ => rfl
  | 1, _ => rfl
theorem lnC_setp (V : LV) {k : Nat} (hk : k < 2) (v : Value) : (lnC V).setIfInBounds (4 + k) v = lnC { V with p := upd V.p k v } := by
  match k, hk with
  | 0, _ => rfl
  | 1, _ => rfl
theorem lnC_setc (V : LV) {k : Nat} (hk : k < 2) (v : Value) : (lnC V).setIfInBounds (6 + k) v = lnC { V with c := upd V.c k v } := by
  match k, hk with
  | 0, _ => rfl
  | 1, _ => rfl
theorem LnB.at_k (h : LnB w0 T W x V e U n c) {k : Nat} (hk : k < 2) : Two T W (V.b k) (e k) (V.b (1 - k)) (e (1 - k)) := by
  match k, hk with
  | 0, _ => exact h.two
  | 1, _ => exact h.two.swap
theorem two_back {T' : Nat → Prop} {k : Nat} (hk : k < 2) {e' : En} (h : Two T' W' (V.b k) e' (V.b (1 - k)) (e (1 - k))) : Two T' W' (V.b 0) (upd e k e' 0) (V.b 1) (upd e k e' 1) := by
  match k, hk with
  | 0, _ => exact h
  | 1, _ => exact h.swap
/-- What only makes new blocks keeps the line. -/
theorem own_keep {B m : Nat} {t : TypeId} {v : Value} {xs : List Value} (h : W.ownsRow B t 1 v m xs) (hk : ∀ g cur, v.ownBlock = some g → W.heap[g]? = some (.cells cur t (0, 0)) → W'.heap[g]? = some (.cells cur t (0, 0))) : W'.ownsRow B t 1 v m xs := by
  refine ⟨h.1, ?_⟩
  rcases h.2 with h0 | ⟨g, cap, cur, e1, e2, e3, e4⟩
  · exact .inl h0
  · exact .inr ⟨g, cap, cur, e1, e2, hk g cur (by rw [e1]; rfl) e3, e4⟩
/-- The blocks of T are kept; the ends may have moved. -/
theorem LnB.fr {T' : Nat → Prop} {e' : Nat → En} (h : LnB w0 T W x V e U n c) (hf : Fr T W W') (hT : ∀ k, T k → T' k) (ht : Two T' W' (V.b 0) (e' 0) (V.b 1) (e' 1)) (hl : Low T' W') : LnB w0 T' W' x V e' U n c :=
  { blk := (hf.block x h.xT).trans h.blk, two := ht, low := hl, sub := fun k hk => hT k (h.sub k hk), bel := h.bel.trans (hf.below h.sub), xT := hT x h.xT, x1 := h.x1
    tu := fun k hk => (h.tu k hk).keep (fun g _ hg ho => ⟨hT g hg, (hf.block g hg).trans ho⟩)
    rp := fun k hk => ⟨own_keep (h.rp k hk).1 (fun g _ hg ho => (hf.block g ((h.rp k hk).2 g hg)).trans ho), fun g hg => hT g ((h.rp k hk).2 g hg)⟩
    rc := fun k hk => ⟨own_keep (h.rc k hk).1 (fun g _ hg ho => (hf.block g ((h.rc k hk).2 g hg)).trans ho), fun g hg => hT g ((h.rc k hk).2 g hg)⟩
    dpp := h.dpp, dcc := h.dcc, dpc := h.dpc }
theorem LnB.nw (h : LnB w0 T W x V e U n c) (hb : Below W.heap.size W W') : LnB w0 (Nw T W W') W' x V e U n c :=
  h.fr (fr_below h.low hb) (fun _ hk => .inl hk) (h.two.nw hb) (Nw.low h.low hb.size)
end
end Go.Proofs.Ytifmpcldiimdbaa
