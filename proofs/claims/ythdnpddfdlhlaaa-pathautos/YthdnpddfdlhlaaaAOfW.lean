/- of of the document: what stands in memory while a path's part is made; of a word. -/
import Derived.Test.YthdnpddfdlhlaaaACut
import Derived.Test.YthdnpddfdlhlaaaAMath4
import Derived.Test.YthdnpddfdlhlaaaBAwake
import Derived.Laws.OwnMore
namespace Go.Proofs.Ythdnpddfdlhlaaa
open Go.RowKit Go.Shelf

theorem own_neO {w : World} {B n b : Nat} {e t : TypeId} {size : Nat} {v : Value} {xs : List Value} {cs : Array Value} {fz : Nat × Nat} (h : w.ownsRow B e size v n xs) (hb : w.heap[b]? = some (.cells cs t fz)) (hne : e ≠ t) : v.ownBlock ≠ some b := by
  intro hv
  rcases h.2 with ⟨rfl, _⟩ | ⟨g, cap, cur, rfl, _, e3, _⟩
  · simp [Value.ownBlock] at hv
  · have : g = b := by simpa [Value.ownBlock] using hv
    subst this
    rw [hb] at e3
    injection e3 with e3
    injection e3 with _ e4
    exact hne e4.symm
theorem rows_neO {w : World} {B B' n n' : Nat} {e t : TypeId} {s s' : Nat} {v v' : Value} {xs xs' : List Value} (h : w.ownsRow B e s v n xs) (h' : w.ownsRow B' t s' v' n' xs') (hne : e ≠ t) : v.ownBlock = none ∨ v.ownBlock ≠ v'.ownBlock := by
  rcases h.2 with ⟨rfl, _⟩ | ⟨g, cap, cur, rfl, _, e3, _⟩
  · exact .inl rfl
  · refine .inr (fun e4 => ?_)
    exact own_neO h' e3 (fun e5 => hne e5.symm) (by rw [← e4]; rfl)
theorem blk_grownO {w w' : World} {b : Nat} {o : Obj} {row : Option Nat} (h : w.heap[b]? = some o) (hg : w.grownBy w' row) (hne : row ≠ some b) : w'.heap[b]? = some o :=
  (hg.block b (lt_of_block h) (fun e => hne e.symm)).trans h

theorem own_mono {w : World} {B B' : Nat} {e : TypeId} {size : Nat} {v : Value} {n : Nat} {xs : List Value} (h : w.ownsRow B e size v n xs) (hb : B' ≤ B) : w.ownsRow B' e size v n xs := by
  refine ⟨h.1, ?_⟩
  rcases h.2 with h0 | ⟨g, cap, cur, e1, e2, e3⟩
  · exact .inl h0
  · exact .inr ⟨g, cap, cur, e1, Nat.le_trans hb e2, e3⟩
abbrev zs (l : List Nat) : List Int := l.map fun (x : Nat) => (x : Int)
abbrev zp (l : List (Nat × Nat)) : List (Int × Int) := l.map fun (p : Nat × Nat) => ((p.1 : Int), (p.2 : Int))
theorem zp_cross (a b : List Nat) : zp (cross a b) = crossI (zs a) (zs b) := by
  simp [zp, zs, cross, crossI, List.map_flatMap, List.flatMap_map]
  rfl
theorem zs_len (l : List Nat) : (zs l).length = l.length := by simp [zs]
theorem zp_len (l : List (Nat × Nat)) : (zp l).length = l.length := by simp [zp]

/-- Four rows: what they are, and what lies in them. -/
structure R4 where
  wv : Value
  fv : Value
  lv : Value
  pv : Value
  ws : List Wd
  fs : List Nat
  ls : List Nat
  ps : List (Nat × Nat)
structure Own4 (B : Nat) (u : World) (r : R4) : Prop where
  w : u.ownsRow B 9 1 r.wv r.ws.length (r.ws.flatMap csT)
  f : u.ownsRow B 3 1 r.fv r.fs.length ((zs r.fs).flatMap csZ)
  l : u.ownsRow B 3 1 r.lv r.ls.length ((zs r.ls).flatMap csZ)
  p : u.ownsRow B 71 2 r.pv r.ps.length ((zp r.ps).flatMap csP)
theorem Own4.below {B : Nat} {w w' : World} {r : R4} (h : Own4 B w r) (hb : Below w.heap.size w w') : Own4 B w' r := ⟨owns_below h.w hb, owns_below h.f hb, owns_below h.l hb, owns_below h.p hb⟩
theorem Own4.mono {B B' : Nat} {w : World} {r : R4} (h : Own4 B w r) (hb : B' ≤ B) : Own4 B' w r := ⟨own_mono h.w hb, own_mono h.f hb, own_mono h.l hb, own_mono h.p hb⟩
theorem Own4.set {B : Nat} {w : World} {r : R4} (h : Own4 B w r) {b i : Nat} (hb : b < B) (v : Value) : Own4 B (w.setCell ⟨b, i, none⟩ v) r := by
  have key : ∀ {e : TypeId} {size n : Nat} {x : Value} {xs : List Value}, w.ownsRow B e size x n xs → (w.setCell ⟨b, i, none⟩ v).ownsRow B e size x n xs := fun h => owns_key h (fun g o hg ho => (Below.heap_setCell _ _ _ _ (fun e => by have := (h.lt g hg).1; have e2 : g = b := e; omega)).trans ho)
  exact ⟨key h.w, key h.f, key h.l, key h.p⟩
/-- The row of words has grown. -/
theorem Own4.growW {B : Nat} {w w' : World} {r : R4} (h : Own4 B w r) (hg : w.grownBy w' r.wv.ownBlock) {v : Value} {ws : List Wd} (ho : w'.ownsRow B 9 1 v ws.length (ws.flatMap csT)) : Own4 B w' { r with wv := v, ws := ws } :=
  ⟨ho, h.f.kept hg (rows_neO h.f h.w (by decide)), h.l.kept hg (rows_neO h.l h.w (by decide)), h.p.kept hg (rows_neO h.p h.w (by decide))⟩
/-- The row of pairs has grown. -/
theorem Own4.growP {B : Nat} {w w' : World} {r : R4} (h : Own4 B w r) (hg : w.grownBy w' r.pv.ownBlock) {v : Value} {ps : List (Nat × Nat)} (ho : w'.ownsRow B 71 2 v ps.length ((zp ps).flatMap csP)) : Own4 B w' { r with pv := v, ps := ps } :=
  ⟨h.w.kept hg (rows_neO h.w h.p (by decide)), h.f.kept hg (rows_neO h.f h.p (by decide)), h.l.kept hg (rows_neO h.l h.p (by decide)), ho⟩

/-- The document's maker of parts in the midst: its path at its box, its result, its part at a box, its rows. -/
structure XS (w W : World) (k : Int) (wd : Wd) (v c0 c1 c2 c3 : Value) (e : Bool) (r : R4) : Prop where
  bel : Below w.heap.size w W
  box : W.heap[w.heap.size]? = some (.cells #[.int .i64 k, .string ⟨wd.toArray⟩, v] 24 (0, 0))
  res : W.heap[w.heap.size + 1]? = some (.cells #[.slice none 0 0, .slice none 0 0, .slice none 0 0, .slice none 0 0, .bool false] 68 (0, 0))
  x : W.heap[w.heap.size + 1 + 1]? = some (.cells #[c0, c1, c2, c3, .bool e] 68 (0, 0))
  own : Own4 (w.heap.size + 3) W r
section
variable {w W W' : World} {k : Int} {wd : Wd} {v c0 c1 c2 c3 : Value} {e : Bool} {r : R4}
theorem XS.lt (h : XS w W k wd v c0 c1 c2 c3 e r) : w.heap.size + 3 ≤ W.heap.size := lt_of_block h.x
theorem XS.below (h : XS w W k wd v c0 c1 c2 c3 e r) (hb : Below W.heap.size W W') : XS w W' k wd v c0 c1 c2 c3 e r :=
  ⟨h.bel.trans (hb.mono h.bel.size), (hb.block _ (lt_of_block h.box)).trans h.box, (hb.block _ (lt_of_block h.res)).trans h.res, (hb.block _ (lt_of_block h.x)).trans h.x, h.own.below hb⟩
theorem XS.growW (h : XS w W k wd v c0 c1 c2 c3 e r) (hg : W.grownBy W' r.wv.ownBlock) {u : Value} {ws : List Wd} (ho : W'.ownsRow (w.heap.size + 3) 9 1 u ws.length (ws.flatMap csT)) : XS w W' k wd v c0 c1 c2 c3 e { r with wv := u, ws := ws } :=
  ⟨h.bel.grown hg h.bel.size (fun g hg => by have := (h.own.w.lt g hg).1; omega), blk_grownO h.box hg (own_neO h.own.w h.box (by decide)), blk_grownO h.res hg (own_neO h.own.w h.res (by decide)), blk_grownO h.x hg (own_neO h.own.w h.x (by decide)), h.own.growW hg ho⟩
theorem XS.growP (h : XS w W k wd v c0 c1 c2 c3 e r) (hg : W.grownBy W' r.pv.ownBlock) {u : Value} {ps : List (Nat × Nat)} (ho : W'.ownsRow (w.heap.size + 3) 71 2 u ps.length ((zp ps).flatMap csP)) : XS w W' k wd v c0 c1 c2 c3 e { r with pv := u, ps := ps } :=
  ⟨h.bel.grown hg h.bel.size (fun g hg => by have := (h.own.p.lt g hg).1; omega), blk_grownO h.box hg (own_neO h.own.p h.box (by decide)), blk_grownO h.res hg (own_neO h.own.p h.res (by decide)), blk_grownO h.x hg (own_neO h.own.p h.x (by decide)), h.own.growP hg ho⟩
theorem XS.set (h : XS w W k wd v c0 c1 c2 c3 e r) {i : Nat} {u : Value} {d0 d1 d2 d3 : Value} {e' : Bool} (hx : (W.setCell ⟨w.heap.size + 1 + 1, i, none⟩ u).heap[w.heap.size + 1 + 1]? = some (.cells #[d0, d1, d2, d3, .bool e'] 68 (0, 0))) : XS w (W.setCell ⟨w.heap.size + 1 + 1, i, none⟩ u) k wd v d0 d1 d2 d3 e' r :=
  ⟨h.bel.setCell (p := ⟨w.heap.size + 1 + 1, i, none⟩) (by simp; omega) u, (Below.heap_setCell _ _ _ _ (by simp; omega)).trans h.box, (Below.heap_setCell _ _ _ _ (by simp)).trans h.res, hx, h.own.set (by omega) u⟩
theorem XS.set0 (h : XS w W k wd v c0 c1 c2 c3 e r) (u : Value) : XS w (W.setCell ⟨w.heap.size + 1 + 1, 0, none⟩ u) k wd v u c1 c2 c3 e r := h.set (by simp [World.setCell, Array.getElem?_modify, h.x])
theorem XS.set1 (h : XS w W k wd v c0 c1 c2 c3 e r) (u : Value) : XS w (W.setCell ⟨w.heap.size + 1 + 1, 1, none⟩ u) k wd v c0 u c2 c3 e r := h.set (by simp [World.setCell, Array.getElem?_modify, h.x])
theorem XS.set2 (h : XS w W k wd v c0 c1 c2 c3 e r) (u : Value) : XS w (W.setCell ⟨w.heap.size + 1 + 1, 2, none⟩ u) k wd v c0 c1 u c3 e r := h.set (by simp [World.setCell, Array.getElem?_modify, h.x])
theorem XS.set3 (h : XS w W k wd v c0 c1 c2 c3 e r) (u : Value) : XS w (W.setCell ⟨w.heap.size + 1 + 1, 3, none⟩ u) k wd v c0 c1 c2 u e r := h.set (by simp [World.setCell, Array.getElem?_modify, h.x])
theorem XS.set4 (h : XS w W k wd v c0 c1 c2 c3 e r) (b : Bool) : XS w (W.setCell ⟨w.heap.size + 1 + 1, 4, none⟩ (.bool b)) k wd v c0 c1 c2 c3 b r := h.set (by simp [World.setCell, Array.getElem?_modify, h.x])
theorem XS.rowF (h : XS w W k wd v c0 c1 c2 c3 e r) {u : Value} {fs : List Nat} (ho : W.ownsRow (w.heap.size + 3) 3 1 u fs.length ((zs fs).flatMap csZ)) : XS w W k wd v c0 c1 c2 c3 e { r with fv := u, fs := fs } := ⟨h.bel, h.box, h.res, h.x, ⟨h.own.w, ho, h.own.l, h.own.p⟩⟩
theorem XS.rowL (h : XS w W k wd v c0 c1 c2 c3 e r) {u : Value} {ls : List Nat} (ho : W.ownsRow (w.heap.size + 3) 3 1 u ls.length ((zs ls).flatMap csZ)) : XS w W k wd v c0 c1 c2 c3 e { r with lv := u, ls := ls } := ⟨h.bel, h.box, h.res, h.x, ⟨h.own.w, h.own.f, ho, h.own.p⟩⟩
theorem XS.rowP (h : XS w W k wd v c0 c1 c2 c3 e r) {u : Value} {ps : List (Nat × Nat)} (ho : W.ownsRow (w.heap.size + 3) 71 2 u ps.length ((zp ps).flatMap csP)) : XS w W k wd v c0 c1 c2 c3 e { r with pv := u, ps := ps } := ⟨h.bel, h.box, h.res, h.x, ⟨h.own.w, h.own.f, h.own.l, ho⟩⟩
end
/-- A kid's part at a box, and its rows but for the words. -/
structure YS (W : World) (lo yb : Nat) (e : Bool) (r : R4) : Prop where
  y : W.heap[yb]? = some (.cells #[r.wv, r.fv, r.lv, r.pv, .bool e] 68 (0, 0))
  ge : lo ≤ yb
  f : W.ownsRow lo 3 1 r.fv r.fs.length ((zs r.fs).flatMap csZ)
  l : W.ownsRow lo 3 1 r.lv r.ls.length ((zs r.ls).flatMap csZ)
  p : W.ownsRow lo 71 2 r.pv r.ps.length ((zp r.ps).flatMap csP)
section
variable {W W' : World} {lo yb : Nat} {e : Bool} {r : R4}
theorem YS.below (h : YS W lo yb e r) (hb : Below W.heap.size W W') : YS W' lo yb e r := ⟨(hb.block _ (lt_of_block h.y)).trans h.y, h.ge, owns_below h.f hb, owns_below h.l hb, owns_below h.p hb⟩
theorem YS.growW (h : YS W lo yb e r) {B n : Nat} {u : Value} {xs : List Value} (ho : W.ownsRow B 9 1 u n xs) (hg : W.grownBy W' u.ownBlock) : YS W' lo yb e r :=
  ⟨blk_grownO h.y hg (own_neO ho h.y (by decide)), h.ge, h.f.kept hg (rows_neO h.f ho (by decide)), h.l.kept hg (rows_neO h.l ho (by decide)), h.p.kept hg (rows_neO h.p ho (by decide))⟩
theorem YS.growP (h : YS W lo yb e r) {B n : Nat} {u : Value} {xs : List Value} (ho : W.ownsRow B 71 2 u n xs) (hg : W.grownBy W' u.ownBlock) (hne : r.pv.ownBlock = none ∨ r.pv.ownBlock ≠ u.ownBlock) : YS W' lo yb e r :=
  ⟨blk_grownO h.y hg (own_neO ho h.y (by decide)), h.ge, h.f.kept hg (rows_neO h.f ho (by decide)), h.l.kept hg (rows_neO h.l ho (by decide)), h.p.kept hg hne⟩
theorem YS.set (h : YS W lo yb e r) {b i : Nat} (hb : b < lo) (v : Value) : YS (W.setCell ⟨b, i, none⟩ v) lo yb e r := by
  have key : ∀ {t : TypeId} {size n : Nat} {x : Value} {xs : List Value}, W.ownsRow lo t size x n xs → (W.setCell ⟨b, i, none⟩ v).ownsRow lo t size x n xs := fun h => owns_key h (fun g o hg ho => (Below.heap_setCell _ _ _ _ (fun e => by have := (h.lt g hg).1; have e2 : g = b := e; omega)).trans ho)
  exact ⟨(Below.heap_setCell _ _ _ _ (fun e => by have := h.ge; have e2 : yb = b := e; omega)).trans h.y, h.ge, key h.f, key h.l, key h.p⟩
end
def RP (r : R4) (p : Prt) : Prop := r.ws = p.words ∧ r.fs = p.first ∧ r.ls = p.last ∧ r.ps = p.pairs
/-- How long the lists of a part are at most. -/
def LimP (p : Prt) : Prop := p.words.length ≤ 1000 ∧ p.first.length ≤ 1000 ∧ p.last.length ≤ 1000 ∧ p.pairs.length ≤ 100000
theorem up_len (n : Nat) (l : List Nat) : (up n l).length = l.length := by simp [up]
theorem upP_len (n : Nat) (l : List (Nat × Nat)) : (upP n l).length = l.length := by simp [upP]
/-- What the kinds 4 to 6 do at the end. -/
def finK (k : Int) (p : Prt) : Prt := if k = 4 then mayC2 (loopC p) else if k = 5 then loopC p else if k = 6 then mayC2 p else p
theorem three_cellsO {w : World} {b : Nat} {c0 c1 c2 : Value} {t : TypeId} (h : w.heap[b]? = some (.cells #[c0, c1, c2] t (0, 0))) :
    (w.cell? ⟨b, 0, none⟩ = some c0 ∧ w.cell? ⟨b, 1, none⟩ = some c1 ∧ w.cell? ⟨b, 2, none⟩ = some c2) ∧ (w.frozen? ⟨b, 0, none⟩ = false ∧ w.frozen? ⟨b, 1, none⟩ = false ∧ w.frozen? ⟨b, 2, none⟩ = false) := by
  simp [World.cell?, World.frozen?, h]
theorem own_lit {W : World} {B g n size : Nat} {e : TypeId} {cs : Array Value} (h : W.heap[g]? = some (.cells cs e (0, 0))) (hB : B ≤ g) (hm : n ≤ maxLen) (hs : cs.size = n * size) : W.ownsRow B e size (.slice (some ⟨g, 0, none⟩) n n) n cs.toList := by
  refine ⟨by simp [hs], .inr ⟨g, n, cs, rfl, hB, h, Nat.le_refl _, hm, hs, ?_⟩⟩
  rw [← hs]
  exact List.take_length
theorem zp_append (a b : List (Nat × Nat)) : zp (a ++ b) = zp a ++ zp b := List.map_append
theorem csT_lenO (x : Wd) : (csT x).length = 1 := rfl
theorem one_csTO (L : List Wd) : ∀ u ∈ L.flatMap csT, u.oneCell' = true := by
  intro u hu
  obtain ⟨x, _, h⟩ := List.mem_flatMap.1 hu
  simp at h
  subst h
  rfl
theorem zrow {w : World} {B B' n : Nat} {v : Value} {a b : List Nat} (h : w.ownsRow B 3 1 v n ((zs a ++ zs b).flatMap csZ)) (hn : n = (zs a ++ zs b).length) (hb : B' ≤ B) : w.ownsRow B' 3 1 v (a ++ b).length ((zs (a ++ b)).flatMap csZ) := by
  have e : (a ++ b).length = n := by rw [hn]; simp [zs]
  rw [e, zs, List.map_append]
  exact own_mono h hb
theorem prow {w : World} {B B' n : Nat} {v : Value} {a : List (Nat × Nat)} {b c : List Nat} (h : w.ownsRow B 71 2 v n ((zp a ++ crossI (zs b) (zs c)).flatMap csP)) (hn : n = (zp a ++ crossI (zs b) (zs c)).length) (hb : B' ≤ B) : w.ownsRow B' 71 2 v (a ++ cross b c).length ((zp (a ++ cross b c)).flatMap csP) := by
  rw [← zp_cross] at h hn
  have e : (a ++ cross b c).length = n := by rw [hn]; simp [zp]
  rw [e, zp, List.map_append]
  exact own_mono h hb
theorem Own4.set5 {B : Nat} {w : World} {r : R4} (h : Own4 B w r) {b : Nat} (hb : b < B) (c0 c1 c2 c3 c4 : Value) : Own4 B (set5P w b c0 c1 c2 c3 c4) r := by
  have key : ∀ {e : TypeId} {size n : Nat} {x : Value} {xs : List Value}, w.ownsRow B e size x n xs → (set5P w b c0 c1 c2 c3 c4).ownsRow B e size x n xs := fun h => owns_key h (fun g o hg ho => (set5P_other (fun e => by have := (h.lt g hg).1; omega) _ _ _ _ _).trans ho)
  exact ⟨key h.w, key h.f, key h.l, key h.p⟩
theorem xs_start (w : World) (k : Int) (wd : Wd) (v : Value) (e : Bool) : XS w (((w.alloc (.cells #[.int .i64 k, .string ⟨wd.toArray⟩, v] 24)).alloc (.cells #[.slice none 0 0, .slice none 0 0, .slice none 0 0, .slice none 0 0, .bool false] 68)).alloc (.cells #[.slice none 0 0, .slice none 0 0, .slice none 0 0, .slice none 0 0, .bool e] 68)) k wd v (.slice none 0 0) (.slice none 0 0) (.slice none 0 0) (.slice none 0 0) e ⟨.slice none 0 0, .slice none 0 0, .slice none 0 0, .slice none 0 0, [], [], [], []⟩ := by
  refine ⟨(((Below.refl _ _).alloc (Nat.le_refl _) _).alloc (by simp) _).alloc (by simp; omega) _, ?_, ?_, ?_, ⟨World.ownsRow_nil _ _ _ _, World.ownsRow_nil _ _ _ _, World.ownsRow_nil _ _ _ _, World.ownsRow_nil _ _ _ _⟩⟩
  · exact get_at [_, _, _] w 0 (by simp)
  · exact get_at [_, _, _] w 1 (by simp)
  · exact get_at [_, _, _] w 2 (by simp)
/-- What of answers, of one path. -/
def OfC (N : Nat) (x : Vt) : Prop := ∀ (w : World) (n : Nat), n ≤ N → VOk (fun _ => True) w x → Calls Try.prog 33 #[encN x, .int .i64 (n : Int)] w fun e w' => ∃ r : R4, e = .returned (.agg #[r.wv, r.fv, r.lv, r.pv, .bool (prtOf x.pt).empty]) ∧ RP r (shift n (prtOf x.pt)) ∧ Own4 w.heap.size w' r ∧ Below w.heap.size w w'
set_option maxHeartbeats 2000000 in
set_option maxRecDepth 100000 in
theorem rOf_word {N : Nat} {wd : Wd} {v : Value} {l : List Vt} : OfC N ⟨1, wd, v, l⟩ := by
  intro w n hn hok
  obtain ⟨ao, cap, hv⟩ := hok.parts.1.slice
  dsimp only at hv
  subst hv
  clear hok
  obtain ⟨P, hP⟩ : ∃ P, P = prtOf (Vt.pt ⟨1, wd, .slice ao l.length cap, l⟩) := ⟨_, rfl⟩
  rw [← hP]
  have HP : Hid (P = ⟨[wd], [0], [0], [], false⟩) := Hid.mk (by rw [hP, Vt.pt_mk, prtOf_mk, kindC, if_pos rfl])
  clear hP
  have HE : Hid (∃ r : R4, Ending.returned (Value.agg #[.slice (some ⟨w.heap.size + 1 + 1, 0, none⟩) 1 1, .slice (some ⟨w.heap.size + 1 + 1 + 1, 0, none⟩) 1 1, .slice (some ⟨w.heap.size + 1 + 1 + 1 + 1, 0, none⟩) 1 1, .slice none 0 0, .bool false]) = .returned (.agg #[r.wv, r.fv, r.lv, r.pv, .bool P.empty]) ∧ RP r (shift n P) ∧ Own4 w.heap.size (((((w.alloc (.cells #[.int .i64 1, .string ⟨wd.toArray⟩, .slice ao l.length cap] 24)).alloc (.cells #[.slice (some ⟨w.heap.size + 1 + 1, 0, none⟩) 1 1, .slice (some ⟨w.heap.size + 1 + 1 + 1, 0, none⟩) 1 1, .slice (some ⟨w.heap.size + 1 + 1 + 1 + 1, 0, none⟩) 1 1, .slice none 0 0, .bool false] 68)).alloc (.cells #[.string ⟨wd.toArray⟩] 9)).alloc (.cells #[.int .i64 (n : Int)] 3)).alloc (.cells #[.int .i64 (n : Int)] 3)) r ∧ Below w.heap.size w (((((w.alloc (.cells #[.int .i64 1, .string ⟨wd.toArray⟩, .slice ao l.length cap] 24)).alloc (.cells #[.slice (some ⟨w.heap.size + 1 + 1, 0, none⟩) 1 1, .slice (some ⟨w.heap.size + 1 + 1 + 1, 0, none⟩) 1 1, .slice (some ⟨w.heap.size + 1 + 1 + 1 + 1, 0, none⟩) 1 1, .slice none 0 0, .bool false] 68)).alloc (.cells #[.string ⟨wd.toArray⟩] 9)).alloc (.cells #[.int .i64 (n : Int)] 3)).alloc (.cells #[.int .i64 (n : Int)] 3))) := Hid.mk (by
    rw [HP.out]
    refine ⟨⟨_, _, _, _, [wd], [n], [n], []⟩, rfl, ⟨rfl, by simp [shift, up], by simp [shift, up], rfl⟩, ⟨?_, ?_, ?_, World.ownsRow_nil _ _ _ _⟩, ((((((Below.refl _ _).alloc (Nat.le_refl _) _).alloc (by simp) _).alloc (by simp; omega) _).alloc (by simp; omega) _).alloc (by simp; omega) _)⟩
    · exact own_lit (n := 1) (size := 1) (cs := #[.string ⟨wd.toArray⟩]) (get_at [_, _, _, _, _] w 2 (by simp)) (by omega) (by decide) rfl
    · exact own_lit (n := 1) (size := 1) (cs := #[.int .i64 (n : Int)]) (get_at [_, _, _, _, _] w 3 (by simp)) (by omega) (by decide) rfl
    · exact own_lit (n := 1) (size := 1) (cs := #[.int .i64 (n : Int)]) (get_at [_, _, _, _, _] w 4 (by simp)) (by omega) (by decide) rfl)
  go_enter Try.func33, Try.ntmps33
  go_wp2
  refine bodyPost_ret (v := .agg #[.slice (some ⟨w.heap.size + 1 + 1, 0, none⟩) 1 1, .slice (some ⟨w.heap.size + 1 + 1 + 1, 0, none⟩) 1 1, .slice (some ⟨w.heap.size + 1 + 1 + 1 + 1, 0, none⟩) 1 1, .slice none 0 0, .bool false]) ?_ rfl HE.out
  simp [results, Try.results33, go_sem]
end Go.Proofs.Ythdnpddfdlhlaaa
