/- Of of the document, of any path; PathAutos. -/
import Derived.Test.YthdnpddfdlhlaaaAOfA
import Derived.Test.YthdnpddfdlhlaaaAOfQ
import Derived.Test.YthdnpddfdlhlaaaBAddI
import Derived.Test.YthdnpddfdlhlaaaQRTree
import Derived.Test.YthdnpddfdlhlaaaBOf
import Derived.Test.YthdnpddfdlhlaaaBLaw
import Derived.Test.YthdnpddfdlhlaaaQOpen
namespace Go.Proofs.Ythdnpddfdlhlaaa
open Go.RowKit Go.Shelf

theorem limP_of {d : Nat} {p : Prt} (h : Lim d p) (hd : d ≤ 12) (hw : p.words.length ≤ 24) : LimP p := by
  have h1 : d * (p.words.length * p.words.length) ≤ 12 * (24 * 24) := Nat.mul_le_mul hd (Nat.mul_le_mul hw hw)
  have := h.1
  have := h.2.1
  have := h.2.2
  exact ⟨by omega, by omega, by omega, by omega⟩
theorem sum_take_le : ∀ (L : List Nat) (i : Nat), (L.take i).sum ≤ L.sum
  | [], i => by simp
  | x :: L, 0 => by simp
  | x :: L, i + 1 => by
    have := sum_take_le L i
    simp only [List.take_succ_cons, List.sum_cons]
    omega
/-- A path's part up to which kid it has come. -/
def preP (C : Prt → Prt → Prt) (e : Bool) (l : List Vt) (i : Nat) : Prt := ((l.map fun x => prtOf x.pt).take i).foldl C (prt0 e)
theorem preP_words {C : Prt → Prt → Prt} (hC : ∀ x y, (C x y).words = x.words ++ y.words) (e : Bool) (l : List Vt) (i : Nat) : (preP C e l i).words.length ≤ (l.map fun x => leaves x.pt).sum := by
  unfold preP
  rw [fold_words hC]
  show ([] ++ _).length ≤ _
  rw [List.nil_append, List.length_flatten, List.map_map, List.map_take, List.map_map]
  refine Nat.le_trans (sum_take_le _ i) (Nat.le_of_eq ?_)
  congr 1
  refine List.map_congr_left (fun x _ => ?_)
  exact (prt_words x.pt).2
theorem preP_succ {C : Prt → Prt → Prt} {e : Bool} {l : List Vt} {i : Nat} {x : Vt} (hx : l[i]? = some x) : preP C e l (i + 1) = C (preP C e l i) (prtOf x.pt) :=
  foldl_take (by rw [List.getElem?_map, hx]; rfl)
theorem preP_all (C : Prt → Prt → Prt) (e : Bool) (l : List Vt) : preP C e l l.length = ((l.map Vt.pt).map prtOf).foldl C (prt0 e) := by
  unfold preP
  rw [List.take_of_length_le (by simp), List.map_map]
  rfl
/-- of of the document. -/
theorem rOf_any : ∀ (t : Vt) (d : Nat), d ≤ 12 → shapedP d t.pt = true → leaves t.pt ≤ 24 → OfC (1000000 - 1000 * d) t := by
  apply Vt.ind
  intro k wd v l ih d hd hsh hlv
  cases d with
  | zero => simp [shapedP] at hsh
  | succ d =>
    rw [Vt.pt_mk] at hsh hlv
    rw [shapedP, Bool.and_eq_true, Bool.and_eq_true, List.all_eq_true, decide_eq_true_eq, List.length_map] at hsh
    obtain ⟨⟨hfo, h24⟩, hk⟩ := hsh
    have hN : 1000000 - 1000 * (d + 1) + 1000 = 1000000 - 1000 * d := by omega
    by_cases k1 : k = 1
    · subst k1
      exact rOf_word
    have hkx : ∀ x ∈ l, leaves x.pt ≤ 24 := fun x hx => Nat.le_trans (leaves_kid k1 (List.mem_map_of_mem hx)) hlv
    have hsum : (l.map fun x => leaves x.pt).sum ≤ 24 := by
      rw [leaves_mk, if_neg k1, List.map_map] at hlv
      exact hlv
    have hkids : ∀ x ∈ l, OfC (1000000 - 1000 * (d + 1) + 1000) x := fun x hx => by
      rw [hN]
      exact ih x hx d (by omega) (hk x.pt (List.mem_map_of_mem hx)) (hkx x hx)
    have hkl : ∀ x ∈ l, Lim d (prtOf x.pt) := fun x hx => prt_lim x.pt d (hk x.pt (List.mem_map_of_mem hx))
    have hlk : ∀ x ∈ l, LimP (prtOf x.pt) := fun x hx => limP_of (hkl x hx) (by omega) (by rw [(prt_words x.pt).2]; exact hkx x hx)
    have hps : ∀ i, ∀ p ∈ (l.map fun x => prtOf x.pt).take i, Lim d p := fun i p hp => by
      obtain ⟨x, hx, rfl⟩ := List.mem_map.1 (List.mem_of_mem_take hp)
      exact hkl x hx
    have hkind : k = 2 ∨ k = 3 ∨ k = 4 ∨ k = 5 ∨ k = 6 := by
      rcases formed_cases hfo with ⟨h, _⟩ | ⟨h, _⟩ | ⟨h, _⟩ | ⟨h, _⟩ | ⟨h, _⟩ | ⟨h, _⟩ <;> omega
    by_cases k2 : k = 2
    · subst k2
      refine rOf_seq (by omega) hkids (preP seqC true l) rfl (fun i x hx => preP_succ hx) (fun i _ => limP_of (lim_seqs _ _ (lim_zero _ _) (hps i)) hd (Nat.le_trans (preP_words (fun _ _ => rfl) _ _ _) hsum)) hlk _ ?_ rfl
      rw [Vt.pt_mk, prtOf_mk, preP_all, kindC, if_neg (by decide), if_pos rfl]
    · refine rOf_oth (by omega) (by omega) hkids (preP altC false l) rfl (fun i x hx => preP_succ hx) (fun i _ => limP_of (lim_alts _ _ (lim_zero _ _) (hps i)) (by omega) (Nat.le_trans (preP_words (fun _ _ => rfl) _ _ _) hsum)) hlk _ ?_ rfl
      rw [Vt.pt_mk, prtOf_mk, preP_all]
      rcases hkind with h | h | h | h | h
      · exact absurd h k2
      all_goals (subst h; simp [kindC, finK])
end Go.Proofs.Ythdnpddfdlhlaaa

namespace Go.Proofs.Ythdnpddfdlhlaaa
open Go.RowKit Go.Shelf

theorem own_set5 {w : World} {B n b : Nat} {e t : TypeId} {size : Nat} {v : Value} {xs : List Value} {cs : Array Value} {fz : Nat × Nat} (h : w.ownsRow B e size v n xs) (hb : w.heap[b]? = some (.cells cs t fz)) (hne : e ≠ t) (c0 c1 c2 c3 c4 : Value) : (set5P w b c0 c1 c2 c3 c4).ownsRow B e size v n xs :=
  owns_key h (fun g o hg ho => (set5P_other (fun e2 => own_neO h hb hne (by rw [hg, e2])) _ _ _ _ _).trans ho)
theorem own_setC {w : World} {B n b i : Nat} {e t : TypeId} {size : Nat} {v : Value} {xs : List Value} {cs : Array Value} {fz : Nat × Nat} (h : w.ownsRow B e size v n xs) (hb : w.heap[b]? = some (.cells cs t fz)) (hne : e ≠ t) (u : Value) : (w.setCell ⟨b, i, none⟩ u).ownsRow B e size v n xs :=
  owns_key h (fun g o hg ho => (Below.heap_setCell _ _ _ _ (fun e2 => own_neO h hb hne (by rw [hg, show g = b from e2]))).trans ho)
theorem blk_ne {w : World} {a b : Nat} {cs cs' : Array Value} {t t' : TypeId} {f f' : Nat × Nat} (h : w.heap[a]? = some (.cells cs t f)) (h' : w.heap[b]? = some (.cells cs' t' f')) (hne : t ≠ t') : a ≠ b := by
  intro e
  rw [e, h'] at h
  injection h with h
  injection h with _ h2
  exact hne h2.symm
theorem rise_zs (n : Nat) (l : List Nat) : riseI n (zs l) = rise n l := by
  unfold riseI rise
  congr 1
  refine List.filter_congr (fun k _ => ?_)
  have : ((k : Int) ∈ zs l) ↔ k ∈ l := by
    simp only [zs, List.mem_map]
    constructor
    · rintro ⟨x, hx, e⟩
      have : x = k := by omega
      rw [← this]
      exact hx
    · exact fun h => ⟨k, h, rfl⟩
  simp [this]
theorem folN_succ {ps : List (Nat × Nat)} {j k : Nat} {a b : Nat} (h : ps[j]? = some (a, b)) : folN (ps.take (j + 1)) k = folN (ps.take j) k ++ (if a = k then [b] else []) := by
  unfold folN
  rw [List.take_add_one, h]
  by_cases e : a = k
  · simp [e]
  · simp [e]
theorem zs_append (a b : List Nat) : zs (a ++ b) = zs a ++ zs b := List.map_append
theorem folN_len (ps : List (Nat × Nat)) (k : Nat) : (folN ps k).length ≤ ps.length := by
  unfold folN
  rw [List.length_map]
  exact List.length_filter_le _ _

/-- The document's maker of automata in the midst. -/
structure ZS (w W : World) (xb ab : Nat) (em : Bool) (r : R4) (fv lv c3 u : Value) (F L : List Int) (os : List (Value × List Int)) : Prop where
  bel : Below w.heap.size w W
  res : W.heap[w.heap.size + 1]? = some (.cells #[.slice none 0 0, .slice none 0 0, .slice none 0 0, .slice none 0 0, .bool false] 31 (0, 0))
  x : W.heap[xb]? = some (.cells #[r.wv, r.fv, r.lv, r.pv, .bool em] 68 (0, 0))
  a : W.heap[ab]? = some (.cells #[r.wv, fv, lv, c3, .bool em] 31 (0, 0))
  alo : w.heap.size + 2 ≤ ab
  ow : W.ownsRow (w.heap.size + 2) 9 1 r.wv r.ws.length (r.ws.flatMap csT)
  op : W.ownsRow (w.heap.size + 2) 71 2 r.pv r.ps.length ((zp r.ps).flatMap csP)
  of : W.ownsRow (w.heap.size + 2) 3 1 fv F.length (F.flatMap csZ)
  ol : W.ownsRow (w.heap.size + 2) 3 1 lv L.length (L.flatMap csZ)
  oo : W.ownsRow (w.heap.size + 2) 28 1 u os.length (os.flatMap csW)
  os : ∀ p ∈ os, W.ownsRow (w.heap.size + 2) 3 1 p.1 p.2.length (p.2.flatMap csZ)
section
variable {w W W' : World} {xb ab : Nat} {em : Bool} {r : R4} {fv lv c3 u : Value} {F L : List Int} {os : List (Value × List Int)}
theorem ZS.below (h : ZS w W xb ab em r fv lv c3 u F L os) (hb : Below W.heap.size W W') : ZS w W' xb ab em r fv lv c3 u F L os :=
  ⟨h.bel.trans (hb.mono h.bel.size), (hb.block _ (lt_of_block h.res)).trans h.res, (hb.block _ (lt_of_block h.x)).trans h.x, (hb.block _ (lt_of_block h.a)).trans h.a, h.alo, owns_below h.ow hb, owns_below h.op hb, owns_below h.of hb, owns_below h.ol hb, owns_below h.oo hb, fun p hp => owns_below (h.os p hp) hb⟩
theorem ZS.lt (h : ZS w W xb ab em r fv lv c3 u F L os) : w.heap.size + 2 ≤ W.heap.size := lt_of_block h.res
theorem ZS.grow (h : ZS w W xb ab em r fv lv c3 u F L os) (hg : W.grownBy W' u.ownBlock) {v : Value} {p : Value × List Int} (ho : W'.ownsRow (w.heap.size + 2) 28 1 v (os ++ [p]).length ((os ++ [p]).flatMap csW)) (hp : W.ownsRow (w.heap.size + 2) 3 1 p.1 p.2.length (p.2.flatMap csZ)) : ZS w W' xb ab em r fv lv c3 v F L (os ++ [p]) :=
  ⟨h.bel.grown hg h.bel.size (fun g hg => by have := (h.oo.lt g hg).1; omega), blk_grownO h.res hg (own_neO h.oo h.res (by decide)), blk_grownO h.x hg (own_neO h.oo h.x (by decide)), blk_grownO h.a hg (own_neO h.oo h.a (by decide)), h.alo, h.ow.kept hg (rows_neO h.ow h.oo (by decide)), h.op.kept hg (rows_neO h.op h.oo (by decide)), h.of.kept hg (rows_neO h.of h.oo (by decide)), h.ol.kept hg (rows_neO h.ol h.oo (by decide)), ho, fun q hq => by
    rcases List.mem_append.1 hq with hq | hq
    · exact (h.os q hq).kept hg (rows_neO (h.os q hq) h.oo (by decide))
    · simp at hq
      subst hq
      exact hp.kept hg (rows_neO hp h.oo (by decide))⟩
theorem ZS.set (h : ZS w W xb ab em r fv lv c3 u F L os) (v : Value) : ZS w (W.setCell ⟨ab, 3, none⟩ v) xb ab em r fv lv v u F L os :=
  ⟨h.bel.setCell (p := ⟨ab, 3, none⟩) (by have := h.alo; show w.heap.size ≤ ab; omega) v, (Below.heap_setCell _ _ _ _ (fun e => by have := h.alo; have e2 : w.heap.size + 1 = ab := e; omega)).trans h.res, (Below.heap_setCell _ _ _ _ (fun e => blk_ne h.x h.a (by decide) e)).trans h.x, set3_at5 h.a, h.alo, own_setC h.ow h.a (by decide) v, own_setC h.op h.a (by decide) v, own_setC h.of h.a (by decide) v, own_setC h.ol h.a (by decide) v, own_setC h.oo h.a (by decide) v, fun p hp => own_setC (h.os p hp) h.a (by decide) v⟩
theorem ZS.uok (h : ZS w W xb ab em r fv lv c3 u F L os) (hw : r.ws.length ≤ 1000) (hwb : ∀ s ∈ r.ws, s.length ≤ 9223372036854775807) (hF : F.length ≤ 1000) (hL : L.length ≤ 1000) (hO : os.length ≤ 1000) (hO2 : ∀ p ∈ os, p.2.length ≤ 1000) (c0 c1 c2 c4 c5 : Value) : UOk (fun _ => True) (set5P W (w.heap.size + 1) c0 c1 c2 c4 c5) ⟨r.wv, r.ws, fv, F, lv, L, u, os, em⟩ := by
  have key : ∀ {α : Type} {enc : α → List Value} {k n : Nat} {e : TypeId} {v : Value} {L : List α}, (∀ x, (enc x).length = k) → W.ownsRow (w.heap.size + 2) e k v n (L.flatMap enc) → n = L.length → SlS enc k (fun _ => True) (set5P W (w.heap.size + 1) c0 c1 c2 c4 c5) v L := fun hk ho hn => (own_sl hk ho hn).keep (by rw [set5P_size]; exact Nat.le_refl _) (fun b hb _ => ⟨trivial, set5P_other (by have := (ho.lt b hb).1; omega) _ _ _ _ _⟩)
  exact ⟨key (fun _ => rfl) h.ow rfl, hwb, by dsimp only; omega, key csZ_len h.of rfl, by dsimp only; omega, key csZ_len h.ol rfl, by dsimp only; omega, key (fun _ => rfl) h.oo rfl, fun p hp => ⟨key csZ_len (h.os p hp) rfl, by have := hO2 p hp; omega⟩, by dsimp only; omega⟩
end
end Go.Proofs.Ythdnpddfdlhlaaa

namespace Go.Proofs.Ythdnpddfdlhlaaa
open Go.RowKit Go.Shelf

set_option maxHeartbeats 40000000 in
set_option maxRecDepth 100000 in
theorem rOfA_any {S : Nat → Prop} {w : World} {t : Vt} (h : VOk S w t) :
    Calls Try.prog 12 #[encN t] w fun e w' => ∃ m : Mu, e = .returned (.tuple #[encU m, .int .i64 (if mayP t.pt = true then 0 else 1)]) ∧ UOk (fun _ => True) w' m ∧ m.au = ofA t.pt ∧ Below w.heap.size w w' := by
  obtain ⟨ao, cap, hv⟩ := h.parts.1.slice
  have hkl := h.parts.2.2.1
  obtain ⟨P, hP⟩ : ∃ P, P = t.pt := ⟨_, rfl⟩
  rw [← hP]
  obtain ⟨b, hb⟩ : ∃ b, b = mayP P := ⟨_, rfl⟩
  have CM : Hid (∀ u, Below w.heap.size w u → Calls Try.prog 23 #[encN t] u fun e w' => e = .returned (.bool b) ∧ Below u.heap.size u w') := Hid.mk (fun u hu => by rw [hb, hP]; exact rMayPath_any (h.below hu))
  have CO : Hid (b = true → ∀ u, Below w.heap.size w u → Calls Try.prog 33 #[encN t, .int .i64 0] u fun e w' => ∃ r : R4, e = .returned (.agg #[r.wv, r.fv, r.lv, r.pv, .bool (prtOf P).empty]) ∧ RP r (prtOf P) ∧ Own4 u.heap.size w' r ∧ Below u.heap.size u w') := Hid.mk (fun h1 u hu => by
    rw [hb, hP] at h1
    simp only [mayP, Bool.and_eq_true, decide_eq_true_eq] at h1
    have h2 := rOf_any t 12 (Nat.le_refl _) h1.1 h1.2 u 0 (Nat.zero_le _) ((h.below hu).sub (fun _ _ _ => trivial))
    rw [← hP, shift_zero] at h2
    exact h2)
  have HB := Hid.mk hb
  obtain ⟨k, wd, v, l⟩ := t
  dsimp only at hv hkl
  subst hv
  obtain ⟨m, hm⟩ : ∃ n, n = l.length := ⟨_, rfl⟩
  rw [← hm] at CM CO hkl ⊢
  obtain ⟨ec, hec⟩ : ∃ e : Int, e = if mayP P = true then 0 else 1 := ⟨_, rfl⟩
  rw [← hec]
  rw [← hb] at hec
  clear h hP hb hm
  show Calls Try.prog _ #[.agg #[.int .i64 k, .string ⟨wd.toArray⟩, .slice ao m cap]] w _
  obtain ⟨W1, hW1⟩ : ∃ W, W = (w.alloc (.cells #[.int .i64 k, .string ⟨wd.toArray⟩, .slice ao m cap] 24)).alloc (.cells #[.slice none 0 0, .slice none 0 0, .slice none 0 0, .slice none 0 0, .bool false] 31) := ⟨_, rfl⟩
  have hbW : Below w.heap.size w W1 := by rw [hW1]; exact ((Below.refl _ _).alloc (Nat.le_refl _) _).alloc (by simp) _
  have hcp : W1.heap[w.heap.size]? = some (.cells #[.int .i64 k, .string ⟨wd.toArray⟩, .slice ao m cap] 24 (0, 0)) := by rw [hW1, heap_alloc_old _ _ (by simp), heap_alloc_new]
  have hcb : W1.heap[w.heap.size + 1]? = some (.cells #[.slice none 0 0, .slice none 0 0, .slice none 0 0, .slice none 0 0, .bool false] 31 (0, 0)) := by rw [hW1]; exact (by simpa using heap_alloc_new (w.alloc (.cells #[.int .i64 k, .string ⟨wd.toArray⟩, .slice ao m cap] 24)) _)
  have HW1 := Hid.mk hW1
  have HBW := Hid.mk hbW
  have HCP := Hid.mk hcp
  have HCB := Hid.mk hcb
  clear hW1 hbW hcp hcb
  cases b with
  | false =>
    have HEC : Hid (ec = 1) := Hid.mk (by rw [hec]; rfl)
    clear hec
    go_enter Try.func12, Try.ntmps12
    go_wp2_with fail
    rw [← HW1.out]
    refine (CM.out _ HBW.out).mono ?_
    rintro e w1 ⟨rfl, hb1⟩
    have e1 := (hb1.block (w.heap.size + 1) (lt_of_block HCB.out)).trans HCB.out
    obtain ⟨⟨r0, r1, r2, r3, r4⟩, ⟨x0, x1, x2, x3, x4⟩⟩ := five_cells e1
    obtain ⟨⟨z0, z1, z2, z3, z4⟩, _⟩ := five_cells (set5P_at (c0 := .slice none 0 0) (c1 := .slice none 0 0) (c2 := .slice none 0 0) (c3 := .slice none 0 0) (c4 := .bool false) e1)
    have HE : Hid (∃ m : Mu, Ending.returned (.tuple #[.agg #[.slice none 0 0, .slice none 0 0, .slice none 0 0, .slice none 0 0, .bool false], .int .i64 1]) = .returned (.tuple #[encU m, .int .i64 ec]) ∧ UOk (fun _ => True) (set5P w1 (w.heap.size + 1) (.slice none 0 0) (.slice none 0 0) (.slice none 0 0) (.slice none 0 0) (.bool false)) m ∧ m.au = ofA P ∧ Below w.heap.size w (set5P w1 (w.heap.size + 1) (.slice none 0 0) (.slice none 0 0) (.slice none 0 0) (.slice none 0 0) (.bool false))) := Hid.mk (by
      refine ⟨⟨.slice none 0 0, [], .slice none 0 0, [], .slice none 0 0, [], .slice none 0 0, [], false⟩, by rw [HEC.out], uok_nil _ _, ?_, Below.set5P (HBW.out.trans (hb1.mono HBW.out.size)) (by omega) _ _ _ _ _⟩
      rw [ofA, ← HB.out]
      rfl)
    have Z0 := Hid.mk z0
    have Z1 := Hid.mk z1
    have Z2 := Hid.mk z2
    have Z3 := Hid.mk z3
    have Z4 := Hid.mk z4
    clear z0 z1 z2 z3 z4 e1 hb1
    unfold set5P at HE Z0 Z1 Z2 Z3 Z4
    go_wp2
    refine bodyPost_ret (v := .tuple #[.agg #[.slice none 0 0, .slice none 0 0, .slice none 0 0, .slice none 0 0, .bool false], .int .i64 1]) ?_ rfl HE.out
    simp [results, Try.results12, go_sem, Z0.out, Z1.out, Z2.out, Z3.out, Z4.out]
  | true =>
    have HEC : Hid (ec = 0) := Hid.mk (by rw [hec]; rfl)
    clear hec
    have CO2 := Hid.mk (CO.out rfl)
    obtain ⟨i0, hi0, hz0, hz1, hz2⟩ := info_parts infoInts
    obtain ⟨i1, hi1, hy0, hy1, hy2⟩ := info_parts infoZ
    go_enter Try.func12, Try.ntmps12
    go_wp2_with fail
    rw [← HW1.out]
    refine (CM.out _ HBW.out).mono ?_
    rintro e w1 ⟨rfl, hb1⟩
    have HB1 := Hid.mk (HBW.out.trans (hb1.mono HBW.out.size))
    have HC1 := Hid.mk ((hb1.block (w.heap.size + 1) (lt_of_block HCB.out)).trans HCB.out)
    obtain ⟨⟨b0, b1, b2⟩, _⟩ := three_cellsO ((hb1.block w.heap.size (lt_of_block HCP.out)).trans HCP.out)
    clear hb1
    go_wp2_with fail
    refine (CO2.out _ HB1.out).mono ?_
    rintro e w2 ⟨⟨wv, fv, lv, pv, ws, fs, ls, ps⟩, rfl, hrp, hown, hb2⟩
    obtain ⟨wa, wc, hv⟩ := own_slice hown.w
    obtain ⟨fa, fc, hv2⟩ := own_slice hown.f
    obtain ⟨la, lc, hv3⟩ := own_slice hown.l
    obtain ⟨pa, pc, hv4⟩ := own_slice hown.p
    dsimp only at hv hv2 hv3 hv4
    subst hv hv2 hv3 hv4
    obtain ⟨em, hem⟩ : ∃ b, b = (prtOf P).empty := ⟨_, rfl⟩
    rw [← hem]
    have HEM := Hid.mk hem
    have HRP := Hid.mk hrp
    have hmay : shapedP 12 P = true ∧ leaves P ≤ 24 := by
      have h1 := HB.out.symm
      simp only [mayP, Bool.and_eq_true, decide_eq_true_eq] at h1
      exact h1
    have hlm : LimP (prtOf P) := limP_of (prt_lim P 12 hmay.1) (Nat.le_refl _) (by rw [(prt_words P).2]; exact hmay.2)
    have hb24 : ws.length ≤ 24 := by rw [show ws = (prtOf P).words from hrp.1, (prt_words P).2]; exact hmay.2
    have HWB : Hid (∀ s ∈ ws, s.length ≤ 9223372036854775807) := Hid.mk (by
      have h1 := (prt_words P).1 12 hmay.1
      rw [← show ws = (prtOf P).words from hrp.1] at h1
      intro s hs
      have h2 := isW_len ((List.all_eq_true.1 h1) s hs)
      omega)
    have hb2' : fs.length ≤ 1000 := by rw [show fs = (prtOf P).first from hrp.2.1]; exact hlm.2.1
    have hb3' : ls.length ≤ 1000 := by rw [show ls = (prtOf P).last from hrp.2.2.1]; exact hlm.2.2.1
    have hb4' : ps.length ≤ 100000 := by rw [show ps = (prtOf P).pairs from hrp.2.2.2]; exact hlm.2.2.2
    obtain ⟨nw, hnw⟩ : ∃ n, n = ws.length := ⟨_, rfl⟩
    obtain ⟨nf, hnf⟩ : ∃ n, n = fs.length := ⟨_, rfl⟩
    obtain ⟨nl, hnl⟩ : ∃ n, n = ls.length := ⟨_, rfl⟩
    obtain ⟨np, hnp⟩ : ∃ n, n = ps.length := ⟨_, rfl⟩
    rw [← hnw, ← hnf, ← hnl, ← hnp] at hown ⊢
    have HNW := Hid.mk hnw
    have HNP := Hid.mk hnp
    have hnw24 : nw ≤ 24 := by omega
    have hnp1 : np ≤ 100000 := by omega
    obtain ⟨WX, hWX⟩ : ∃ W, W = w2.alloc (.cells #[.slice wa nw wc, .slice fa nf fc, .slice la nl lc, .slice pa np pc, .bool em] 68) := ⟨_, rfl⟩
    have hbx : Below w1.heap.size w1 WX := by rw [hWX]; exact hb2.alloc hb2.size _
    have hs1 : w.heap.size + 2 ≤ w1.heap.size := lt_of_block HC1.out
    have HBX := Hid.mk (HB1.out.trans (hbx.mono HB1.out.size))
    have HRX := Hid.mk ((hbx.block (w.heap.size + 1) (lt_of_block HC1.out)).trans HC1.out)
    have hxx : WX.heap[w2.heap.size]? = some (.cells #[.slice wa nw wc, .slice fa nf fc, .slice la nl lc, .slice pa np pc, .bool em] 68 (0, 0)) := by rw [hWX]; exact heap_alloc_new _ _
    have HXX := Hid.mk hxx
    have HO : Hid (Own4 (w.heap.size + 2) WX ⟨.slice wa nw wc, .slice fa nf fc, .slice la nl lc, .slice pa np pc, ws, fs, ls, ps⟩) := Hid.mk (by rw [hWX]; exact (hown.below ((Below.refl _ _).alloc (Nat.le_refl _) _)).mono hs1)
    have HWX := Hid.mk hWX
    have hs2 : w.heap.size + 2 ≤ WX.heap.size := by have := lt_of_block HRX.out; omega
    have hxl : w2.heap.size < WX.heap.size := lt_of_block hxx
    obtain ⟨F, hF⟩ : ∃ l, l = riseI nw (zs fs) := ⟨_, rfl⟩
    obtain ⟨L, hL⟩ : ∃ l, l = riseI nw (zs ls) := ⟨_, rfl⟩
    have HF := Hid.mk hF
    have HL := Hid.mk hL
    obtain ⟨nF, hnF⟩ : ∃ n, n = F.length := ⟨_, rfl⟩
    obtain ⟨nL, hnL⟩ : ∃ n, n = L.length := ⟨_, rfl⟩
    have HNF := Hid.mk hnF
    have HNL := Hid.mk hnL
    have hnF1 : nF ≤ 1000 := by rw [hnF, hF]; have := riseI_len nw (zs fs); omega
    have hnL1 : nL ≤ 1000 := by rw [hnL, hL]; have := riseI_len nw (zs ls); omega
    have CF : Hid (∀ u, Below WX.heap.size WX u → Calls Try.prog 34 #[.slice fa nf fc, .int .i64 (nw : Int)] u fun e w' => ∃ v', e = .returned v' ∧ w'.ownsRow u.heap.size 3 1 v' nF (F.flatMap csZ) ∧ Below u.heap.size u w') := Hid.mk (fun u hu => by rw [hnF, hF]; exact rising_any (L := zs fs) (Src.own csZ_len (owns_below HO.out.f hu) (zs_len _).symm).sl (by rw [zs_len]; omega) nw (by omega))
    have CL : Hid (∀ u, Below WX.heap.size WX u → Calls Try.prog 34 #[.slice la nl lc, .int .i64 (nw : Int)] u fun e w' => ∃ v', e = .returned v' ∧ w'.ownsRow u.heap.size 3 1 v' nL (L.flatMap csZ) ∧ Below u.heap.size u w') := Hid.mk (fun u hu => by rw [hnL, hL]; exact rising_any (L := zs ls) (Src.own csZ_len (owns_below HO.out.l hu) (zs_len _).symm).sl (by rw [zs_len]; omega) nw (by omega))
    have KC : Hid (∀ u, Below WX.heap.size WX u → u.cell? ⟨w2.heap.size, 0, none⟩ = some (.slice wa nw wc) ∧ u.cell? ⟨w2.heap.size, 1, none⟩ = some (.slice fa nf fc) ∧ u.cell? ⟨w2.heap.size, 2, none⟩ = some (.slice la nl lc) ∧ u.cell? ⟨w2.heap.size, 4, none⟩ = some (.bool em)) := Hid.mk (fun u hu => by
      obtain ⟨⟨x0, x1, x2, x3, x4⟩, _⟩ := five_cells ((hu.block _ hxl).trans HXX.out)
      exact ⟨x0, x1, x2, x4⟩)
    have HPA : Hid (Below WX.heap.size WX WX.drew) := Hid.mk (Below.refl _ _).drew
    have HPB : Hid (Below WX.heap.size WX (WX.alloc (.cells #[.slice none 0 0, .slice none 0 0, .slice none 0 0, .slice none 0 0, .bool false] 31)).drew) := Hid.mk (((Below.refl _ _).alloc (Nat.le_refl _) _).drew)
    have HZB : Hid ((WX.alloc (.cells #[.slice none 0 0, .slice none 0 0, .slice none 0 0, .slice none 0 0, .bool false] 31)).drew.heap[WX.heap.size]? = some (.cells #[.slice none 0 0, .slice none 0 0, .slice none 0 0, .slice none 0 0, .bool false] 31 (0, 0))) := Hid.mk (heap_alloc_new WX _)
    clear hb2 hown hrp hem hmay hlm hbx hxx hWX hF hL hnF hnL hnw hnf hnl hnp
    go_wp2_with fail
    rw [← HWX.out]
    go_region_held3 (fun u => u.cell? ⟨w2.heap.size, 0, none⟩ = some (.slice wa nw wc) ∧ u.cell? ⟨w2.heap.size, 1, none⟩ = some (.slice fa nf fc) ∧ u.cell? ⟨w2.heap.size, 2, none⟩ = some (.slice la nl lc) ∧ u.cell? ⟨w2.heap.size, 4, none⟩ = some (.bool em))
      (first | with_reducible exact KC.out _ HPA.out | with_reducible exact KC.out _ HPB.out | with_reducible exact KC.out _ hp4 | with_reducible exact KC.out _ (hp4.alloc hp4.size _) | with_reducible exact KC.out _ hp3 | with_reducible exact KC.out _ (hp3.alloc hp3.size _) | with_reducible exact KC.out _ (((((hp4.setCell (p := ⟨_, 0, none⟩) hbz _).setCell (p := ⟨_, 1, none⟩) hbz _).setCell (p := ⟨_, 2, none⟩) hbz _).setCell (p := ⟨_, 3, none⟩) hbz _).setCell (p := ⟨_, 4, none⟩) hbz _))
      (first
        | (go_at_call 34; with_reducible refine (CF.out _ HPB.out).mono ?_; rintro e w3 ⟨v3, rfl, ho3, hb3⟩; obtain ⟨a3, k3, hv3⟩ := own_slice ho3; subst hv3; have hp3 := HPB.out.trans (hb3.mono HPB.out.size); have hq3 := (hb3.block WX.heap.size (lt_of_block HZB.out)).trans HZB.out)
        | (go_at_call 34; with_reducible refine (CF.out _ HPA.out).mono ?_; rintro e w3 ⟨v3, rfl, ho3, hb3⟩; obtain ⟨a3, k3, hv3⟩ := own_slice ho3; subst hv3; have hp3 := HPA.out.trans (hb3.mono HPA.out.size))
        | (go_at_call 34; with_reducible refine (CL.out (w3.alloc (.cells #[.slice none 0 0, .slice none 0 0, .slice none 0 0, .slice none 0 0, .bool false] 31)) (hp3.alloc hp3.size _)).mono ?_; rintro e w4 ⟨v4, rfl, ho4, hb4⟩; obtain ⟨a4, k4, hv4⟩ := own_slice ho4; subst hv4; have hp4 := (hp3.alloc hp3.size _).trans (hb4.mono (hp3.alloc hp3.size _).size); have hz4 := (hb4.block w3.heap.size (by simp)).trans (heap_alloc_new w3 _); have hbz : WX.heap.size ≤ w3.heap.size := hp3.size; obtain ⟨⟨g0, g1, g2, g3, g4⟩, ⟨h0, h1, h2, h3, h4⟩⟩ := five_cells hz4)
        | (go_at_call 34; with_reducible refine (CL.out w3 hp3).mono ?_; rintro e w4 ⟨v4, rfl, ho4, hb4⟩; obtain ⟨a4, k4, hv4⟩ := own_slice ho4; subst hv4; have hp4 := hp3.trans (hb4.mono hp3.size); have hz4 := (hb4.block WX.heap.size (lt_of_block hq3)).trans hq3; have hbz : WX.heap.size ≤ WX.heap.size := Nat.le_refl _; obtain ⟨⟨g0, g1, g2, g3, g4⟩, ⟨h0, h1, h2, h3, h4⟩⟩ := five_cells hz4)
        | (go_at_call 34; with_reducible refine (CL.out w3 hp3).mono ?_; rintro e w4 ⟨v4, rfl, ho4, hb4⟩; obtain ⟨a4, k4, hv4⟩ := own_slice ho4; subst hv4; have hp4 := hp3.trans (hb4.mono hp3.size)))
    · obtain ⟨W, ab, hWW, hab, hZW⟩ : ∃ (W : World) (ab : Nat), w4.alloc (.cells #[.slice wa nw wc, .slice a3 nF k3, .slice a4 nL k4, .slice none 0 0, .bool em] 31) = W ∧ w4.heap.size = ab ∧ ZS w W w2.heap.size ab em ⟨.slice wa nw wc, .slice fa nf fc, .slice la nl lc, .slice pa np pc, ws, fs, ls, ps⟩ (.slice a3 nF k3) (.slice a4 nL k4) (.slice none 0 0) (.slice none 0 0) F L [] := by
        refine ⟨_, _, rfl, rfl, HBX.out.trans ((hp4.alloc hp4.size _).mono HBX.out.size), ((hp4.alloc hp4.size _).block _ (lt_of_block HRX.out)).trans HRX.out, ((hp4.alloc hp4.size _).block _ hxl).trans HXX.out, heap_alloc_new _ _, by have := hp4.size; omega, owns_below HO.out.w (hp4.alloc hp4.size _), owns_below HO.out.p (hp4.alloc hp4.size _), ?_, ?_, World.ownsRow_nil _ _ _ _, by simp⟩
        · rw [← HNF.out]
          exact own_mono ((owns_below ho3 hb4).alloc _) hs2
        · rw [← HNL.out]
          exact own_mono (ho4.alloc _) (by have := hp3.size; omega)
      rw [hWW]
      simp only [hab]
      clear hWW hab ho3 hb3 ho4 hb4 hp3 hp4 b0 b1 b2
      have HZW := Hid.mk hZW
      clear hZW
      go_wp2_with fail
      go_loopw [7] (fun c wr => ∃ (i : Nat) (u : Value) (os : List (Value × List Int)), i ≤ nw ∧ c = .int .i64 i ∧ os.map (·.2) = (List.range i).map (fun k => riseI nw (zs (folN ps k))) ∧ ZS w wr w2.heap.size ab em ⟨.slice wa nw wc, .slice fa nf fc, .slice la nl lc, .slice pa np pc, ws, fs, ls, ps⟩ (.slice a3 nF k3) (.slice a4 nL k4) u u F L os) (fun c _ => nw - (intOf c).toNat)
      case atStart => exact ⟨0, .slice none 0 0, [], Nat.zero_le _, rfl, rfl, HZW.out⟩
      case round =>
        obtain ⟨i, u, os, hi, rfl, hos, hz⟩ := hrel
        obtain ⟨wx, hwx⟩ : ∃ wx, wx = wr := ⟨_, rfl⟩
        subst hwx
        have hol : os.length = i := by
          have := congrArg List.length hos
          simpa using this
        obtain ⟨ua, uc, hu⟩ := own_slice hz.oo
        rw [hol] at hu
        subst hu
        have HZ := Hid.mk hz
        have HOS := Hid.mk hos
        have HOL := Hid.mk hol
        have hsx : w.heap.size + 2 ≤ wx.heap.size := hz.lt
        have habx : ab < wx.heap.size := lt_of_block hz.a
        have HPS : Hid (Src csP 2 wx (.slice pa np pc) (zp ps)) := Hid.mk (Src.own csP_len hz.op (zp_len _).symm)
        obtain ⟨⟨x0, x1, x2, x3, x4⟩, _⟩ := five_cells hz.x
        obtain ⟨⟨s0, s1, s2, s3, s4⟩, ⟨t0, t1, t2, t3, t4⟩⟩ := five_cells hz.a
        have hxl2 : w2.heap.size < wx.heap.size := lt_of_block hz.x
        clear hz hos hol
        by_cases hlt : i < nw
        · have hltI : (i : Int) < (nw : Int) := by omega
          go_wp2_with fail
          go_loopw [8, 9] (fun vl c wy => ∃ (j : Nat) (v : Value), v = vl ∧ j ≤ np ∧ c = .int .i64 j ∧ wy.ownsRow wx.heap.size 3 1 v (folN (ps.take j) i).length ((zs (folN (ps.take j) i)).flatMap csZ) ∧ Below wx.heap.size wx wy) (fun _ c _ => np - (intOf c).toNat)
          case atStart => exact ⟨0, .slice none 0 0, rfl, Nat.zero_le _, rfl, World.ownsRow_nil _ _ _ _, Below.refl _ _⟩
          case round =>
            obtain ⟨j, v, rfl, hj, rfl, hrow, hby⟩ := hrel
            obtain ⟨wy, hwy⟩ : ∃ wy, wy = wr := ⟨_, rfl⟩
            subst hwy
            obtain ⟨nv, hnv⟩ : ∃ n, n = (folN (ps.take j) i).length := ⟨_, rfl⟩
            obtain ⟨PX, hPX⟩ : ∃ l, l = (zs (folN (ps.take j) i)).flatMap csZ := ⟨_, rfl⟩
            have hnvb : nv ≤ 100000 := by rw [hnv]; have := folN_len (ps.take j) i; rw [List.length_take] at this; omega
            rw [← hnv, ← hPX] at hrow
            obtain ⟨va, vc, hv⟩ := own_slice hrow
            subst hv
            have HROW := Hid.mk hrow
            have HBY := Hid.mk hby
            have HNV := Hid.mk hnv
            have HPX := Hid.mk hPX
            have hsy : wx.heap.size ≤ wy.heap.size := hby.size
            have xx3 := (hby.cell (p := ⟨w2.heap.size, 3, none⟩) hxl2).trans x3
            clear hrow hby hnv hPX
            by_cases hlj : j < np
            · have hljI : (j : Int) < (np : Int) := by omega
              obtain ⟨⟨za, zb⟩, hza⟩ : ∃ x, ps[j]? = some x := ⟨_, List.getElem?_eq_getElem (by rw [← HNP.out]; exact hlj)⟩
              have hzz : (zp ps)[j]? = some ((za : Int), (zb : Int)) := by rw [List.getElem?_map, hza]; rfl
              obtain ⟨gp, op, hyp, _, _, hcell⟩ := (HPS.out.below HBY.out).sl.get hzz
              subst hyp
              have r0 := hcell 0 _ rfl
              have r1 := hcell 1 _ rfl
              rw [Nat.add_zero] at r0
              have HFO := Hid.mk (folN_succ (k := i) hza)
              clear hcell hzz hza
              by_cases e : (za : Int) = (i : Int)
              · have HFT : Hid (folN (ps.take (j + 1)) i = folN (ps.take j) i ++ [zb]) := Hid.mk (by rw [HFO.out, if_pos (by omega)])
                rw [e] at r0
                clear e
                go_wp2_with (at_builtin; refine wpList_append_lies _ rfl _ _ _ rfl wx.heap.size 3 i1 _ 1 8 Try.underlying28 hi1 hy0 hy1 hy2 rfl (by decide) (.slice va nv vc) _ _ (by rfl) (HROW.out.alloc _) ⟨wy.heap.size, 0, none⟩ 1 1 (csZ (zb : Int)) (by rfl) (by rfl) (World.news_of_block (cs := #[.int .i64 (zb : Int)]) (t := 3) (fr := (0, 0)) (heap_alloc_new wy _)) (by simp [Value.oneCell']) (by decide) (by unfold maxLen; omega) (by omega) (by simp; omega) (wy.heap.size + 1) (by simp) ?_)
                intro gg cap2 w9 hown9 hgrow9 hat9 hlt9
                have ba : Below wy.heap.size wy (wy.alloc (.cells #[.int .i64 (zb : Int)] 3)) := (Below.refl _ _).alloc (Nat.le_refl _) _
                have HB9 : Hid (Below wx.heap.size wx w9) := Hid.mk ((HBY.out.trans (ba.mono HBY.out.size)).grown hgrow9 (by simp; omega) (fun k e => (HROW.out.lt k e).1))
                have HR9 : Hid (w9.ownsRow wx.heap.size 3 1 (.slice (some ⟨gg, 0, none⟩) (nv + 1) cap2) (folN (ps.take (j + 1)) i).length ((zs (folN (ps.take (j + 1)) i)).flatMap csZ)) := Hid.mk (by
                  rw [HFT.out, List.length_append, ← HNV.out, zs_append, List.flatMap_append, ← HPX.out]
                  exact hown9)
                clear hown9 hgrow9 hat9 hlt9 ba
                go_wp2
                go_roundw
                case rel => exact ⟨j + 1, _, rfl, by omega, by go_num, HR9.out, HB9.out⟩
                case measure => simp [intOf]; omega
              · obtain ⟨e1, e2⟩ := not_both e
                have HR9 : Hid (wy.ownsRow wx.heap.size 3 1 (.slice va nv vc) (folN (ps.take (j + 1)) i).length ((zs (folN (ps.take (j + 1)) i)).flatMap csZ)) := Hid.mk (by
                  rw [HFO.out, if_neg (by omega), List.append_nil, ← HNV.out, ← HPX.out]
                  exact HROW.out)
                clear e
                go_wp2
                go_roundw
                case rel => exact ⟨j + 1, _, rfl, by omega, by go_num, HR9.out, HBY.out⟩
                case measure => simp [intOf]; omega
            · have hljI : ¬ (j : Int) < (np : Int) := by omega
              obtain ⟨Fi, hFi⟩ : ∃ l, l = riseI nw (zs (folN ps i)) := ⟨_, rfl⟩
              obtain ⟨n5, hn5⟩ : ∃ n, n = Fi.length := ⟨_, rfl⟩
              have hn51 : n5 ≤ 1000 := by rw [hn5, hFi]; have := riseI_len nw (zs (folN ps i)); omega
              have hta : ps.take j = ps := List.take_of_length_le (by rw [← HNP.out]; omega)
              have C : Hid (Calls Try.prog 34 #[.slice va nv vc, .int .i64 (nw : Int)] wy.drew fun e w' => ∃ v', e = .returned v' ∧ w'.ownsRow wy.heap.size 3 1 v' n5 (Fi.flatMap csZ) ∧ Below wy.heap.size wy.drew w') := Hid.mk (by
                have h1 := HROW.out
                have h2 := HNV.out
                rw [HPX.out, hta] at h1
                rw [hta] at h2
                rw [hn5, hFi]
                exact rising_any (L := zs (folN ps i)) (Src.own csZ_len h1.drew (by rw [zs_len]; exact h2)).sl (by rw [zs_len]; omega) nw (by omega))
              have HFI := Hid.mk hFi
              have HN5 := Hid.mk hn5
              have HZY := Hid.mk (HZ.out.below HBY.out)
              have hrow2 := HZY.out.oo
              rw [HOL.out] at hrow2
              obtain ⟨OX, hOX⟩ : ∃ l, l = os.flatMap csW := ⟨_, rfl⟩
              rw [← hOX] at hrow2
              have HROW2 : Hid (wy.ownsRow (w.heap.size + 2) 28 1 (.slice ua i uc) i OX) := Hid.mk hrow2
              have HOX := Hid.mk hOX
              have c3 := (HBY.out.cell (p := ⟨ab, 3, none⟩) habx).trans s3
              have y3 := (HBY.out.frozen (p := ⟨ab, 3, none⟩) habx).trans t3
              have habl : ab < wy.heap.size := by omega
              have HNO : Hid (∀ b, (Value.slice ua i uc).ownBlock = some b → b ≠ ab) := Hid.mk (fun b hb e => own_neO hrow2 HZY.out.a (by decide) (by rw [hb, e]))
              clear hFi hn5 hta hrow2 hOX x0 x1 x2 x3 x4 s0 s1 s2 s3 s4 t0 t1 t2 t3 t4
              go_wp2_with fail
              go_region_law (first
                | (go_simp; refine C.out.mono ?_; rintro e w5 ⟨v5, rfl, ho5, hb5⟩; obtain ⟨a5, k5, hv5⟩ := own_slice ho5; subst hv5; have c35 := (hb5.cell (p := ⟨ab, 3, none⟩) habl).trans c3; have y35 := (hb5.frozen (p := ⟨ab, 3, none⟩) habl).trans y3; have habl5 : ab < w5.heap.size := Nat.lt_of_lt_of_le habl hb5.size)
                | (refine step_append_lies _ (by rfl) _ _ _ (by rfl) (w.heap.size + 2) 28 i0 _ 1 24 Try.underlying29 hi0 hz0 hz1 hz2 rfl (by decide) (.slice ua i uc) _ _ (by rfl) ((owns_below HROW2.out.drew hb5).alloc _) ⟨w5.heap.size, 0, none⟩ 1 1 [.slice a5 n5 k5] (by rfl) (by rfl) (World.news_of_block (cs := #[.slice a5 n5 k5]) (t := 28) (fr := (0, 0)) (heap_alloc_new w5 _)) (by simp [Value.oneCell']) (by decide) (by unfold maxLen; omega) (by omega) (by have := hb5.size; simp at this ⊢; omega) (w5.heap.size + 1) (by simp) ?_; intro gg cap2 w9 hown9 hgrow9 hat9 hlt9; have hh9 := grown_at hgrow9 habl5 (fun e => HNO.out _ (by cases ua <;> exact e) rfl); have q09 := cell_of hh9 c35; have q19 := froz_of hh9 y35))
              all_goals (
                have hA5 : Below wy.heap.size wy (w5.alloc (.cells #[.slice a5 n5 k5] 28)) := ((Below.refl _ _).drew.trans hb5).alloc hb5.size _
                have HZ9 : Hid (ZS w (w9.setCell ⟨ab, 3, none⟩ (.slice (some ⟨gg, 0, none⟩) (i + 1) cap2)) w2.heap.size ab em ⟨.slice wa nw wc, .slice fa nf fc, .slice la nl lc, .slice pa np pc, ws, fs, ls, ps⟩ (.slice a3 nF k3) (.slice a4 nL k4) (.slice (some ⟨gg, 0, none⟩) (i + 1) cap2) (.slice (some ⟨gg, 0, none⟩) (i + 1) cap2) F L (os ++ [(.slice a5 n5 k5, Fi)])) := Hid.mk (((HZY.out.below hA5).grow hgrow9 (by
                  rw [List.length_append, HOL.out, List.flatMap_append, ← HOX.out]
                  exact hown9) (own_mono (by rw [← HN5.out]; exact ho5.alloc _) (by omega))).set _)
                have HO9 : Hid ((os ++ [(Value.slice a5 n5 k5, Fi)]).map (·.2) = (List.range (i + 1)).map (fun k => riseI nw (zs (folN ps k)))) := Hid.mk (by
                  rw [List.map_append, HOS.out, List.range_succ, List.map_append, HFI.out]
                  rfl)
                clear hA5 hown9 hgrow9 hat9 hlt9 hh9 q09 q19 ho5 hb5 c35 y35
                go_wp2
                go_roundw
                case rel => exact ⟨i + 1, _, _, by omega, by go_num, HO9.out, HZ9.out⟩
                case measure => simp [intOf]; omega)
        · have hltI : ¬ (i : Int) < (nw : Int) := by omega
          have hin : i = nw := by omega
          have e1 := HZ.out.res
          obtain ⟨⟨j0, j1, j2, j3, j4⟩, ⟨k0, k1, k2, k3', k4'⟩⟩ := five_cells e1
          obtain ⟨⟨z0, z1, z2, z3, z4⟩, _⟩ := five_cells (set5P_at (c0 := .slice wa nw wc) (c1 := .slice a3 nF k3) (c2 := .slice a4 nL k4) (c3 := .slice ua i uc) (c4 := .bool em) e1)
          have HE : Hid (∃ m : Mu, Ending.returned (.tuple #[.agg #[.slice wa nw wc, .slice a3 nF k3, .slice a4 nL k4, .slice ua i uc, .bool em], .int .i64 0]) = .returned (.tuple #[encU m, .int .i64 ec]) ∧ UOk (fun _ => True) (set5P wx (w.heap.size + 1) (.slice wa nw wc) (.slice a3 nF k3) (.slice a4 nL k4) (.slice ua i uc) (.bool em)) m ∧ m.au = ofA P ∧ Below w.heap.size w (set5P wx (w.heap.size + 1) (.slice wa nw wc) (.slice a3 nF k3) (.slice a4 nL k4) (.slice ua i uc) (.bool em))) := Hid.mk (by
            have hp : ∀ p ∈ os, p.2.length ≤ 1000 := fun p hp => by
              have h1 : p.2 ∈ os.map (·.2) := List.mem_map_of_mem hp
              rw [HOS.out] at h1
              obtain ⟨k, _, e⟩ := List.mem_map.1 h1
              rw [← e]
              have := riseI_len nw (zs (folN ps k))
              omega
            refine ⟨⟨.slice wa nw wc, ws, .slice a3 nF k3, F, .slice a4 nL k4, L, .slice ua i uc, os, em⟩, by rw [HEC.out], HZ.out.uok (by show ws.length ≤ 1000; rw [← HNW.out]; omega) HWB.out (by rw [← HNF.out]; omega) (by rw [← HNL.out]; omega) (by rw [HOL.out]; omega) hp _ _ _ _ _, ?_, Below.set5P HZ.out.bel (by omega) _ _ _ _ _⟩
            have h1 := HRP.out
            obtain ⟨r1, r2, r3, r4⟩ := h1
            dsimp only at r1 r2 r3 r4
            have hw : nw = (prtOf P).words.length := by rw [HNW.out, r1]
            rw [ofA, ← HB.out, if_pos rfl, autoOf]
            show (⟨ws, F, L, os.map (·.2), em⟩ : Au) = auOf (prtOf P)
            rw [HOS.out, hin, HF.out, HL.out, rise_zs, rise_zs, HEM.out, auOf, ← hw, ← r1, ← r2, ← r3, ← r4]
            simp only [rise_zs])
          have Z0 := Hid.mk z0
          have Z1 := Hid.mk z1
          have Z2 := Hid.mk z2
          have Z3 := Hid.mk z3
          have Z4 := Hid.mk z4
          clear z0 z1 z2 z3 z4 e1 hin
          unfold set5P at HE Z0 Z1 Z2 Z3 Z4
          go_wp2
          refine bodyPost_ret (v := .tuple #[.agg #[.slice wa nw wc, .slice a3 nF k3, .slice a4 nL k4, .slice ua i uc, .bool em], .int .i64 0]) ?_ rfl HE.out
          simp [results, Try.results12, go_sem, Z0.out, Z1.out, Z2.out, Z3.out, Z4.out]
    · obtain ⟨W, ab, hWW, hab, hZW⟩ : ∃ (W : World) (ab : Nat), ((((w4.setCell ⟨w3.heap.size, 0, none⟩ (.slice wa nw wc)).setCell ⟨w3.heap.size, 1, none⟩ (.slice a3 nF k3)).setCell ⟨w3.heap.size, 2, none⟩ (.slice a4 nL k4)).setCell ⟨w3.heap.size, 3, none⟩ (.slice none 0 0)).setCell ⟨w3.heap.size, 4, none⟩ (.bool em) = W ∧ w3.heap.size = ab ∧ ZS w W w2.heap.size ab em ⟨.slice wa nw wc, .slice fa nf fc, .slice la nl lc, .slice pa np pc, ws, fs, ls, ps⟩ (.slice a3 nF k3) (.slice a4 nL k4) (.slice none 0 0) (.slice none 0 0) F L [] := by
        refine ⟨set5P w4 w3.heap.size (.slice wa nw wc) (.slice a3 nF k3) (.slice a4 nL k4) (.slice none 0 0) (.bool em), w3.heap.size, rfl, rfl, HBX.out.trans ((Below.set5P hp4 hbz _ _ _ _ _).mono HBX.out.size), (set5P_other (by omega) _ _ _ _ _).trans ((hp4.block _ (lt_of_block HRX.out)).trans HRX.out), (set5P_other (fun e => blk_ne ((hp4.block _ hxl).trans HXX.out) hz4 (by decide) e) _ _ _ _ _).trans ((hp4.block _ hxl).trans HXX.out), set5P_at hz4, by omega, own_set5 (owns_below HO.out.w hp4) hz4 (by decide) _ _ _ _ _, own_set5 (owns_below HO.out.p hp4) hz4 (by decide) _ _ _ _ _, ?_, ?_, World.ownsRow_nil _ _ _ _, by simp⟩
        · rw [← HNF.out]
          exact own_mono (own_set5 (owns_below (ho3.alloc _) hb4) hz4 (by decide) _ _ _ _ _) hs2
        · rw [← HNL.out]
          exact own_mono (own_set5 ho4 hz4 (by decide) _ _ _ _ _) (by have := (hp3.alloc hp3.size (.cells #[.slice none 0 0, .slice none 0 0, .slice none 0 0, .slice none 0 0, .bool false] 31)).size; omega)
      rw [hWW]
      simp only [hab]
      clear hWW hab ho3 hb3 ho4 hb4 hp3 hp4 b0 b1 b2 hz4 hbz g0 g1 g2 g3 g4 h0 h1 h2 h3 h4
      have HZW := Hid.mk hZW
      clear hZW
      go_wp2_with fail
      go_loopw [7] (fun c wr => ∃ (i : Nat) (u : Value) (os : List (Value × List Int)), i ≤ nw ∧ c = .int .i64 i ∧ os.map (·.2) = (List.range i).map (fun k => riseI nw (zs (folN ps k))) ∧ ZS w wr w2.heap.size ab em ⟨.slice wa nw wc, .slice fa nf fc, .slice la nl lc, .slice pa np pc, ws, fs, ls, ps⟩ (.slice a3 nF k3) (.slice a4 nL k4) u u F L os) (fun c _ => nw - (intOf c).toNat)
      case atStart => exact ⟨0, .slice none 0 0, [], Nat.zero_le _, rfl, rfl, HZW.out⟩
      case round =>
        obtain ⟨i, u, os, hi, rfl, hos, hz⟩ := hrel
        obtain ⟨wx, hwx⟩ : ∃ wx, wx = wr := ⟨_, rfl⟩
        subst hwx
        have hol : os.length = i := by
          have := congrArg List.length hos
          simpa using this
        obtain ⟨ua, uc, hu⟩ := own_slice hz.oo
        rw [hol] at hu
        subst hu
        have HZ := Hid.mk hz
        have HOS := Hid.mk hos
        have HOL := Hid.mk hol
        have hsx : w.heap.size + 2 ≤ wx.heap.size := hz.lt
        have habx : ab < wx.heap.size := lt_of_block hz.a
        have HPS : Hid (Src csP 2 wx (.slice pa np pc) (zp ps)) := Hid.mk (Src.own csP_len hz.op (zp_len _).symm)
        obtain ⟨⟨x0, x1, x2, x3, x4⟩, _⟩ := five_cells hz.x
        obtain ⟨⟨s0, s1, s2, s3, s4⟩, ⟨t0, t1, t2, t3, t4⟩⟩ := five_cells hz.a
        have hxl2 : w2.heap.size < wx.heap.size := lt_of_block hz.x
        clear hz hos hol
        by_cases hlt : i < nw
        · have hltI : (i : Int) < (nw : Int) := by omega
          go_wp2_with fail
          go_loopw [8, 9] (fun vl c wy => ∃ (j : Nat) (v : Value), v = vl ∧ j ≤ np ∧ c = .int .i64 j ∧ wy.ownsRow wx.heap.size 3 1 v (folN (ps.take j) i).length ((zs (folN (ps.take j) i)).flatMap csZ) ∧ Below wx.heap.size wx wy) (fun _ c _ => np - (intOf c).toNat)
          case atStart => exact ⟨0, .slice none 0 0, rfl, Nat.zero_le _, rfl, World.ownsRow_nil _ _ _ _, Below.refl _ _⟩
          case round =>
            obtain ⟨j, v, rfl, hj, rfl, hrow, hby⟩ := hrel
            obtain ⟨wy, hwy⟩ : ∃ wy, wy = wr := ⟨_, rfl⟩
            subst hwy
            obtain ⟨nv, hnv⟩ : ∃ n, n = (folN (ps.take j) i).length := ⟨_, rfl⟩
            obtain ⟨PX, hPX⟩ : ∃ l, l = (zs (folN (ps.take j) i)).flatMap csZ := ⟨_, rfl⟩
            have hnvb : nv ≤ 100000 := by rw [hnv]; have := folN_len (ps.take j) i; rw [List.length_take] at this; omega
            rw [← hnv, ← hPX] at hrow
            obtain ⟨va, vc, hv⟩ := own_slice hrow
            subst hv
            have HROW := Hid.mk hrow
            have HBY := Hid.mk hby
            have HNV := Hid.mk hnv
            have HPX := Hid.mk hPX
            have hsy : wx.heap.size ≤ wy.heap.size := hby.size
            have xx3 := (hby.cell (p := ⟨w2.heap.size, 3, none⟩) hxl2).trans x3
            clear hrow hby hnv hPX
            by_cases hlj : j < np
            · have hljI : (j : Int) < (np : Int) := by omega
              obtain ⟨⟨za, zb⟩, hza⟩ : ∃ x, ps[j]? = some x := ⟨_, List.getElem?_eq_getElem (by rw [← HNP.out]; exact hlj)⟩
              have hzz : (zp ps)[j]? = some ((za : Int), (zb : Int)) := by rw [List.getElem?_map, hza]; rfl
              obtain ⟨gp, op, hyp, _, _, hcell⟩ := (HPS.out.below HBY.out).sl.get hzz
              subst hyp
              have r0 := hcell 0 _ rfl
              have r1 := hcell 1 _ rfl
              rw [Nat.add_zero] at r0
              have HFO := Hid.mk (folN_succ (k := i) hza)
              clear hcell hzz hza
              by_cases e : (za : Int) = (i : Int)
              · have HFT : Hid (folN (ps.take (j + 1)) i = folN (ps.take j) i ++ [zb]) := Hid.mk (by rw [HFO.out, if_pos (by omega)])
                rw [e] at r0
                clear e
                go_wp2_with (at_builtin; refine wpList_append_lies _ rfl _ _ _ rfl wx.heap.size 3 i1 _ 1 8 Try.underlying28 hi1 hy0 hy1 hy2 rfl (by decide) (.slice va nv vc) _ _ (by rfl) (HROW.out.alloc _) ⟨wy.heap.size, 0, none⟩ 1 1 (csZ (zb : Int)) (by rfl) (by rfl) (World.news_of_block (cs := #[.int .i64 (zb : Int)]) (t := 3) (fr := (0, 0)) (heap_alloc_new wy _)) (by simp [Value.oneCell']) (by decide) (by unfold maxLen; omega) (by omega) (by simp; omega) (wy.heap.size + 1) (by simp) ?_)
                intro gg cap2 w9 hown9 hgrow9 hat9 hlt9
                have ba : Below wy.heap.size wy (wy.alloc (.cells #[.int .i64 (zb : Int)] 3)) := (Below.refl _ _).alloc (Nat.le_refl _) _
                have HB9 : Hid (Below wx.heap.size wx w9) := Hid.mk ((HBY.out.trans (ba.mono HBY.out.size)).grown hgrow9 (by simp; omega) (fun k e => (HROW.out.lt k e).1))
                have HR9 : Hid (w9.ownsRow wx.heap.size 3 1 (.slice (some ⟨gg, 0, none⟩) (nv + 1) cap2) (folN (ps.take (j + 1)) i).length ((zs (folN (ps.take (j + 1)) i)).flatMap csZ)) := Hid.mk (by
                  rw [HFT.out, List.length_append, ← HNV.out, zs_append, List.flatMap_append, ← HPX.out]
                  exact hown9)
                clear hown9 hgrow9 hat9 hlt9 ba
                go_wp2
                go_roundw
                case rel => exact ⟨j + 1, _, rfl, by omega, by go_num, HR9.out, HB9.out⟩
                case measure => simp [intOf]; omega
              · obtain ⟨e1, e2⟩ := not_both e
                have HR9 : Hid (wy.ownsRow wx.heap.size 3 1 (.slice va nv vc) (folN (ps.take (j + 1)) i).length ((zs (folN (ps.take (j + 1)) i)).flatMap csZ)) := Hid.mk (by
                  rw [HFO.out, if_neg (by omega), List.append_nil, ← HNV.out, ← HPX.out]
                  exact HROW.out)
                clear e
                go_wp2
                go_roundw
                case rel => exact ⟨j + 1, _, rfl, by omega, by go_num, HR9.out, HBY.out⟩
                case measure => simp [intOf]; omega
            · have hljI : ¬ (j : Int) < (np : Int) := by omega
              obtain ⟨Fi, hFi⟩ : ∃ l, l = riseI nw (zs (folN ps i)) := ⟨_, rfl⟩
              obtain ⟨n5, hn5⟩ : ∃ n, n = Fi.length := ⟨_, rfl⟩
              have hn51 : n5 ≤ 1000 := by rw [hn5, hFi]; have := riseI_len nw (zs (folN ps i)); omega
              have hta : ps.take j = ps := List.take_of_length_le (by rw [← HNP.out]; omega)
              have C : Hid (Calls Try.prog 34 #[.slice va nv vc, .int .i64 (nw : Int)] wy.drew fun e w' => ∃ v', e = .returned v' ∧ w'.ownsRow wy.heap.size 3 1 v' n5 (Fi.flatMap csZ) ∧ Below wy.heap.size wy.drew w') := Hid.mk (by
                have h1 := HROW.out
                have h2 := HNV.out
                rw [HPX.out, hta] at h1
                rw [hta] at h2
                rw [hn5, hFi]
                exact rising_any (L := zs (folN ps i)) (Src.own csZ_len h1.drew (by rw [zs_len]; exact h2)).sl (by rw [zs_len]; omega) nw (by omega))
              have HFI := Hid.mk hFi
              have HN5 := Hid.mk hn5
              have HZY := Hid.mk (HZ.out.below HBY.out)
              have hrow2 := HZY.out.oo
              rw [HOL.out] at hrow2
              obtain ⟨OX, hOX⟩ : ∃ l, l = os.flatMap csW := ⟨_, rfl⟩
              rw [← hOX] at hrow2
              have HROW2 : Hid (wy.ownsRow (w.heap.size + 2) 28 1 (.slice ua i uc) i OX) := Hid.mk hrow2
              have HOX := Hid.mk hOX
              have c3 := (HBY.out.cell (p := ⟨ab, 3, none⟩) habx).trans s3
              have y3 := (HBY.out.frozen (p := ⟨ab, 3, none⟩) habx).trans t3
              have habl : ab < wy.heap.size := by omega
              have HNO : Hid (∀ b, (Value.slice ua i uc).ownBlock = some b → b ≠ ab) := Hid.mk (fun b hb e => own_neO hrow2 HZY.out.a (by decide) (by rw [hb, e]))
              clear hFi hn5 hta hrow2 hOX x0 x1 x2 x3 x4 s0 s1 s2 s3 s4 t0 t1 t2 t3 t4
              go_wp2_with fail
              go_region_law (first
                | (go_simp; refine C.out.mono ?_; rintro e w5 ⟨v5, rfl, ho5, hb5⟩; obtain ⟨a5, k5, hv5⟩ := own_slice ho5; subst hv5; have c35 := (hb5.cell (p := ⟨ab, 3, none⟩) habl).trans c3; have y35 := (hb5.frozen (p := ⟨ab, 3, none⟩) habl).trans y3; have habl5 : ab < w5.heap.size := Nat.lt_of_lt_of_le habl hb5.size)
                | (refine step_append_lies _ (by rfl) _ _ _ (by rfl) (w.heap.size + 2) 28 i0 _ 1 24 Try.underlying29 hi0 hz0 hz1 hz2 rfl (by decide) (.slice ua i uc) _ _ (by rfl) ((owns_below HROW2.out.drew hb5).alloc _) ⟨w5.heap.size, 0, none⟩ 1 1 [.slice a5 n5 k5] (by rfl) (by rfl) (World.news_of_block (cs := #[.slice a5 n5 k5]) (t := 28) (fr := (0, 0)) (heap_alloc_new w5 _)) (by simp [Value.oneCell']) (by decide) (by unfold maxLen; omega) (by omega) (by have := hb5.size; simp at this ⊢; omega) (w5.heap.size + 1) (by simp) ?_; intro gg cap2 w9 hown9 hgrow9 hat9 hlt9; have hh9 := grown_at hgrow9 habl5 (fun e => HNO.out _ (by cases ua <;> exact e) rfl); have q09 := cell_of hh9 c35; have q19 := froz_of hh9 y35))
              all_goals (
                have hA5 : Below wy.heap.size wy (w5.alloc (.cells #[.slice a5 n5 k5] 28)) := ((Below.refl _ _).drew.trans hb5).alloc hb5.size _
                have HZ9 : Hid (ZS w (w9.setCell ⟨ab, 3, none⟩ (.slice (some ⟨gg, 0, none⟩) (i + 1) cap2)) w2.heap.size ab em ⟨.slice wa nw wc, .slice fa nf fc, .slice la nl lc, .slice pa np pc, ws, fs, ls, ps⟩ (.slice a3 nF k3) (.slice a4 nL k4) (.slice (some ⟨gg, 0, none⟩) (i + 1) cap2) (.slice (some ⟨gg, 0, none⟩) (i + 1) cap2) F L (os ++ [(.slice a5 n5 k5, Fi)])) := Hid.mk (((HZY.out.below hA5).grow hgrow9 (by
                  rw [List.length_append, HOL.out, List.flatMap_append, ← HOX.out]
                  exact hown9) (own_mono (by rw [← HN5.out]; exact ho5.alloc _) (by omega))).set _)
                have HO9 : Hid ((os ++ [(Value.slice a5 n5 k5, Fi)]).map (·.2) = (List.range (i + 1)).map (fun k => riseI nw (zs (folN ps k)))) := Hid.mk (by
                  rw [List.map_append, HOS.out, List.range_succ, List.map_append, HFI.out]
                  rfl)
                clear hA5 hown9 hgrow9 hat9 hlt9 hh9 q09 q19 ho5 hb5 c35 y35
                go_wp2
                go_roundw
                case rel => exact ⟨i + 1, _, _, by omega, by go_num, HO9.out, HZ9.out⟩
                case measure => simp [intOf]; omega)
        · have hltI : ¬ (i : Int) < (nw : Int) := by omega
          have hin : i = nw := by omega
          have e1 := HZ.out.res
          obtain ⟨⟨j0, j1, j2, j3, j4⟩, ⟨k0, k1, k2, k3', k4'⟩⟩ := five_cells e1
          obtain ⟨⟨z0, z1, z2, z3, z4⟩, _⟩ := five_cells (set5P_at (c0 := .slice wa nw wc) (c1 := .slice a3 nF k3) (c2 := .slice a4 nL k4) (c3 := .slice ua i uc) (c4 := .bool em) e1)
          have HE : Hid (∃ m : Mu, Ending.returned (.tuple #[.agg #[.slice wa nw wc, .slice a3 nF k3, .slice a4 nL k4, .slice ua i uc, .bool em], .int .i64 0]) = .returned (.tuple #[encU m, .int .i64 ec]) ∧ UOk (fun _ => True) (set5P wx (w.heap.size + 1) (.slice wa nw wc) (.slice a3 nF k3) (.slice a4 nL k4) (.slice ua i uc) (.bool em)) m ∧ m.au = ofA P ∧ Below w.heap.size w (set5P wx (w.heap.size + 1) (.slice wa nw wc) (.slice a3 nF k3) (.slice a4 nL k4) (.slice ua i uc) (.bool em))) := Hid.mk (by
            have hp : ∀ p ∈ os, p.2.length ≤ 1000 := fun p hp => by
              have h1 : p.2 ∈ os.map (·.2) := List.mem_map_of_mem hp
              rw [HOS.out] at h1
              obtain ⟨k, _, e⟩ := List.mem_map.1 h1
              rw [← e]
              have := riseI_len nw (zs (folN ps k))
              omega
            refine ⟨⟨.slice wa nw wc, ws, .slice a3 nF k3, F, .slice a4 nL k4, L, .slice ua i uc, os, em⟩, by rw [HEC.out], HZ.out.uok (by show ws.length ≤ 1000; rw [← HNW.out]; omega) HWB.out (by rw [← HNF.out]; omega) (by rw [← HNL.out]; omega) (by rw [HOL.out]; omega) hp _ _ _ _ _, ?_, Below.set5P HZ.out.bel (by omega) _ _ _ _ _⟩
            have h1 := HRP.out
            obtain ⟨r1, r2, r3, r4⟩ := h1
            dsimp only at r1 r2 r3 r4
            have hw : nw = (prtOf P).words.length := by rw [HNW.out, r1]
            rw [ofA, ← HB.out, if_pos rfl, autoOf]
            show (⟨ws, F, L, os.map (·.2), em⟩ : Au) = auOf (prtOf P)
            rw [HOS.out, hin, HF.out, HL.out, rise_zs, rise_zs, HEM.out, auOf, ← hw, ← r1, ← r2, ← r3, ← r4]
            simp only [rise_zs])
          have Z0 := Hid.mk z0
          have Z1 := Hid.mk z1
          have Z2 := Hid.mk z2
          have Z3 := Hid.mk z3
          have Z4 := Hid.mk z4
          clear z0 z1 z2 z3 z4 e1 hin
          unfold set5P at HE Z0 Z1 Z2 Z3 Z4
          go_wp2
          refine bodyPost_ret (v := .tuple #[.agg #[.slice wa nw wc, .slice a3 nF k3, .slice a4 nL k4, .slice ua i uc, .bool em], .int .i64 0]) ?_ rfl HE.out
          simp [results, Try.results12, go_sem, Z0.out, Z1.out, Z2.out, Z3.out, Z4.out]
    · obtain ⟨W, ab, hWW, hab, hZW⟩ : ∃ (W : World) (ab : Nat), ((((w4.setCell ⟨WX.heap.size, 0, none⟩ (.slice wa nw wc)).setCell ⟨WX.heap.size, 1, none⟩ (.slice a3 nF k3)).setCell ⟨WX.heap.size, 2, none⟩ (.slice a4 nL k4)).setCell ⟨WX.heap.size, 3, none⟩ (.slice none 0 0)).setCell ⟨WX.heap.size, 4, none⟩ (.bool em) = W ∧ WX.heap.size = ab ∧ ZS w W w2.heap.size ab em ⟨.slice wa nw wc, .slice fa nf fc, .slice la nl lc, .slice pa np pc, ws, fs, ls, ps⟩ (.slice a3 nF k3) (.slice a4 nL k4) (.slice none 0 0) (.slice none 0 0) F L [] := by
        refine ⟨set5P w4 WX.heap.size (.slice wa nw wc) (.slice a3 nF k3) (.slice a4 nL k4) (.slice none 0 0) (.bool em), WX.heap.size, rfl, rfl, HBX.out.trans ((Below.set5P hp4 hbz _ _ _ _ _).mono HBX.out.size), (set5P_other (by omega) _ _ _ _ _).trans ((hp4.block _ (lt_of_block HRX.out)).trans HRX.out), (set5P_other (fun e => blk_ne ((hp4.block _ hxl).trans HXX.out) hz4 (by decide) e) _ _ _ _ _).trans ((hp4.block _ hxl).trans HXX.out), set5P_at hz4, by omega, own_set5 (owns_below HO.out.w hp4) hz4 (by decide) _ _ _ _ _, own_set5 (owns_below HO.out.p hp4) hz4 (by decide) _ _ _ _ _, ?_, ?_, World.ownsRow_nil _ _ _ _, by simp⟩
        · rw [← HNF.out]
          exact own_mono (own_set5 (owns_below ho3 hb4) hz4 (by decide) _ _ _ _ _) (by have := HPB.out.size; omega)
        · rw [← HNL.out]
          exact own_mono (own_set5 ho4 hz4 (by decide) _ _ _ _ _) (by have := hp3.size; omega)
      rw [hWW]
      simp only [hab]
      clear hWW hab ho3 hb3 ho4 hb4 hp3 hp4 b0 b1 b2 hz4 hbz g0 g1 g2 g3 g4 h0 h1 h2 h3 h4 hq3
      have HZW := Hid.mk hZW
      clear hZW
      go_wp2_with fail
      go_loopw [7] (fun c wr => ∃ (i : Nat) (u : Value) (os : List (Value × List Int)), i ≤ nw ∧ c = .int .i64 i ∧ os.map (·.2) = (List.range i).map (fun k => riseI nw (zs (folN ps k))) ∧ ZS w wr w2.heap.size ab em ⟨.slice wa nw wc, .slice fa nf fc, .slice la nl lc, .slice pa np pc, ws, fs, ls, ps⟩ (.slice a3 nF k3) (.slice a4 nL k4) u u F L os) (fun c _ => nw - (intOf c).toNat)
      case atStart => exact ⟨0, .slice none 0 0, [], Nat.zero_le _, rfl, rfl, HZW.out⟩
      case round =>
        obtain ⟨i, u, os, hi, rfl, hos, hz⟩ := hrel
        obtain ⟨wx, hwx⟩ : ∃ wx, wx = wr := ⟨_, rfl⟩
        subst hwx
        have hol : os.length = i := by
          have := congrArg List.length hos
          simpa using this
        obtain ⟨ua, uc, hu⟩ := own_slice hz.oo
        rw [hol] at hu
        subst hu
        have HZ := Hid.mk hz
        have HOS := Hid.mk hos
        have HOL := Hid.mk hol
        have hsx : w.heap.size + 2 ≤ wx.heap.size := hz.lt
        have habx : ab < wx.heap.size := lt_of_block hz.a
        have HPS : Hid (Src csP 2 wx (.slice pa np pc) (zp ps)) := Hid.mk (Src.own csP_len hz.op (zp_len _).symm)
        obtain ⟨⟨x0, x1, x2, x3, x4⟩, _⟩ := five_cells hz.x
        obtain ⟨⟨s0, s1, s2, s3, s4⟩, ⟨t0, t1, t2, t3, t4⟩⟩ := five_cells hz.a
        have hxl2 : w2.heap.size < wx.heap.size := lt_of_block hz.x
        clear hz hos hol
        by_cases hlt : i < nw
        · have hltI : (i : Int) < (nw : Int) := by omega
          go_wp2_with fail
          go_loopw [8, 9] (fun vl c wy => ∃ (j : Nat) (v : Value), v = vl ∧ j ≤ np ∧ c = .int .i64 j ∧ wy.ownsRow wx.heap.size 3 1 v (folN (ps.take j) i).length ((zs (folN (ps.take j) i)).flatMap csZ) ∧ Below wx.heap.size wx wy) (fun _ c _ => np - (intOf c).toNat)
          case atStart => exact ⟨0, .slice none 0 0, rfl, Nat.zero_le _, rfl, World.ownsRow_nil _ _ _ _, Below.refl _ _⟩
          case round =>
            obtain ⟨j, v, rfl, hj, rfl, hrow, hby⟩ := hrel
            obtain ⟨wy, hwy⟩ : ∃ wy, wy = wr := ⟨_, rfl⟩
            subst hwy
            obtain ⟨nv, hnv⟩ : ∃ n, n = (folN (ps.take j) i).length := ⟨_, rfl⟩
            obtain ⟨PX, hPX⟩ : ∃ l, l = (zs (folN (ps.take j) i)).flatMap csZ := ⟨_, rfl⟩
            have hnvb : nv ≤ 100000 := by rw [hnv]; have := folN_len (ps.take j) i; rw [List.length_take] at this; omega
            rw [← hnv, ← hPX] at hrow
            obtain ⟨va, vc, hv⟩ := own_slice hrow
            subst hv
            have HROW := Hid.mk hrow
            have HBY := Hid.mk hby
            have HNV := Hid.mk hnv
            have HPX := Hid.mk hPX
            have hsy : wx.heap.size ≤ wy.heap.size := hby.size
            have xx3 := (hby.cell (p := ⟨w2.heap.size, 3, none⟩) hxl2).trans x3
            clear hrow hby hnv hPX
            by_cases hlj : j < np
            · have hljI : (j : Int) < (np : Int) := by omega
              obtain ⟨⟨za, zb⟩, hza⟩ : ∃ x, ps[j]? = some x := ⟨_, List.getElem?_eq_getElem (by rw [← HNP.out]; exact hlj)⟩
              have hzz : (zp ps)[j]? = some ((za : Int), (zb : Int)) := by rw [List.getElem?_map, hza]; rfl
              obtain ⟨gp, op, hyp, _, _, hcell⟩ := (HPS.out.below HBY.out).sl.get hzz
              subst hyp
              have r0 := hcell 0 _ rfl
              have r1 := hcell 1 _ rfl
              rw [Nat.add_zero] at r0
              have HFO := Hid.mk (folN_succ (k := i) hza)
              clear hcell hzz hza
              by_cases e : (za : Int) = (i : Int)
              · have HFT : Hid (folN (ps.take (j + 1)) i = folN (ps.take j) i ++ [zb]) := Hid.mk (by rw [HFO.out, if_pos (by omega)])
                rw [e] at r0
                clear e
                go_wp2_with (at_builtin; refine wpList_append_lies _ rfl _ _ _ rfl wx.heap.size 3 i1 _ 1 8 Try.underlying28 hi1 hy0 hy1 hy2 rfl (by decide) (.slice va nv vc) _ _ (by rfl) (HROW.out.alloc _) ⟨wy.heap.size, 0, none⟩ 1 1 (csZ (zb : Int)) (by rfl) (by rfl) (World.news_of_block (cs := #[.int .i64 (zb : Int)]) (t := 3) (fr := (0, 0)) (heap_alloc_new wy _)) (by simp [Value.oneCell']) (by decide) (by unfold maxLen; omega) (by omega) (by simp; omega) (wy.heap.size + 1) (by simp) ?_)
                intro gg cap2 w9 hown9 hgrow9 hat9 hlt9
                have ba : Below wy.heap.size wy (wy.alloc (.cells #[.int .i64 (zb : Int)] 3)) := (Below.refl _ _).alloc (Nat.le_refl _) _
                have HB9 : Hid (Below wx.heap.size wx w9) := Hid.mk ((HBY.out.trans (ba.mono HBY.out.size)).grown hgrow9 (by simp; omega) (fun k e => (HROW.out.lt k e).1))
                have HR9 : Hid (w9.ownsRow wx.heap.size 3 1 (.slice (some ⟨gg, 0, none⟩) (nv + 1) cap2) (folN (ps.take (j + 1)) i).length ((zs (folN (ps.take (j + 1)) i)).flatMap csZ)) := Hid.mk (by
                  rw [HFT.out, List.length_append, ← HNV.out, zs_append, List.flatMap_append, ← HPX.out]
                  exact hown9)
                clear hown9 hgrow9 hat9 hlt9 ba
                go_wp2
                go_roundw
                case rel => exact ⟨j + 1, _, rfl, by omega, by go_num, HR9.out, HB9.out⟩
                case measure => simp [intOf]; omega
              · obtain ⟨e1, e2⟩ := not_both e
                have HR9 : Hid (wy.ownsRow wx.heap.size 3 1 (.slice va nv vc) (folN (ps.take (j + 1)) i).length ((zs (folN (ps.take (j + 1)) i)).flatMap csZ)) := Hid.mk (by
                  rw [HFO.out, if_neg (by omega), List.append_nil, ← HNV.out, ← HPX.out]
                  exact HROW.out)
                clear e
                go_wp2
                go_roundw
                case rel => exact ⟨j + 1, _, rfl, by omega, by go_num, HR9.out, HBY.out⟩
                case measure => simp [intOf]; omega
            · have hljI : ¬ (j : Int) < (np : Int) := by omega
              obtain ⟨Fi, hFi⟩ : ∃ l, l = riseI nw (zs (folN ps i)) := ⟨_, rfl⟩
              obtain ⟨n5, hn5⟩ : ∃ n, n = Fi.length := ⟨_, rfl⟩
              have hn51 : n5 ≤ 1000 := by rw [hn5, hFi]; have := riseI_len nw (zs (folN ps i)); omega
              have hta : ps.take j = ps := List.take_of_length_le (by rw [← HNP.out]; omega)
              have C : Hid (Calls Try.prog 34 #[.slice va nv vc, .int .i64 (nw : Int)] wy.drew fun e w' => ∃ v', e = .returned v' ∧ w'.ownsRow wy.heap.size 3 1 v' n5 (Fi.flatMap csZ) ∧ Below wy.heap.size wy.drew w') := Hid.mk (by
                have h1 := HROW.out
                have h2 := HNV.out
                rw [HPX.out, hta] at h1
                rw [hta] at h2
                rw [hn5, hFi]
                exact rising_any (L := zs (folN ps i)) (Src.own csZ_len h1.drew (by rw [zs_len]; exact h2)).sl (by rw [zs_len]; omega) nw (by omega))
              have HFI := Hid.mk hFi
              have HN5 := Hid.mk hn5
              have HZY := Hid.mk (HZ.out.below HBY.out)
              have hrow2 := HZY.out.oo
              rw [HOL.out] at hrow2
              obtain ⟨OX, hOX⟩ : ∃ l, l = os.flatMap csW := ⟨_, rfl⟩
              rw [← hOX] at hrow2
              have HROW2 : Hid (wy.ownsRow (w.heap.size + 2) 28 1 (.slice ua i uc) i OX) := Hid.mk hrow2
              have HOX := Hid.mk hOX
              have c3 := (HBY.out.cell (p := ⟨ab, 3, none⟩) habx).trans s3
              have y3 := (HBY.out.frozen (p := ⟨ab, 3, none⟩) habx).trans t3
              have habl : ab < wy.heap.size := by omega
              have HNO : Hid (∀ b, (Value.slice ua i uc).ownBlock = some b → b ≠ ab) := Hid.mk (fun b hb e => own_neO hrow2 HZY.out.a (by decide) (by rw [hb, e]))
              clear hFi hn5 hta hrow2 hOX x0 x1 x2 x3 x4 s0 s1 s2 s3 s4 t0 t1 t2 t3 t4
              go_wp2_with fail
              go_region_law (first
                | (go_simp; refine C.out.mono ?_; rintro e w5 ⟨v5, rfl, ho5, hb5⟩; obtain ⟨a5, k5, hv5⟩ := own_slice ho5; subst hv5; have c35 := (hb5.cell (p := ⟨ab, 3, none⟩) habl).trans c3; have y35 := (hb5.frozen (p := ⟨ab, 3, none⟩) habl).trans y3; have habl5 : ab < w5.heap.size := Nat.lt_of_lt_of_le habl hb5.size)
                | (refine step_append_lies _ (by rfl) _ _ _ (by rfl) (w.heap.size + 2) 28 i0 _ 1 24 Try.underlying29 hi0 hz0 hz1 hz2 rfl (by decide) (.slice ua i uc) _ _ (by rfl) ((owns_below HROW2.out.drew hb5).alloc _) ⟨w5.heap.size, 0, none⟩ 1 1 [.slice a5 n5 k5] (by rfl) (by rfl) (World.news_of_block (cs := #[.slice a5 n5 k5]) (t := 28) (fr := (0, 0)) (heap_alloc_new w5 _)) (by simp [Value.oneCell']) (by decide) (by unfold maxLen; omega) (by omega) (by have := hb5.size; simp at this ⊢; omega) (w5.heap.size + 1) (by simp) ?_; intro gg cap2 w9 hown9 hgrow9 hat9 hlt9; have hh9 := grown_at hgrow9 habl5 (fun e => HNO.out _ (by cases ua <;> exact e) rfl); have q09 := cell_of hh9 c35; have q19 := froz_of hh9 y35))
              all_goals (
                have hA5 : Below wy.heap.size wy (w5.alloc (.cells #[.slice a5 n5 k5] 28)) := ((Below.refl _ _).drew.trans hb5).alloc hb5.size _
                have HZ9 : Hid (ZS w (w9.setCell ⟨ab, 3, none⟩ (.slice (some ⟨gg, 0, none⟩) (i + 1) cap2)) w2.heap.size ab em ⟨.slice wa nw wc, .slice fa nf fc, .slice la nl lc, .slice pa np pc, ws, fs, ls, ps⟩ (.slice a3 nF k3) (.slice a4 nL k4) (.slice (some ⟨gg, 0, none⟩) (i + 1) cap2) (.slice (some ⟨gg, 0, none⟩) (i + 1) cap2) F L (os ++ [(.slice a5 n5 k5, Fi)])) := Hid.mk (((HZY.out.below hA5).grow hgrow9 (by
                  rw [List.length_append, HOL.out, List.flatMap_append, ← HOX.out]
                  exact hown9) (own_mono (by rw [← HN5.out]; exact ho5.alloc _) (by omega))).set _)
                have HO9 : Hid ((os ++ [(Value.slice a5 n5 k5, Fi)]).map (·.2) = (List.range (i + 1)).map (fun k => riseI nw (zs (folN ps k)))) := Hid.mk (by
                  rw [List.map_append, HOS.out, List.range_succ, List.map_append, HFI.out]
                  rfl)
                clear hA5 hown9 hgrow9 hat9 hlt9 hh9 q09 q19 ho5 hb5 c35 y35
                go_wp2
                go_roundw
                case rel => exact ⟨i + 1, _, _, by omega, by go_num, HO9.out, HZ9.out⟩
                case measure => simp [intOf]; omega)
        · have hltI : ¬ (i : Int) < (nw : Int) := by omega
          have hin : i = nw := by omega
          have e1 := HZ.out.res
          obtain ⟨⟨j0, j1, j2, j3, j4⟩, ⟨k0, k1, k2, k3', k4'⟩⟩ := five_cells e1
          obtain ⟨⟨z0, z1, z2, z3, z4⟩, _⟩ := five_cells (set5P_at (c0 := .slice wa nw wc) (c1 := .slice a3 nF k3) (c2 := .slice a4 nL k4) (c3 := .slice ua i uc) (c4 := .bool em) e1)
          have HE : Hid (∃ m : Mu, Ending.returned (.tuple #[.agg #[.slice wa nw wc, .slice a3 nF k3, .slice a4 nL k4, .slice ua i uc, .bool em], .int .i64 0]) = .returned (.tuple #[encU m, .int .i64 ec]) ∧ UOk (fun _ => True) (set5P wx (w.heap.size + 1) (.slice wa nw wc) (.slice a3 nF k3) (.slice a4 nL k4) (.slice ua i uc) (.bool em)) m ∧ m.au = ofA P ∧ Below w.heap.size w (set5P wx (w.heap.size + 1) (.slice wa nw wc) (.slice a3 nF k3) (.slice a4 nL k4) (.slice ua i uc) (.bool em))) := Hid.mk (by
            have hp : ∀ p ∈ os, p.2.length ≤ 1000 := fun p hp => by
              have h1 : p.2 ∈ os.map (·.2) := List.mem_map_of_mem hp
              rw [HOS.out] at h1
              obtain ⟨k, _, e⟩ := List.mem_map.1 h1
              rw [← e]
              have := riseI_len nw (zs (folN ps k))
              omega
            refine ⟨⟨.slice wa nw wc, ws, .slice a3 nF k3, F, .slice a4 nL k4, L, .slice ua i uc, os, em⟩, by rw [HEC.out], HZ.out.uok (by show ws.length ≤ 1000; rw [← HNW.out]; omega) HWB.out (by rw [← HNF.out]; omega) (by rw [← HNL.out]; omega) (by rw [HOL.out]; omega) hp _ _ _ _ _, ?_, Below.set5P HZ.out.bel (by omega) _ _ _ _ _⟩
            have h1 := HRP.out
            obtain ⟨r1, r2, r3, r4⟩ := h1
            dsimp only at r1 r2 r3 r4
            have hw : nw = (prtOf P).words.length := by rw [HNW.out, r1]
            rw [ofA, ← HB.out, if_pos rfl, autoOf]
            show (⟨ws, F, L, os.map (·.2), em⟩ : Au) = auOf (prtOf P)
            rw [HOS.out, hin, HF.out, HL.out, rise_zs, rise_zs, HEM.out, auOf, ← hw, ← r1, ← r2, ← r3, ← r4]
            simp only [rise_zs])
          have Z0 := Hid.mk z0
          have Z1 := Hid.mk z1
          have Z2 := Hid.mk z2
          have Z3 := Hid.mk z3
          have Z4 := Hid.mk z4
          clear z0 z1 z2 z3 z4 e1 hin
          unfold set5P at HE Z0 Z1 Z2 Z3 Z4
          go_wp2
          refine bodyPost_ret (v := .tuple #[.agg #[.slice wa nw wc, .slice a3 nF k3, .slice a4 nL k4, .slice ua i uc, .bool em], .int .i64 0]) ?_ rfl HE.out
          simp [results, Try.results12, go_sem, Z0.out, Z1.out, Z2.out, Z3.out, Z4.out]
end Go.Proofs.Ythdnpddfdlhlaaa

namespace Go.Proofs.Ythdnpddfdlhlaaa
open Go.RowKit Go.Shelf

set_option maxRecDepth 100000 in
set_option maxHeartbeats 8000000 in
theorem pathAutos_walk (t : Vt) (w : World) (h : VOk (fun _ => True) w t) :
    Calls Try.prog 3 #[encN t] w fun e w' => e = .returned (.bool true) ∧ Below w.heap.size w w' := by
  obtain ⟨ao, cap, hv⟩ := h.parts.1.slice
  have hkl := h.parts.2.2.1
  obtain ⟨P, hP⟩ : ∃ P, P = t.pt := ⟨_, rfl⟩
  obtain ⟨b, hb⟩ : ∃ b, b = mayP P := ⟨_, rfl⟩
  obtain ⟨ec, hec⟩ : ∃ e : Int, e = if b = true then 0 else 1 := ⟨_, rfl⟩
  have CF := Hid.mk (fun u (hu : Below w.heap.size w u) => flat_any (h.below hu))
  have CO : Hid (∀ u, Below w.heap.size w u → Calls Try.prog 11 #[encN t] u fun e w' => ∃ m : Mu, e = .returned (.tuple #[encU m, .int .i64 ec]) ∧ UOk (fun _ => True) w' m ∧ m.au = ofA P ∧ Below u.heap.size u w') := Hid.mk (fun u hu => by
    refine (of_any (h.below hu)).mono ?_
    rintro e w' ⟨m, rfl, h2, h3, h4⟩
    exact ⟨m, by rw [hec, hb, hP], h2.sub (fun _ _ => trivial), by rw [h3, hP], h4⟩)
  have CR : Hid (∀ u, Below w.heap.size w u → Calls Try.prog 12 #[encN t] u fun e w' => ∃ m : Mu, e = .returned (.tuple #[encU m, .int .i64 ec]) ∧ UOk (fun _ => True) w' m ∧ m.au = ofA P ∧ Below u.heap.size u w') := Hid.mk (fun u hu => by
    refine (rOfA_any (h.below hu)).mono ?_
    rintro e w' ⟨m, rfl, h2, h3, h4⟩
    exact ⟨m, by rw [hec, hb, hP], h2, by rw [h3, hP], h4⟩)
  have HB := Hid.mk hb
  obtain ⟨k, wd, v, l⟩ := t
  dsimp only at hv hkl
  subst hv
  obtain ⟨n, hn⟩ : ∃ n, n = l.length := ⟨_, rfl⟩
  rw [← hn] at CF CO CR hkl ⊢
  have HEC := Hid.mk hec
  clear h hP hb hn hec
  show Calls Try.prog _ #[.agg #[.int .i64 k, .string ⟨wd.toArray⟩, .slice ao n cap]] w _
  obtain ⟨o, ho⟩ : ∃ o, o = Obj.cells #[.int .i64 k, .string ⟨wd.toArray⟩, .slice ao n cap] 24 := ⟨_, rfl⟩
  have HOB := Hid.mk ho
  have HC : Hid (∀ wr, Below (w.alloc o).heap.size (w.alloc o) wr → wr.cell? ⟨w.heap.size, 0, none⟩ = some (.int .i64 k) ∧ wr.cell? ⟨w.heap.size, 1, none⟩ = some (.string ⟨wd.toArray⟩) ∧ wr.cell? ⟨w.heap.size, 2, none⟩ = some (.slice ao n cap)) := Hid.mk (fun wr hb => by
    have h := box_keptQ hb
    rw [HOB.out] at h
    exact (three_cells h).1)
  have HB0 : Hid (Below (w.alloc o).heap.size (w.alloc o) (w.alloc (.cells #[.int .i64 k, .string ⟨wd.toArray⟩, .slice ao n cap] 24))) := Hid.mk (by rw [HOB.out]; exact Below.refl _ _)
  clear ho
  go_enter Try.func3, Try.ntmps3
  go_wp2_with fail
  refine (CF.out _ (below_boxQ HB0.out)).mono ?_
  rintro e w1 ⟨⟨fl, rfl⟩, hb1⟩
  have HB1 := Hid.mk (HB0.out.trans (hb1.mono HB0.out.size))
  clear hb1
  cases fl with
  | false =>
    go_wp2_with fail
    refine (awake_any _).mono ?_
    rintro e w2 ⟨rfl, hb2⟩
    have HB2 := Hid.mk (HB1.out.trans (hb2.mono HB1.out.size))
    clear hb2
    go_wp2
    go_ret
    exact ⟨rfl, below_boxQ HB2.out⟩
  | true =>
    obtain ⟨c0, c1, c2⟩ := HC.out _ HB1.out
    go_wp2_with fail
    refine (CO.out _ (below_boxQ HB1.out)).mono ?_
    rintro e w2 ⟨m1, rfl, hu1, ha1, hb2⟩
    have HB2 := Hid.mk (HB1.out.trans (hb2.mono HB1.out.size))
    clear c0 c1 c2 hb2
    obtain ⟨wa, wc, fa, fc, la, lc, oa, oc, e1, e2, e3, e4⟩ := hu1.slices
    have HU1 := Hid.mk hu1
    have HA1 := Hid.mk ha1
    obtain ⟨wv1, ws1, fv1, fs1, lv1, ls1, ov1, os1, em1⟩ := m1
    dsimp only at e1 e2 e3 e4
    subst e1 e2 e3 e4
    obtain ⟨nw1, hnw1⟩ : ∃ n, n = ws1.length := ⟨_, rfl⟩
    obtain ⟨nf1, hnf1⟩ : ∃ n, n = fs1.length := ⟨_, rfl⟩
    obtain ⟨nl1, hnl1⟩ : ∃ n, n = ls1.length := ⟨_, rfl⟩
    obtain ⟨no1, hno1⟩ : ∃ n, n = os1.length := ⟨_, rfl⟩
    rw [← hnw1, ← hnf1, ← hnl1, ← hno1] at HU1 HA1 ⊢
    obtain ⟨O1, hO1⟩ : ∃ o, o = Obj.cells #[.slice wa nw1 wc, .slice fa nf1 fc, .slice la nl1 lc, .slice oa no1 oc, .bool em1] 31 := ⟨_, rfl⟩
    have HO1 := Hid.mk hO1
    clear hu1 ha1 hnw1 hnf1 hnl1 hno1 hO1
    have HG1 : Hid (Below (w2.alloc O1).heap.size (w2.alloc O1) (w2.alloc (.cells #[.slice wa nw1 wc, .slice fa nf1 fc, .slice la nl1 lc, .slice oa no1 oc, .bool em1] 31))) := Hid.mk (by rw [HO1.out]; exact Below.refl _ _)
    have KA1 : Hid (∀ u, Below (w2.alloc O1).heap.size (w2.alloc O1) u → (u.cell? ⟨w2.heap.size, 0, none⟩ = some (.slice wa nw1 wc) ∧ u.cell? ⟨w2.heap.size, 1, none⟩ = some (.slice fa nf1 fc) ∧ u.cell? ⟨w2.heap.size, 2, none⟩ = some (.slice la nl1 lc) ∧ u.cell? ⟨w2.heap.size, 3, none⟩ = some (.slice oa no1 oc) ∧ u.cell? ⟨w2.heap.size, 4, none⟩ = some (.bool em1)) ∧ Below w2.heap.size w2 u ∧ Below (w.alloc o).heap.size (w.alloc o) u) := Hid.mk (fun u hu => by
      have h := box_keptQ hu
      rw [HO1.out] at h
      exact ⟨cells5 h, below_boxQ hu, HB2.out.trans ((below_boxQ hu).mono HB2.out.size)⟩)
    obtain ⟨c0, c1, c2⟩ := HC.out _ (KA1.out _ HG1.out).2.2
    obtain ⟨d0, d1, d2⟩ := HC.out _ HB2.out
    go_wp2_with fail
    refine (CR.out _ (below_boxQ (KA1.out _ HG1.out).2.2)).mono ?_
    rintro e w3 ⟨m2, rfl, hu2, ha2, hb3⟩
    have HG3 := Hid.mk (HG1.out.trans (hb3.mono HG1.out.size))
    clear c0 c1 c2 d0 d1 d2 hb3
    obtain ⟨xa, xc, ga, gc, ka, kc, pa, pc, e5, e6, e7, e8⟩ := hu2.slices
    have HU2 := Hid.mk hu2
    have HA2 := Hid.mk ha2
    obtain ⟨wv2, ws2, fv2, fs2, lv2, ls2, ov2, os2, em2⟩ := m2
    dsimp only at e5 e6 e7 e8
    subst e5 e6 e7 e8
    obtain ⟨nw2, hnw2⟩ : ∃ n, n = ws2.length := ⟨_, rfl⟩
    obtain ⟨nf2, hnf2⟩ : ∃ n, n = fs2.length := ⟨_, rfl⟩
    obtain ⟨nl2, hnl2⟩ : ∃ n, n = ls2.length := ⟨_, rfl⟩
    obtain ⟨no2, hno2⟩ : ∃ n, n = os2.length := ⟨_, rfl⟩
    rw [← hnw2, ← hnf2, ← hnl2, ← hno2] at HU2 HA2 ⊢
    obtain ⟨O2, hO2⟩ : ∃ o, o = Obj.cells #[.slice xa nw2 xc, .slice ga nf2 gc, .slice ka nl2 kc, .slice pa no2 pc, .bool em2] 31 := ⟨_, rfl⟩
    have HO2 := Hid.mk hO2
    clear hu2 ha2 hnw2 hnf2 hnl2 hno2 hO2
    have HG4 : Hid (Below (w3.alloc O2).heap.size (w3.alloc O2) (w3.alloc (.cells #[.slice xa nw2 xc, .slice ga nf2 gc, .slice ka nl2 kc, .slice pa no2 pc, .bool em2] 31))) := Hid.mk (by rw [HO2.out]; exact Below.refl _ _)
    have KA2 : Hid (∀ u, Below (w3.alloc O2).heap.size (w3.alloc O2) u → (u.cell? ⟨w3.heap.size, 0, none⟩ = some (.slice xa nw2 xc) ∧ u.cell? ⟨w3.heap.size, 1, none⟩ = some (.slice ga nf2 gc) ∧ u.cell? ⟨w3.heap.size, 2, none⟩ = some (.slice ka nl2 kc) ∧ u.cell? ⟨w3.heap.size, 3, none⟩ = some (.slice pa no2 pc) ∧ u.cell? ⟨w3.heap.size, 4, none⟩ = some (.bool em2)) ∧ Below w3.heap.size w3 u ∧ Below (w2.alloc O1).heap.size (w2.alloc O1) u) := Hid.mk (fun u hu => by
      have h := box_keptQ hu
      rw [HO2.out] at h
      exact ⟨cells5 h, below_boxQ hu, HG3.out.trans ((below_boxQ hu).mono HG3.out.size)⟩)
    have CS : Hid (∀ u, Below (w3.alloc O2).heap.size (w3.alloc O2) u → Calls Try.prog 13 #[.agg #[.slice wa nw1 wc, .slice fa nf1 fc, .slice la nl1 lc, .slice oa no1 oc, .bool em1], .agg #[.slice xa nw2 xc, .slice ga nf2 gc, .slice ka nl2 kc, .slice pa no2 pc, .bool em2]] u fun e w' => e = .returned (.bool true) ∧ Below u.heap.size u w') := Hid.mk (fun u hu => by
      have h := rSame_any (HU1.out.below (KA1.out _ (KA2.out _ hu).2.2).2.1) (HU2.out.below (KA2.out _ hu).2.1)
      rw [HA1.out, HA2.out, (sameA_iff _ _).2 rfl] at h
      exact h)
    have CC : Hid (b = true → ∀ u, Below (w3.alloc O2).heap.size (w3.alloc O2) u → Calls Try.prog 14 #[.agg #[.slice wa nw1 wc, .slice fa nf1 fc, .slice la nl1 lc, .slice oa no1 oc, .bool em1]] u fun e w' => e = .returned (.int .i64 0) ∧ Below u.heap.size u w') := Hid.mk (fun h1 u hu => by
      have h := checkA_any (HU1.out.below (KA1.out _ (KA2.out _ hu).2.2).2.1)
      have hm : mayA (ofA P) = true := by rw [ofA, ← HB.out, if_pos h1]; exact (auto_will (by rw [← HB.out]; exact h1)).1
      rw [HA1.out, if_pos hm] at h
      exact h)
    have HEQ : Hid (∀ u, Below (w3.alloc O2).heap.size (w3.alloc O2) u → Below w.heap.size w u) := Hid.mk (fun u hu => below_boxQ (KA1.out _ (KA2.out _ hu).2.2).2.2)
    obtain ⟨x0, x1, x2, x3, x4⟩ := (KA2.out _ HG4.out).1
    obtain ⟨y0, y1, y2, y3, y4⟩ := (KA1.out _ (KA2.out _ HG4.out).2.2).1
    obtain ⟨v0, v1, v2, v3, v4⟩ := (KA1.out _ HG3.out).1
    have hl2 : w2.heap.size < w3.heap.size := lt_of_block (box_keptQ HG3.out)
    go_wp2_with fail
    refine (CS.out _ HG4.out).mono ?_
    rintro e w4 ⟨rfl, hb4⟩
    have HG5 := Hid.mk (HG4.out.trans (hb4.mono HG4.out.size))
    clear hb4 x0 x1 x2 x3 x4 y0 y1 y2 y3 y4 v0 v1 v2 v3 v4
    obtain ⟨y0, y1, y2, y3, y4⟩ := (KA1.out _ (KA2.out _ HG5.out).2.2).1
    cases b with
    | false =>
      have hec1 : ec = 1 := by rw [HEC.out]; rfl
      subst hec1
      go_wp2_with fail
      refine (awake_any _).mono ?_
      rintro e w6 ⟨rfl, hb6⟩
      have HG6 := Hid.mk (HG5.out.trans (hb6.mono HG5.out.size))
      clear hb6
      go_wp2
      go_ret
      exact ⟨rfl, HEQ.out _ HG6.out⟩
    | true =>
      have hec0 : ec = 0 := by rw [HEC.out]; rfl
      subst hec0
      have CC2 := Hid.mk (CC.out rfl)
      go_wp2_with fail
      refine (CC2.out _ HG5.out).mono ?_
      rintro e w6 ⟨rfl, hb6⟩
      have HG6 := Hid.mk (HG5.out.trans (hb6.mono HG5.out.size))
      clear hb6 y0 y1 y2 y3 y4
      go_wp2_with fail
      refine (awake_any _).mono ?_
      rintro e w7 ⟨rfl, hb7⟩
      have HG7 := Hid.mk (HG6.out.trans (hb7.mono HG6.out.size))
      clear hb7
      go_wp2
      go_ret
      exact ⟨rfl, HEQ.out _ HG7.out⟩
end Go.Proofs.Ythdnpddfdlhlaaa
