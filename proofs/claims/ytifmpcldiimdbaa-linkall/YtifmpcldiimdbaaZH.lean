/- Parts of the proofs of stage 15. -/
import Derived.Test.YtifmpcldiimdbaaZG
import Derived.BigRegion
namespace Go.Proofs.Ytifmpcldiimdbaa
open Go.RowKit

/-- What onlyNote ends with. -/
def OnE (l : List UInt8) (w : World) (x : Ending) (w' : World) : Prop :=
  ∃ v, x = .returned (.tuple #[v, .bool (onlyP l).2]) ∧ NoteOwn w' w.heap.size v (onlyP l).1 ∧ Below w.heap.size w w'
theorem onE_of {l : List UInt8} {w w' : World} {v : Value} {n : NoteD} {k r : Nat} {c : Bool} (hn : (unpackP l).1 = n) (hk : (unpackP l).2.1 = k) (hr : (unpackP l).2.2 = r) (hc : c = (decide (r = 0) && decide (k = l.length))) (h1 : NoteOwn w' w.heap.size v n) (h2 : Below w.heap.size w w') :
    OnE l w (.returned (.tuple #[v, .bool c])) w' := ⟨v, by rw [hc, onlyP, hk, hr], by rw [← hn] at h1; exact h1, h2⟩
set_option maxRecDepth 100000 in
set_option maxHeartbeats 1000000 in
theorem only_any (l : List UInt8) (w : World) (hl : l.length ≤ 140737488351232) : Calls Try.prog 54 #[.string ⟨l.toArray⟩] w (OnE l w) := by
  have C : Hid (Calls Try.prog 72 #[.string ⟨l.toArray⟩] (resW w) (UEnd l (resW w))) := Hid.mk (unpack_any l (resW w) hl)
  unfold UEnd at C
  obtain ⟨n, hn⟩ : ∃ n, (unpackP l).1 = n := ⟨_, rfl⟩
  obtain ⟨k, hk⟩ : ∃ k, (unpackP l).2.1 = k := ⟨_, rfl⟩
  obtain ⟨r, hr⟩ : ∃ r, (unpackP l).2.2 = r := ⟨_, rfl⟩
  rw [hn, hk, hr] at C
  have HN := Hid.mk hn
  have HK := Hid.mk hk
  have HR := Hid.mk hr
  clear hn hk hr
  have hsz : (⟨l.toArray⟩ : ByteArray).size = l.length := by rw [size_list]
  have HRN : Hid ((resW w).heap.size = w.heap.size + 1) := Hid.mk (by simp)
  go_enter Try.func54, Try.ntmps54
  go_wp2_with fail
  refine C.out.mono ?_
  rintro x w1 ⟨v, rfl, hown, hb⟩
  obtain ⟨a0, l0, c0, a1, l1, c1, a2, l2, c2, rfl⟩ := own_parts hown
  rw [HRN.out] at hown hb
  obtain ⟨W2, hW2⟩ : ∃ W2, W2 = w1.alloc (.cells #[.int .i64 n.kind, .slice a0 l0 c0, .slice a1 l1 c1, .slice a2 l2 c2] 36) := ⟨_, rfl⟩
  have hb2 : Below (w.heap.size + 1) (resW w) W2 := by rw [hW2]; exact hb.alloc (Nat.le_trans (by rw [HRN.out]; exact Nat.le_refl _) hb.size) _
  have hown2 : NoteOwn W2 (w.heap.size + 1) (.agg #[.int .i64 n.kind, .slice a0 l0 c0, .slice a1 l1 c1, .slice a2 l2 c2]) n := by rw [hW2]; exact hown.below ((Below.refl _ _).alloc (Nat.le_refl _) _)
  have hsz1 : w1.heap.size + 1 = W2.heap.size := by rw [hW2]; simp
  obtain ⟨⟨q0, q1, q2, q3⟩, -⟩ := four_cells (show W2.heap[w1.heap.size]? = some (.cells #[.int .i64 n.kind, .slice a0 l0 c0, .slice a1 l1 c1, .slice a2 l2 c2] 36 (0, 0)) by rw [hW2]; exact box_at w1 _)
  obtain ⟨⟨r0, r1, r2, r3⟩, ⟨f0, f1, f2, f3⟩⟩ := four_cells (res_block hb2)
  have hblk := set4_block (res_block hb2) (.int .i64 n.kind) (.slice a0 l0 c0) (.slice a1 l1 c1) (.slice a2 l2 c2)
  obtain ⟨⟨z0, z1, z2, z3⟩, -⟩ := four_cells hblk
  have HE : Hid (∀ c : Bool, c = (decide (r = 0) && decide (k = l.length)) → OnE l w (.returned (.tuple #[.agg #[.int .i64 n.kind, .slice a0 l0 c0, .slice a1 l1 c1, .slice a2 l2 c2], .bool c])) (set4 W2 w.heap.size (.int .i64 n.kind) (.slice a0 l0 c0) (.slice a1 l1 c1) (.slice a2 l2 c2))) :=
    Hid.mk (fun c hc => onE_of HN.out HK.out HR.out hc ((set4_own hown2 (by omega) _ _ _ _).base (by omega)) (set4_below (res_below hb2) (Nat.le_refl _) _ _ _ _))
  have Z0 := Hid.mk z0
  have Z1 := Hid.mk z1
  have Z2 := Hid.mk z2
  have Z3 := Hid.mk z3
  have HSZ1 := Hid.mk hsz1
  clear z0 z1 z2 z3 hown hown2 hb hb2 hblk hsz1 HSZ1
  subst hW2
  by_cases h1 : r = 0
  · subst h1
    by_cases h2 : k = l.length
    · have h2I : ((k : Int) == (l.length : Int)) = true := by simp; omega
      have HE2 := Hid.mk (HE.out true (by simp [h2]))
      clear h2 HE
      go_wp2
      refine bodyPost_ret (v := .tuple #[.agg #[.int .i64 n.kind, .slice a0 l0 c0, .slice a1 l1 c1, .slice a2 l2 c2], .bool true]) ?_ rfl HE2.out
      simp [results, Try.results54, go_sem, Z0.out, Z1.out, Z2.out, Z3.out]
    · have h2I : ((k : Int) == (l.length : Int)) = false := by simp; omega
      have HE2 := Hid.mk (HE.out false (by simp [h2]))
      clear h2 HE
      go_wp2
      refine bodyPost_ret (v := .tuple #[.agg #[.int .i64 n.kind, .slice a0 l0 c0, .slice a1 l1 c1, .slice a2 l2 c2], .bool false]) ?_ rfl HE2.out
      simp [results, Try.results54, go_sem, Z0.out, Z1.out, Z2.out, Z3.out]
  · have h1I : ((r : Int) == 0) = false := by simp; omega
    have h1J : ¬ (r : Int) = 0 := by omega
    have HE2 := Hid.mk (HE.out false (by simp [h1]))
    clear h1 HE
    go_wp2
    refine bodyPost_ret (v := .tuple #[.agg #[.int .i64 n.kind, .slice a0 l0 c0, .slice a1 l1 c1, .slice a2 l2 c2], .bool false]) ?_ rfl HE2.out
    simp [results, Try.results54, go_sem, Z0.out, Z1.out, Z2.out, Z3.out]
end Go.Proofs.Ytifmpcldiimdbaa

namespace Go.Proofs.Ytifmpcldiimdbaa
open Go.RowKit

theorem nine_cells {w : World} {b : Nat} {c0 c1 c2 c3 c4 c5 c6 c7 c8 : Value} {t : TypeId} (h : w.heap[b]? = some (.cells #[c0, c1, c2, c3, c4, c5, c6, c7, c8] t (0, 0))) :
    (w.cell? ⟨b, 0, none⟩ = some c0 ∧ w.cell? ⟨b, 1, none⟩ = some c1 ∧ w.cell? ⟨b, 2, none⟩ = some c2 ∧ w.cell? ⟨b, 3, none⟩ = some c3 ∧ w.cell? ⟨b, 4, none⟩ = some c4 ∧ w.cell? ⟨b, 5, none⟩ = some c5 ∧ w.cell? ⟨b, 6, none⟩ = some c6 ∧ w.cell? ⟨b, 7, none⟩ = some c7 ∧ w.cell? ⟨b, 8, none⟩ = some c8) ∧
    (w.frozen? ⟨b, 0, none⟩ = false ∧ w.frozen? ⟨b, 1, none⟩ = false ∧ w.frozen? ⟨b, 2, none⟩ = false ∧ w.frozen? ⟨b, 3, none⟩ = false ∧ w.frozen? ⟨b, 4, none⟩ = false ∧ w.frozen? ⟨b, 5, none⟩ = false ∧ w.frozen? ⟨b, 6, none⟩ = false ∧ w.frozen? ⟨b, 7, none⟩ = false ∧ w.frozen? ⟨b, 8, none⟩ = false) := by
  simp [World.cell?, World.frozen?, h]
theorem nine_set0 {w : World} {b : Nat} {c0 c1 c2 c3 c4 c5 c6 c7 c8 v : Value} {t : TypeId} (h : w.heap[b]? = some (.cells #[c0, c1, c2, c3, c4, c5, c6, c7, c8] t (0, 0))) : (w.setCell ⟨b, 0, none⟩ v).heap[b]? = some (.cells #[v, c1, c2, c3, c4, c5, c6, c7, c8] t (0, 0)) := by simp [World.setCell, Array.getElem?_modify, h]
theorem nine_set1 {w : World} {b : Nat} {c0 c1 c2 c3 c4 c5 c6 c7 c8 v : Value} {t : TypeId} (h : w.heap[b]? = some (.cells #[c0, c1, c2, c3, c4, c5, c6, c7, c8] t (0, 0))) : (w.setCell ⟨b, 1, none⟩ v).heap[b]? = some (.cells #[c0, v, c2, c3, c4, c5, c6, c7, c8] t (0, 0)) := by simp [World.setCell, Array.getElem?_modify, h]
theorem nine_set2 {w : World} {b : Nat} {c0 c1 c2 c3 c4 c5 c6 c7 c8 v : Value} {t : TypeId} (h : w.heap[b]? = some (.cells #[c0, c1, c2, c3, c4, c5, c6, c7, c8] t (0, 0))) : (w.setCell ⟨b, 2, none⟩ v).heap[b]? = some (.cells #[c0, c1, v, c3, c4, c5, c6, c7, c8] t (0, 0)) := by simp [World.setCell, Array.getElem?_modify, h]
theorem nine_set3 {w : World} {b : Nat} {c0 c1 c2 c3 c4 c5 c6 c7 c8 v : Value} {t : TypeId} (h : w.heap[b]? = some (.cells #[c0, c1, c2, c3, c4, c5, c6, c7, c8] t (0, 0))) : (w.setCell ⟨b, 3, none⟩ v).heap[b]? = some (.cells #[c0, c1, c2, v, c4, c5, c6, c7, c8] t (0, 0)) := by simp [World.setCell, Array.getElem?_modify, h]
theorem nine_set4 {w : World} {b : Nat} {c0 c1 c2 c3 c4 c5 c6 c7 c8 v : Value} {t : TypeId} (h : w.heap[b]? = some (.cells #[c0, c1, c2, c3, c4, c5, c6, c7, c8] t (0, 0))) : (w.setCell ⟨b, 4, none⟩ v).heap[b]? = some (.cells #[c0, c1, c2, c3, v, c5, c6, c7, c8] t (0, 0)) := by simp [World.setCell, Array.getElem?_modify, h]
theorem nine_set5 {w : World} {b : Nat} {c0 c1 c2 c3 c4 c5 c6 c7 c8 v : Value} {t : TypeId} (h : w.heap[b]? = some (.cells #[c0, c1, c2, c3, c4, c5, c6, c7, c8] t (0, 0))) : (w.setCell ⟨b, 5, none⟩ v).heap[b]? = some (.cells #[c0, c1, c2, c3, c4, v, c6, c7, c8] t (0, 0)) := by simp [World.setCell, Array.getElem?_modify, h]
theorem nine_set6 {w : World} {b : Nat} {c0 c1 c2 c3 c4 c5 c6 c7 c8 v : Value} {t : TypeId} (h : w.heap[b]? = some (.cells #[c0, c1, c2, c3, c4, c5, c6, c7, c8] t (0, 0))) : (w.setCell ⟨b, 6, none⟩ v).heap[b]? = some (.cells #[c0, c1, c2, c3, c4, c5, v, c7, c8] t (0, 0)) := by simp [World.setCell, Array.getElem?_modify, h]
theorem nine_set7 {w : World} {b : Nat} {c0 c1 c2 c3 c4 c5 c6 c7 c8 v : Value} {t : TypeId} (h : w.heap[b]? = some (.cells #[c0, c1, c2, c3, c4, c5, c6, c7, c8] t (0, 0))) : (w.setCell ⟨b, 7, none⟩ v).heap[b]? = some (.cells #[c0, c1, c2, c3, c4, c5, c6, v, c8] t (0, 0)) := by simp [World.setCell, Array.getElem?_modify, h]
theorem nine_set8 {w : World} {b : Nat} {c0 c1 c2 c3 c4 c5 c6 c7 c8 v : Value} {t : TypeId} (h : w.heap[b]? = some (.cells #[c0, c1, c2, c3, c4, c5, c6, c7, c8] t (0, 0))) : (w.setCell ⟨b, 8, none⟩ v).heap[b]? = some (.cells #[c0, c1, c2, c3, c4, c5, c6, c7, v] t (0, 0)) := by simp [World.setCell, Array.getElem?_modify, h]
abbrev set9 (w : World) (b : Nat) (u0 u1 u2 u3 u4 u5 u6 u7 u8 : Value) : World := (((((((((w.setCell ⟨b, 0, none⟩ u0).setCell ⟨b, 1, none⟩ u1).setCell ⟨b, 2, none⟩ u2).setCell ⟨b, 3, none⟩ u3).setCell ⟨b, 4, none⟩ u4).setCell ⟨b, 5, none⟩ u5).setCell ⟨b, 6, none⟩ u6).setCell ⟨b, 7, none⟩ u7).setCell ⟨b, 8, none⟩ u8)
theorem set9_block {w : World} {b : Nat} {c0 c1 c2 c3 c4 c5 c6 c7 c8 : Value} {t : TypeId} (h : w.heap[b]? = some (.cells #[c0, c1, c2, c3, c4, c5, c6, c7, c8] t (0, 0))) (u0 u1 u2 u3 u4 u5 u6 u7 u8 : Value) : (set9 w b u0 u1 u2 u3 u4 u5 u6 u7 u8).heap[b]? = some (.cells #[u0, u1, u2, u3, u4, u5, u6, u7, u8] t (0, 0)) := (nine_set8 (nine_set7 (nine_set6 (nine_set5 (nine_set4 (nine_set3 (nine_set2 (nine_set1 (nine_set0 h)))))))))
theorem set9_below {a w : World} {B b : Nat} (h : Below B a w) (hb : B ≤ b) (u0 u1 u2 u3 u4 u5 u6 u7 u8 : Value) : Below B a (set9 w b u0 u1 u2 u3 u4 u5 u6 u7 u8) := (((((((((h.setCell (p := ⟨b, 0, none⟩) hb _).setCell (p := ⟨b, 1, none⟩) hb _).setCell (p := ⟨b, 2, none⟩) hb _).setCell (p := ⟨b, 3, none⟩) hb _).setCell (p := ⟨b, 4, none⟩) hb _).setCell (p := ⟨b, 5, none⟩) hb _).setCell (p := ⟨b, 6, none⟩) hb _).setCell (p := ⟨b, 7, none⟩) hb _).setCell (p := ⟨b, 8, none⟩) hb _)
theorem set9_own {w : World} {B b : Nat} {v : Value} {n : NoteD} (h : NoteOwn w B v n) (hb : b < B) (u0 u1 u2 u3 u4 u5 u6 u7 u8 : Value) : NoteOwn (set9 w b u0 u1 u2 u3 u4 u5 u6 u7 u8) B v n := (((((((((h.set hb).set hb).set hb).set hb).set hb).set hb).set hb).set hb).set hb)
theorem set9_other {w : World} {b k : Nat} (hk : k ≠ b) (u0 u1 u2 u3 u4 u5 u6 u7 u8 : Value) : (set9 w b u0 u1 u2 u3 u4 u5 u6 u7 u8).heap[k]? = w.heap[k]? := ((Below.heap_setCell ((((((((w.setCell ⟨b, 0, none⟩ u0).setCell ⟨b, 1, none⟩ u1).setCell ⟨b, 2, none⟩ u2).setCell ⟨b, 3, none⟩ u3).setCell ⟨b, 4, none⟩ u4).setCell ⟨b, 5, none⟩ u5).setCell ⟨b, 6, none⟩ u6).setCell ⟨b, 7, none⟩ u7) ⟨b, 8, none⟩ u8 k hk).trans ((Below.heap_setCell (((((((w.setCell ⟨b, 0, none⟩ u0).setCell ⟨b, 1, none⟩ u1).setCell ⟨b, 2, none⟩ u2).setCell ⟨b, 3, none⟩ u3).setCell ⟨b, 4, none⟩ u4).setCell ⟨b, 5, none⟩ u5).setCell ⟨b, 6, none⟩ u6) ⟨b, 7, none⟩ u7 k hk).trans ((Below.heap_setCell ((((((w.setCell ⟨b, 0, none⟩ u0).setCell ⟨b, 1, none⟩ u1).setCell ⟨b, 2, none⟩ u2).setCell ⟨b, 3, none⟩ u3).setCell ⟨b, 4, none⟩ u4).setCell ⟨b, 5, none⟩ u5) ⟨b, 6, none⟩ u6 k hk).trans ((Below.heap_setCell (((((w.setCell ⟨b, 0, none⟩ u0).setCell ⟨b, 1, none⟩ u1).setCell ⟨b, 2, none⟩ u2).setCell ⟨b, 3, none⟩ u3).setCell ⟨b, 4, none⟩ u4) ⟨b, 5, none⟩ u5 k hk).trans ((Below.heap_setCell ((((w.setCell ⟨b, 0, none⟩ u0).setCell ⟨b, 1, none⟩ u1).setCell ⟨b, 2, none⟩ u2).setCell ⟨b, 3, none⟩ u3) ⟨b, 4, none⟩ u4 k hk).trans ((Below.heap_setCell (((w.setCell ⟨b, 0, none⟩ u0).setCell ⟨b, 1, none⟩ u1).setCell ⟨b, 2, none⟩ u2) ⟨b, 3, none⟩ u3 k hk).trans ((Below.heap_setCell ((w.setCell ⟨b, 0, none⟩ u0).setCell ⟨b, 1, none⟩ u1) ⟨b, 2, none⟩ u2 k hk).trans ((Below.heap_setCell (w.setCell ⟨b, 0, none⟩ u0) ⟨b, 1, none⟩ u1 k hk).trans (Below.heap_setCell w ⟨b, 0, none⟩ u0 k hk)))))))))
theorem drew_heap (w : World) (k : Nat) : w.drew.heap[k]? = w.heap[k]? := rfl
theorem set9_drew {w : World} {b k : Nat} (hk : k ≠ b) (u0 u1 u2 u3 u4 u5 u6 u7 u8 : Value) : (set9 w b u0 u1 u2 u3 u4 u5 u6 u7 u8).drew.heap[k]? = w.heap[k]? := (drew_heap _ k).trans (set9_other hk u0 u1 u2 u3 u4 u5 u6 u7 u8)

/-- The world with the result's variable. -/
abbrev resH (w : World) : World := w.alloc (.cells #[.int .i64 0, .int .i64 0, .int .i64 0, .bool false, .int .i64 0, .int .i64 0, .slice none 0 0, .slice none 0 0, .slice none 0 0] 86)
/-- What heardOf answers: cells, and whether there is something. -/
def HdV (l : List UInt8) (w' : World) (B : Nat) (a b c : Int) (d : Bool) (f k : Int) (s0 s1 s2 : Value) (ok : Bool) : Prop :=
  match heardP l with
  | none => ok = false
  | some h => ok = true ∧ a = h.ep ∧ b = h.ot ∧ c = h.wt ∧ d = h.ca ∧ f = h.nr ∧ k = h.pl.kind ∧ NoteOwn w' B (.agg #[.int .i64 k, s0, s1, s2]) h.pl
def HdE (l : List UInt8) (w : World) (x : Ending) (w' : World) : Prop :=
  (∃ a b c d f k a0 l0 c0 a1 l1 c1 a2 l2 c2 ok, x = .returned (.tuple #[.agg #[.int .i64 a, .int .i64 b, .int .i64 c, .bool d, .int .i64 f, .int .i64 k, .slice a0 l0 c0, .slice a1 l1 c1, .slice a2 l2 c2], .bool ok]) ∧
    HdV l w' w.heap.size a b c d f k (.slice a0 l0 c0) (.slice a1 l1 c1) (.slice a2 l2 c2) ok) ∧ Below w.heap.size w w'
theorem hdE_none {l : List UInt8} {w w' : World} (h : heardP l = none) (hb : Below w.heap.size w w') : HdE l w (.returned (.tuple #[.agg #[.int .i64 0, .int .i64 0, .int .i64 0, .bool false, .int .i64 0, .int .i64 0, .slice none 0 0, .slice none 0 0, .slice none 0 0], .bool false])) w' :=
  ⟨⟨0, 0, 0, false, 0, 0, none, 0, 0, none, 0, 0, none, 0, 0, false, rfl, by unfold HdV; rw [h]⟩, hb⟩
theorem hdE_some {l : List UInt8} {w w' : World} {h : Hd} {a0 a1 a2 : Option Addr} {l0 c0 l1 c1 l2 c2 : Nat} (e : heardP l = some h) (hb : Below w.heap.size w w') (ho : NoteOwn w' w.heap.size (.agg #[.int .i64 h.pl.kind, .slice a0 l0 c0, .slice a1 l1 c1, .slice a2 l2 c2]) h.pl) :
    HdE l w (.returned (.tuple #[.agg #[.int .i64 h.ep, .int .i64 h.ot, .int .i64 h.wt, .bool h.ca, .int .i64 h.nr, .int .i64 h.pl.kind, .slice a0 l0 c0, .slice a1 l1 c1, .slice a2 l2 c2], .bool true])) w' :=
  ⟨⟨h.ep, h.ot, h.wt, h.ca, h.nr, h.pl.kind, a0, l0, c0, a1, l1, c1, a2, l2, c2, true, rfl, by unfold HdV; rw [e]; exact ⟨rfl, rfl, rfl, rfl, rfl, rfl, rfl, ho⟩⟩, hb⟩
theorem hdE_not {l : List UInt8} {w w' : World} (a b c f k : Int) (d : Bool) (a0 a1 a2 : Option Addr) (l0 c0 l1 c1 l2 c2 : Nat) (e : heardP l = none) (hb : Below w.heap.size w w') :
    HdE l w (.returned (.tuple #[.agg #[.int .i64 a, .int .i64 b, .int .i64 c, .bool d, .int .i64 f, .int .i64 k, .slice a0 l0 c0, .slice a1 l1 c1, .slice a2 l2 c2], .bool false])) w' :=
  ⟨⟨a, b, c, d, f, k, a0, l0, c0, a1, l1, c1, a2, l2, c2, false, rfl, by unfold HdV; rw [e]⟩, hb⟩
theorem hdE_drew {l : List UInt8} {w w' : World} {x : Ending} (h : HdE l w x w') : HdE l w x w'.drew := by
  obtain ⟨⟨a, b, c, d, f, k, a0, l0, c0, a1, l1, c1, a2, l2, c2, ok, e, hv⟩, hb⟩ := h
  refine ⟨⟨a, b, c, d, f, k, a0, l0, c0, a1, l1, c1, a2, l2, c2, ok, e, ?_⟩, below_drewE hb⟩
  unfold HdV at hv ⊢
  split at hv
  · exact hv
  · obtain ⟨h1, h2, h3, h4, h5, h6, h7, h8⟩ := hv
    exact ⟨h1, h2, h3, h4, h5, h6, h7, h8.below (below_drewE (Below.refl _ _))⟩
theorem resH_below {w w1 : World} (h : Below (w.heap.size + 1) (resH w) w1) : Below w.heap.size w w1 := ((Below.refl _ _).alloc (Nat.le_refl _) _).trans (h.mono (by omega))
theorem resH_block {w w1 : World} (h : Below (w.heap.size + 1) (resH w) w1) : w1.heap[w.heap.size]? = some (.cells #[.int .i64 0, .int .i64 0, .int .i64 0, .bool false, .int .i64 0, .int .i64 0, .slice none 0 0, .slice none 0 0, .slice none 0 0] 86 (0, 0)) := (h.block _ (by simp)).trans (box_at w _)
theorem RowIn.cellI {w : World} {B : Nat} {ao : Option Addr} {n c : Nat} {ns : List Int} (h : RowIn w B 3 (.slice ao n c) (intCs ns)) (hne : ns ≠ []) : ∃ g o, ao = some ⟨g, o, none⟩ ∧ B ≤ g ∧ ∀ (j : Nat) x, ns[j]? = some x → w.cell? ⟨g, o + j, none⟩ = some (.int .i64 x) := by
  rcases h with ⟨ao', cap, e, h0⟩ | ⟨g, o, cap, cur, fz, e1, e2, e3, e4⟩
  · exact absurd (List.map_eq_nil_iff.1 h0) hne
  · injection e1 with e1
    refine ⟨g, o, e1, e2, fun j x hx => ?_⟩
    simp only [World.cell?, e3]
    exact e4 j _ (by rw [intCs, List.getElem?_map, hx]; rfl)
theorem RowIn.lenI {w : World} {B : Nat} {ao : Option Addr} {n c : Nat} {ns : List Int} (h : RowIn w B 3 (.slice ao n c) (intCs ns)) : n = ns.length := by
  rcases h with ⟨ao', cap, e, h0⟩ | ⟨g, o, cap, cur, fz, e1, e2, e3, e4⟩
  · injection e with _ e5
    rw [e5, List.map_eq_nil_iff.1 h0]
    rfl
  · injection e1 with e1 e5
    rw [e5, intCs_len]
theorem own_len {w : World} {B m : Nat} {e : TypeId} {size : Nat} {ao : Option Addr} {n c : Nat} {xs : List Value} (h : w.ownsRow B e size (.slice ao n c) m xs) : n = m := by
  obtain ⟨_, _, e⟩ := own_slice h
  injection e
/-- A note's parts: lengths, and what can be read. -/
theorem own_read {w : World} {B : Nat} {a0 a1 a2 : Option Addr} {l0 c0 l1 c1 l2 c2 : Nat} {n : NoteD} (h : NoteOwn w B (.agg #[.int .i64 n.kind, .slice a0 l0 c0, .slice a1 l1 c1, .slice a2 l2 c2]) n) :
    l0 = n.nums.length ∧ l1 = n.texts.length ∧ l2 = n.rows.length ∧ (n.nums ≠ [] → ∃ g o, a0 = some ⟨g, o, none⟩ ∧ B ≤ g ∧ ∀ (j : Nat) x, n.nums[j]? = some x → w.cell? ⟨g, o + j, none⟩ = some (.int .i64 x)) ∧
    (n.texts ≠ [] → ∃ g o, a1 = some ⟨g, o, none⟩ ∧ ∀ (j : Nat) t, n.texts[j]? = some t → w.cell? ⟨g, o + j, none⟩ = some (.string ⟨t.toArray⟩)) := by
  obtain ⟨vn, vt, vr, e, h1, h2, ⟨vs, h3, h4, _⟩, _, hb2, _⟩ := h
  simp only [Value.agg.injEq, Array.mk.injEq, List.cons.injEq, and_true, true_and] at e
  obtain ⟨rfl, rfl, rfl⟩ := e
  refine ⟨h1.lenI, own_len h2, own_len h3, fun hn => ?_, fun ht => ?_⟩
  · exact h1.cellI hn
  · obtain ⟨_, ao, cap, e, h5⟩ := strsAt_own (ss := n.texts) h2 (by omega)
    injection e with e
    subst e
    rcases h5 with h5 | ⟨g, o, rfl, _, h5⟩
    · exact absurd h5 ht
    · exact ⟨g, o, rfl, h5⟩

theorem heardN_rows {n : NoteD} (h : n.rows.length ≠ 0) : heardN n = none := by rw [heardN, if_pos h]
theorem heardN_kind {n : NoteD} (h1 : n.kind ≠ 1) (h2 : n.kind ≠ 2) : heardN n = none := by
  unfold heardN
  split
  · rfl
  · rfl
theorem heardN_one {n : NoteD} (h1 : n.kind = 1) (h : ¬ (n.nums.length = 4 ∧ n.texts.length = 1)) : heardN n = none := by
  unfold heardN
  split
  · rfl
  · split
    · rename_i h2 h3
      exact absurd ⟨by rw [h2]; rfl, by rw [h3]; rfl⟩ h
    · rfl
theorem heardN_two {n : NoteD} (h1 : n.kind = 2) (h : ¬ (n.nums.length = 3 ∧ n.texts.length = 0)) : heardN n = none := by
  unfold heardN
  split
  · rfl
  · rw [if_neg (by omega)]
    split
    · rename_i h2 h3
      exact absurd ⟨by rw [h2]; rfl, by rw [h3]; rfl⟩ h
    · rfl
theorem len_four {l : List Int} (h : l.length = 4) : ∃ a b c d, l = [a, b, c, d] := by
  match l, h with
  | [a, b, c, d], _ => exact ⟨a, b, c, d, rfl⟩
theorem len_three {l : List Int} (h : l.length = 3) : ∃ a b c, l = [a, b, c] := by
  match l, h with
  | [a, b, c], _ => exact ⟨a, b, c, rfl⟩
theorem len_one {α : Type} {l : List α} (h : l.length = 1) : ∃ a, l = [a] := by
  match l, h with
  | [a], _ => exact ⟨a, rfl⟩

end Go.Proofs.Ytifmpcldiimdbaa

namespace Go.Proofs.Ytifmpcldiimdbaa
open Go.RowKit

set_option maxRecDepth 100000 in
set_option maxHeartbeats 1000000 in
theorem heard_one (l : List UInt8) (w : World) (hl : l.length ≤ 140737488351232) (hC : (onlyP l).2 = true ∧ (onlyP l).1.rows.length = 0 ∧ (onlyP l).1.kind = 1 ∧ (onlyP l).1.nums.length = 4 ∧ (onlyP l).1.texts.length = 1) : Calls Try.prog 39 #[.string ⟨l.toArray⟩] w (HdE l w) := by
  have C : Hid (Calls Try.prog 54 #[.string ⟨l.toArray⟩] (resH w) (OnE l (resH w))) := Hid.mk (only_any l (resH w) hl)
  unfold OnE at C
  obtain ⟨n, hn⟩ : ∃ n, (onlyP l).1 = n := ⟨_, rfl⟩
  obtain ⟨ok, hok⟩ : ∃ k, (onlyP l).2 = k := ⟨_, rfl⟩
  have HC := Hid.mk hC
  rw [hn, hok] at HC
  clear hC
  rw [hn, hok] at C
  obtain rfl := HC.out.1
  have HMAY : Hid n.may := Hid.mk (by rw [← hn]; exact (onlyP_ok hok).1)
  have HN := Hid.mk hn
  have HOK := Hid.mk hok
  clear hn hok hl
  have HRN : Hid ((resH w).heap.size = w.heap.size + 1) := Hid.mk (by simp)
  go_enter Try.func39, Try.ntmps39
  go_wp2_with fail
  refine C.out.mono ?_
  clear C
  rintro x w1 ⟨v, rfl, hown, hb⟩
  obtain ⟨a0, l0, c0, a1, l1, c1, a2, l2, c2, rfl⟩ := own_parts hown
  rw [HRN.out] at hown hb
  have hb2 : Below (w.heap.size + 1) (resH w) (w1.alloc (.cells #[.int .i64 n.kind, .slice a0 l0 c0, .slice a1 l1 c1, .slice a2 l2 c2] 36)) := hb.alloc (Nat.le_trans (by rw [HRN.out]; exact Nat.le_refl _) hb.size) _
  have hown2 := hown.below ((Below.refl w1.heap.size w1).alloc (Nat.le_refl _) (.cells #[.int .i64 n.kind, .slice a0 l0 c0, .slice a1 l1 c1, .slice a2 l2 c2] 36))
  obtain ⟨e0, e1, e2, hrn, hrt⟩ := own_read hown2
  have hbx := box_at w1 (.cells #[.int .i64 n.kind, .slice a0 l0 c0, .slice a1 l1 c1, .slice a2 l2 c2] 36)
  have HE0 := Hid.mk e0
  have HE1 := Hid.mk e1
  have HE2 := Hid.mk e2
  have HRNM := Hid.mk hrn
  have HRTX := Hid.mk hrt
  have HB2 := Hid.mk hb2
  have HOWN := Hid.mk hown2
  have HB1 := Hid.mk hb
  obtain ⟨⟨q0, q1, q2, q3⟩, -⟩ := four_cells hbx
  have HBX := Hid.mk hbx
  obtain ⟨⟨r0, r1, r2, r3, r4, r5, r6, r7, r8⟩, ⟨f0, f1, f2, f3, f4, f5, f6, f7, f8⟩⟩ := nine_cells (resH_block hb2)
  have HD : Hid (heardP l = none → HdE l w (.returned (.tuple #[.agg #[.int .i64 0, .int .i64 0, .int .i64 0, .bool false, .int .i64 0, .int .i64 0, .slice none 0 0, .slice none 0 0, .slice none 0 0], .bool false])) (set9 (w1.alloc (.cells #[.int .i64 n.kind, .slice a0 l0 c0, .slice a1 l1 c1, .slice a2 l2 c2] 36)) w.heap.size (.int .i64 0) (.int .i64 0) (.int .i64 0) (.bool false) (.int .i64 0) (.int .i64 0) (.slice none 0 0) (.slice none 0 0) (.slice none 0 0))) := Hid.mk (fun h => hdE_none h (set9_below (resH_below HB2.out) (Nat.le_refl _) _ _ _ _ _ _ _ _ _))
  clear hown hb hb2 hown2 e0 e1 e2 hrn hrt hbx
  obtain rfl : l2 = 0 := HE2.out.trans HC.out.2.1
  obtain rfl : l0 = 4 := HE0.out.trans HC.out.2.2.2.1
  obtain rfl : l1 = 1 := HE1.out.trans HC.out.2.2.2.2
  have hk1b : (n.kind == 1) = true := by simp; exact HC.out.2.2.1
  have HKD := Hid.mk HC.out.2.2.1
  clear HC
  obtain ⟨x0, x1, x2, x3, hnm⟩ := len_four HE0.out.symm
  obtain ⟨t, htx⟩ := len_one HE1.out.symm
  obtain ⟨g, o, rfl, hBg, hc⟩ := HRNM.out (by rw [hnm]; simp)
  obtain ⟨g', o', rfl, hc'⟩ := HRTX.out (by rw [htx]; simp)
  have y0 := hc 0 x0 (by rw [hnm]; rfl)
  have y1 := hc 1 x1 (by rw [hnm]; rfl)
  have y2 := hc 2 x2 (by rw [hnm]; rfl)
  have y3 := hc 3 x3 (by rw [hnm]; rfl)
  have yt := hc' 0 t (by rw [htx]; rfl)
  rw [Nat.add_zero] at y0 yt
  have hts : t.length ≤ 65536 := HMAY.out.2.1.2.2.1 t (by rw [htx]; simp)
  have C2 := Hid.mk (only_any t (w1.alloc (.cells #[.int .i64 n.kind, .slice (some ⟨g, o, none⟩) 4 c0, .slice (some ⟨g', o', none⟩) 1 c1, .slice a2 0 c2] 36)) (by omega))
  unfold OnE at C2
  obtain ⟨n2, hn2⟩ : ∃ n, (onlyP t).1 = n := ⟨_, rfl⟩
  obtain ⟨ok2, hok2⟩ : ∃ k, (onlyP t).2 = k := ⟨_, rfl⟩
  rw [hn2, hok2] at C2
  have HHP : Hid (heardP l = if ok2 = true then some ⟨x0, x1, x3, true, x2, n2⟩ else none) := Hid.mk (by rw [heardP, HOK.out, HN.out, if_pos rfl, heardN, if_neg (by simp [← HE2.out]), if_pos HKD.out, hnm, htx]; simp only [hn2, hok2])
  clear hn2 hok2 hc hc' hnm htx hts HD
  go_wp2_with fail
  refine C2.out.mono ?_
  clear C2
  rintro x w3 ⟨v, rfl, hown3, hb3⟩
  obtain ⟨a3, l3, c3, a4, l4, c4, a5, l5, c5, rfl⟩ := own_parts hown3
  have bx : Below w3.heap.size w3 (w3.alloc (.cells #[.int .i64 n2.kind, .slice a3 l3 c3, .slice a4 l4 c4, .slice a5 l5 c5] 36)) := (Below.refl _ _).alloc (Nat.le_refl _) _
  have hb4 : Below (w1.alloc (.cells #[.int .i64 n.kind, .slice (some ⟨g, o, none⟩) 4 c0, .slice (some ⟨g', o', none⟩) 1 c1, .slice a2 0 c2] 36)).heap.size (w1.alloc (.cells #[.int .i64 n.kind, .slice (some ⟨g, o, none⟩) 4 c0, .slice (some ⟨g', o', none⟩) 1 c1, .slice a2 0 c2] 36)) (w3.alloc (.cells #[.int .i64 n2.kind, .slice a3 l3 c3, .slice a4 l4 c4, .slice a5 l5 c5] 36)) := hb3.trans (bx.mono hb3.size)
  obtain ⟨⟨s0, s1, s2, s3⟩, -⟩ := four_cells ((hb4.block w1.heap.size (by simp)).trans HBX.out)
  obtain ⟨⟨m0, m1, m2, m3⟩, -⟩ := four_cells (box_at w3 (.cells #[.int .i64 n2.kind, .slice a3 l3 c3, .slice a4 l4 c4, .slice a5 l5 c5] 36))
  have u0 := (hb4.cell (p := ⟨g, o, none⟩) (World.block_lt_of_cell? _ _ y0)).trans y0
  have u1 := (hb4.cell (p := ⟨g, o + 1, none⟩) (World.block_lt_of_cell? _ _ y1)).trans y1
  have u2 := (hb4.cell (p := ⟨g, o + 2, none⟩) (World.block_lt_of_cell? _ _ y2)).trans y2
  have u3 := (hb4.cell (p := ⟨g, o + 3, none⟩) (World.block_lt_of_cell? _ _ y3)).trans y3
  have hb5 : Below (w.heap.size + 1) (resH w) (w3.alloc (.cells #[.int .i64 n2.kind, .slice a3 l3 c3, .slice a4 l4 c4, .slice a5 l5 c5] 36)) := keepB HB2.out hb4 (by rw [HRN.out]; exact Nat.le_refl _)
  have hlt : w.heap.size < (w1.alloc (.cells #[.int .i64 n.kind, .slice (some ⟨g, o, none⟩) 4 c0, .slice (some ⟨g', o', none⟩) 1 c1, .slice a2 0 c2] 36)).heap.size := Nat.lt_of_lt_of_le (by rw [HRN.out]; omega) HB2.out.size
  have hown4 := hown3.below bx
  have KS : Hid (∀ W : World, (∀ k, k ≠ w.heap.size → W.heap[k]? = (w3.alloc (.cells #[.int .i64 n2.kind, .slice a3 l3 c3, .slice a4 l4 c4, .slice a5 l5 c5] 36)).heap[k]?) → W.cell? ⟨w1.heap.size, 1, none⟩ = some (.slice (some ⟨g, o, none⟩) 4 c0) ∧ W.cell? ⟨g, o, none⟩ = some (.int .i64 x0) ∧ W.cell? ⟨g, o + 1, none⟩ = some (.int .i64 x1) ∧ W.cell? ⟨g, o + 2, none⟩ = some (.int .i64 x2) ∧ W.cell? ⟨g, o + 3, none⟩ = some (.int .i64 x3) ∧ W.cell? ⟨w3.heap.size, 0, none⟩ = some (.int .i64 n2.kind) ∧ W.cell? ⟨w3.heap.size, 1, none⟩ = some (.slice a3 l3 c3) ∧ W.cell? ⟨w3.heap.size, 2, none⟩ = some (.slice a4 l4 c4) ∧ W.cell? ⟨w3.heap.size, 3, none⟩ = some (.slice a5 l5 c5)) := Hid.mk (fun W hW => by
    have key : ∀ (p : Addr) v, p.block ≠ w.heap.size → (w3.alloc (.cells #[.int .i64 n2.kind, .slice a3 l3 c3, .slice a4 l4 c4, .slice a5 l5 c5] 36)).cell? p = some v → W.cell? p = some v := fun p v hp hv => by
      simp only [World.cell?, hW p.block hp]
      exact hv
    have h1 : w1.heap.size ≠ w.heap.size := by have := HB1.out.size; rw [HRN.out] at this; omega
    have h3 : w3.heap.size ≠ w.heap.size := by have := hb3.size; omega
    have hg : g ≠ w.heap.size := by omega
    exact ⟨key _ _ h1 s1, key _ _ hg u0, key _ _ hg u1, key _ _ hg u2, key _ _ hg u3, key _ _ h3 m0, key _ _ h3 m1, key _ _ h3 m2, key _ _ h3 m3⟩)
  have hbelow : Below w.heap.size w (set9 (w3.alloc (.cells #[.int .i64 n2.kind, .slice a3 l3 c3, .slice a4 l4 c4, .slice a5 l5 c5] 36)) w.heap.size (.int .i64 x0) (.int .i64 x1) (.int .i64 x3) (.bool true) (.int .i64 x2) (.int .i64 n2.kind) (.slice a3 l3 c3) (.slice a4 l4 c4) (.slice a5 l5 c5)) := set9_below (resH_below hb5) (Nat.le_refl _) _ _ _ _ _ _ _ _ _
  have HKS0 : Hid ((fun u : World => u.cell? ⟨w1.heap.size, 1, none⟩ = some (.slice (some ⟨g, o, none⟩) 4 c0) ∧ u.cell? ⟨g, o, none⟩ = some (.int .i64 x0) ∧ u.cell? ⟨g, o + 1, none⟩ = some (.int .i64 x1) ∧ u.cell? ⟨g, o + 2, none⟩ = some (.int .i64 x2) ∧ u.cell? ⟨g, o + 3, none⟩ = some (.int .i64 x3) ∧ u.cell? ⟨w3.heap.size, 0, none⟩ = some (.int .i64 n2.kind) ∧ u.cell? ⟨w3.heap.size, 1, none⟩ = some (.slice a3 l3 c3) ∧ u.cell? ⟨w3.heap.size, 2, none⟩ = some (.slice a4 l4 c4) ∧ u.cell? ⟨w3.heap.size, 3, none⟩ = some (.slice a5 l5 c5)) (w3.alloc (.cells #[.int .i64 n2.kind, .slice a3 l3 c3, .slice a4 l4 c4, .slice a5 l5 c5] 36)).drew) := Hid.mk (KS.out _ (fun k _ => drew_heap _ k))
  have HKS9 : Hid ((fun u : World => u.cell? ⟨w1.heap.size, 1, none⟩ = some (.slice (some ⟨g, o, none⟩) 4 c0) ∧ u.cell? ⟨g, o, none⟩ = some (.int .i64 x0) ∧ u.cell? ⟨g, o + 1, none⟩ = some (.int .i64 x1) ∧ u.cell? ⟨g, o + 2, none⟩ = some (.int .i64 x2) ∧ u.cell? ⟨g, o + 3, none⟩ = some (.int .i64 x3) ∧ u.cell? ⟨w3.heap.size, 0, none⟩ = some (.int .i64 n2.kind) ∧ u.cell? ⟨w3.heap.size, 1, none⟩ = some (.slice a3 l3 c3) ∧ u.cell? ⟨w3.heap.size, 2, none⟩ = some (.slice a4 l4 c4) ∧ u.cell? ⟨w3.heap.size, 3, none⟩ = some (.slice a5 l5 c5)) (set9 (w3.alloc (.cells #[.int .i64 n2.kind, .slice a3 l3 c3, .slice a4 l4 c4, .slice a5 l5 c5] 36)) w.heap.size (.int .i64 x0) (.int .i64 x1) (.int .i64 x3) (.bool true) (.int .i64 x2) (.int .i64 n2.kind) (.slice a3 l3 c3) (.slice a4 l4 c4) (.slice a5 l5 c5)).drew) := Hid.mk (KS.out _ (fun k hk => set9_drew hk (.int .i64 x0) (.int .i64 x1) (.int .i64 x3) (.bool true) (.int .i64 x2) (.int .i64 n2.kind) (.slice a3 l3 c3) (.slice a4 l4 c4) (.slice a5 l5 c5)))
  clear KS
  have HE : Hid (HdE l w (.returned (.tuple #[.agg #[.int .i64 x0, .int .i64 x1, .int .i64 x3, .bool true, .int .i64 x2, .int .i64 n2.kind, .slice a3 l3 c3, .slice a4 l4 c4, .slice a5 l5 c5], .bool ok2])) (set9 (w3.alloc (.cells #[.int .i64 n2.kind, .slice a3 l3 c3, .slice a4 l4 c4, .slice a5 l5 c5] 36)) w.heap.size (.int .i64 x0) (.int .i64 x1) (.int .i64 x3) (.bool true) (.int .i64 x2) (.int .i64 n2.kind) (.slice a3 l3 c3) (.slice a4 l4 c4) (.slice a5 l5 c5))) := Hid.mk (by
    have hh := HHP.out
    cases ok2 with
    | false => exact hdE_not _ _ _ _ _ _ _ _ _ _ _ _ _ _ _ (by rw [hh]; rfl) hbelow
    | true => exact hdE_some (h := ⟨x0, x1, x3, true, x2, n2⟩) (by rw [hh]; rfl) hbelow ((set9_own hown4 hlt _ _ _ _ _ _ _ _ _).base (by omega)))
  clear y0 y1 y2 y3 yt r0 r1 r2 r3 r4 r5 r6 r7 r8 f0 f1 f2 f3 f4 f5 f6 f7 f8 q0 q1 q2 q3
  obtain ⟨⟨r0, r1, r2, r3, r4, r5, r6, r7, r8⟩, ⟨f0, f1, f2, f3, f4, f5, f6, f7, f8⟩⟩ := nine_cells (resH_block hb5)
  obtain ⟨⟨z0, z1, z2, z3, z4, z5, z6, z7, z8⟩, -⟩ := nine_cells (set9_block (resH_block hb5) (.int .i64 x0) (.int .i64 x1) (.int .i64 x3) (.bool true) (.int .i64 x2) (.int .i64 n2.kind) (.slice a3 l3 c3) (.slice a4 l4 c4) (.slice a5 l5 c5))
  have Z0 := Hid.mk z0
  have Z1 := Hid.mk z1
  have Z2 := Hid.mk z2
  have Z3 := Hid.mk z3
  have Z4 := Hid.mk z4
  have Z5 := Hid.mk z5
  have Z6 := Hid.mk z6
  have Z7 := Hid.mk z7
  have Z8 := Hid.mk z8
  clear z0 z1 z2 z3 z4 z5 z6 z7 z8
  clear hown3 hb3 bx hb4 hb5 hown4 hbelow hlt hBg s0 s1 s2 s3 m0 m1 m2 m3 u0 u1 u2 u3
  go_wp2_with fail
  refine wp_region_held_drew (S := fun u => u.cell? ⟨w1.heap.size, 1, none⟩ = some (.slice (some ⟨g, o, none⟩) 4 c0) ∧ u.cell? ⟨g, o, none⟩ = some (.int .i64 x0) ∧ u.cell? ⟨g, o + 1, none⟩ = some (.int .i64 x1) ∧ u.cell? ⟨g, o + 2, none⟩ = some (.int .i64 x2) ∧ u.cell? ⟨g, o + 3, none⟩ = some (.int .i64 x3) ∧ u.cell? ⟨w3.heap.size, 0, none⟩ = some (.int .i64 n2.kind) ∧ u.cell? ⟨w3.heap.size, 1, none⟩ = some (.slice a3 l3 c3) ∧ u.cell? ⟨w3.heap.size, 2, none⟩ = some (.slice a4 l4 c4) ∧ u.cell? ⟨w3.heap.size, 3, none⟩ = some (.slice a5 l5 c5)) (by kernel_rfl) ?_ (fun hHeld => ?_)
  · exact HKS0.out
  refine wpAnyH_take (i := 0) (oi := { dst := some 46, op := Go.Op.fieldAddr 36 (Go.Operand.tmp 4) 1, type := 0, pos := "packet.go:33", after := #[], guard := none }) (v := ?_) rfl (by kernel_rfl) (by kernel_rfl) (by kernel_rfl) (fun _ _ _ h => h) (Or.inl ⟨by rfl, ?_⟩) hHeld ?_
  rotate_left 1
  · intro W hSw
    obtain ⟨s1, u0, u1, u2, u3, m0, m1, m2, m3⟩ := hSw
    go_simp
    try with_reducible rfl
  simp only [Act.put, List.setIfInBounds_toArray, List.set_cons_zero, List.set_cons_succ]
  refine wpAnyH_take (i := 1) (oi := { dst := some 47, op := Go.Op.load 33 (Go.Operand.tmp 46), type := 33, pos := "packet.go:33", after := #[{ on := 0, ground := Go.Ground.data }], guard := none }) (v := ?_) rfl (by kernel_rfl) (by kernel_rfl) (by kernel_rfl) (fun _ _ _ h => h) (Or.inl ⟨by rfl, ?_⟩) hHeld ?_
  rotate_left 1
  · intro W hSw
    obtain ⟨s1, u0, u1, u2, u3, m0, m1, m2, m3⟩ := hSw
    go_simp
    try with_reducible rfl
  simp only [Act.put, List.setIfInBounds_toArray, List.set_cons_zero, List.set_cons_succ]
  refine wpAnyH_take (i := 2) (oi := { dst := some 48, op := Go.Op.indexAddr 33 (Go.Operand.tmp 47) (Go.Operand.const (Go.Value.int Go.IntKind.i64 0)), type := 0, pos := "packet.go:33", after := #[{ on := 1, ground := Go.Ground.data }], guard := none }) (v := ?_) rfl (by kernel_rfl) (by kernel_rfl) (by kernel_rfl) (fun _ _ _ h => h) (Or.inl ⟨by rfl, ?_⟩) hHeld ?_
  rotate_left 1
  · intro W hSw
    obtain ⟨s1, u0, u1, u2, u3, m0, m1, m2, m3⟩ := hSw
    go_simp
    try with_reducible rfl
  simp only [Act.put, List.setIfInBounds_toArray, List.set_cons_zero, List.set_cons_succ]
  refine wpAnyH_take (i := 3) (oi := { dst := some 49, op := Go.Op.load 3 (Go.Operand.tmp 48), type := 3, pos := "packet.go:33", after := #[{ on := 2, ground := Go.Ground.data }], guard := none }) (v := ?_) rfl (by kernel_rfl) (by kernel_rfl) (by kernel_rfl) (fun _ _ _ h => h) (Or.inl ⟨by rfl, ?_⟩) hHeld ?_
  rotate_left 1
  · intro W hSw
    obtain ⟨s1, u0, u1, u2, u3, m0, m1, m2, m3⟩ := hSw
    go_simp
    try with_reducible rfl
  simp only [Act.put, List.setIfInBounds_toArray, List.set_cons_zero, List.set_cons_succ]
  refine wpAnyH_take (i := 4) (oi := { dst := some 50, op := Go.Op.fieldAddr 36 (Go.Operand.tmp 4) 1, type := 0, pos := "packet.go:33", after := #[], guard := none }) (v := ?_) rfl (by kernel_rfl) (by kernel_rfl) (by kernel_rfl) (fun _ _ _ h => h) (Or.inl ⟨by rfl, ?_⟩) hHeld ?_
  rotate_left 1
  · intro W hSw
    obtain ⟨s1, u0, u1, u2, u3, m0, m1, m2, m3⟩ := hSw
    go_simp
    try with_reducible rfl
  simp only [Act.put, List.setIfInBounds_toArray, List.set_cons_zero, List.set_cons_succ]
  refine wpAnyH_take (i := 5) (oi := { dst := some 51, op := Go.Op.load 33 (Go.Operand.tmp 50), type := 33, pos := "packet.go:33", after := #[{ on := 4, ground := Go.Ground.data }], guard := none }) (v := ?_) rfl (by kernel_rfl) (by kernel_rfl) (by kernel_rfl) (fun _ _ _ h => h) (Or.inl ⟨by rfl, ?_⟩) hHeld ?_
  rotate_left 1
  · intro W hSw
    obtain ⟨s1, u0, u1, u2, u3, m0, m1, m2, m3⟩ := hSw
    go_simp
    try with_reducible rfl
  simp only [Act.put, List.setIfInBounds_toArray, List.set_cons_zero, List.set_cons_succ]
  refine wpAnyH_take (i := 6) (oi := { dst := some 52, op := Go.Op.indexAddr 33 (Go.Operand.tmp 51) (Go.Operand.const (Go.Value.int Go.IntKind.i64 1)), type := 0, pos := "packet.go:33", after := #[{ on := 5, ground := Go.Ground.data }], guard := none }) (v := ?_) rfl (by kernel_rfl) (by kernel_rfl) (by kernel_rfl) (fun _ _ _ h => h) (Or.inl ⟨by rfl, ?_⟩) hHeld ?_
  rotate_left 1
  · intro W hSw
    obtain ⟨s1, u0, u1, u2, u3, m0, m1, m2, m3⟩ := hSw
    go_simp
    try with_reducible rfl
  simp only [Act.put, List.setIfInBounds_toArray, List.set_cons_zero, List.set_cons_succ]
  refine wpAnyH_take (i := 7) (oi := { dst := some 53, op := Go.Op.load 3 (Go.Operand.tmp 52), type := 3, pos := "packet.go:33", after := #[{ on := 6, ground := Go.Ground.data }], guard := none }) (v := ?_) rfl (by kernel_rfl) (by kernel_rfl) (by kernel_rfl) (fun _ _ _ h => h) (Or.inl ⟨by rfl, ?_⟩) hHeld ?_
  rotate_left 1
  · intro W hSw
    obtain ⟨s1, u0, u1, u2, u3, m0, m1, m2, m3⟩ := hSw
    go_simp
    try with_reducible rfl
  simp only [Act.put, List.setIfInBounds_toArray, List.set_cons_zero, List.set_cons_succ]
  refine wpAnyH_take (i := 8) (oi := { dst := some 54, op := Go.Op.fieldAddr 36 (Go.Operand.tmp 4) 1, type := 0, pos := "packet.go:33", after := #[], guard := none }) (v := ?_) rfl (by kernel_rfl) (by kernel_rfl) (by kernel_rfl) (fun _ _ _ h => h) (Or.inl ⟨by rfl, ?_⟩) hHeld ?_
  rotate_left 1
  · intro W hSw
    obtain ⟨s1, u0, u1, u2, u3, m0, m1, m2, m3⟩ := hSw
    go_simp
    try with_reducible rfl
  simp only [Act.put, List.setIfInBounds_toArray, List.set_cons_zero, List.set_cons_succ]
  refine wpAnyH_take (i := 9) (oi := { dst := some 55, op := Go.Op.load 33 (Go.Operand.tmp 54), type := 33, pos := "packet.go:33", after := #[{ on := 8, ground := Go.Ground.data }], guard := none }) (v := ?_) rfl (by kernel_rfl) (by kernel_rfl) (by kernel_rfl) (fun _ _ _ h => h) (Or.inl ⟨by rfl, ?_⟩) hHeld ?_
  rotate_left 1
  · intro W hSw
    obtain ⟨s1, u0, u1, u2, u3, m0, m1, m2, m3⟩ := hSw
    go_simp
    try with_reducible rfl
  simp only [Act.put, List.setIfInBounds_toArray, List.set_cons_zero, List.set_cons_succ]
  refine wpAnyH_take (i := 10) (oi := { dst := some 56, op := Go.Op.indexAddr 33 (Go.Operand.tmp 55) (Go.Operand.const (Go.Value.int Go.IntKind.i64 3)), type := 0, pos := "packet.go:33", after := #[{ on := 9, ground := Go.Ground.data }], guard := none }) (v := ?_) rfl (by kernel_rfl) (by kernel_rfl) (by kernel_rfl) (fun _ _ _ h => h) (Or.inl ⟨by rfl, ?_⟩) hHeld ?_
  rotate_left 1
  · intro W hSw
    obtain ⟨s1, u0, u1, u2, u3, m0, m1, m2, m3⟩ := hSw
    go_simp
    try with_reducible rfl
  simp only [Act.put, List.setIfInBounds_toArray, List.set_cons_zero, List.set_cons_succ]
  refine wpAnyH_take (i := 11) (oi := { dst := some 57, op := Go.Op.load 3 (Go.Operand.tmp 56), type := 3, pos := "packet.go:33", after := #[{ on := 10, ground := Go.Ground.data }], guard := none }) (v := ?_) rfl (by kernel_rfl) (by kernel_rfl) (by kernel_rfl) (fun _ _ _ h => h) (Or.inl ⟨by rfl, ?_⟩) hHeld ?_
  rotate_left 1
  · intro W hSw
    obtain ⟨s1, u0, u1, u2, u3, m0, m1, m2, m3⟩ := hSw
    go_simp
    try with_reducible rfl
  simp only [Act.put, List.setIfInBounds_toArray, List.set_cons_zero, List.set_cons_succ]
  refine wpAnyH_take (i := 12) (oi := { dst := some 58, op := Go.Op.fieldAddr 36 (Go.Operand.tmp 4) 1, type := 0, pos := "packet.go:33", after := #[], guard := none }) (v := ?_) rfl (by kernel_rfl) (by kernel_rfl) (by kernel_rfl) (fun _ _ _ h => h) (Or.inl ⟨by rfl, ?_⟩) hHeld ?_
  rotate_left 1
  · intro W hSw
    obtain ⟨s1, u0, u1, u2, u3, m0, m1, m2, m3⟩ := hSw
    go_simp
    try with_reducible rfl
  simp only [Act.put, List.setIfInBounds_toArray, List.set_cons_zero, List.set_cons_succ]
  refine wpAnyH_take (i := 13) (oi := { dst := some 59, op := Go.Op.load 33 (Go.Operand.tmp 58), type := 33, pos := "packet.go:33", after := #[{ on := 12, ground := Go.Ground.data }], guard := none }) (v := ?_) rfl (by kernel_rfl) (by kernel_rfl) (by kernel_rfl) (fun _ _ _ h => h) (Or.inl ⟨by rfl, ?_⟩) hHeld ?_
  rotate_left 1
  · intro W hSw
    obtain ⟨s1, u0, u1, u2, u3, m0, m1, m2, m3⟩ := hSw
    go_simp
    try with_reducible rfl
  simp only [Act.put, List.setIfInBounds_toArray, List.set_cons_zero, List.set_cons_succ]
  refine wpAnyH_take (i := 14) (oi := { dst := some 60, op := Go.Op.indexAddr 33 (Go.Operand.tmp 59) (Go.Operand.const (Go.Value.int Go.IntKind.i64 2)), type := 0, pos := "packet.go:33", after := #[{ on := 13, ground := Go.Ground.data }], guard := none }) (v := ?_) rfl (by kernel_rfl) (by kernel_rfl) (by kernel_rfl) (fun _ _ _ h => h) (Or.inl ⟨by rfl, ?_⟩) hHeld ?_
  rotate_left 1
  · intro W hSw
    obtain ⟨s1, u0, u1, u2, u3, m0, m1, m2, m3⟩ := hSw
    go_simp
    try with_reducible rfl
  simp only [Act.put, List.setIfInBounds_toArray, List.set_cons_zero, List.set_cons_succ]
  refine wpAnyH_take (i := 15) (oi := { dst := some 61, op := Go.Op.load 3 (Go.Operand.tmp 60), type := 3, pos := "packet.go:33", after := #[{ on := 14, ground := Go.Ground.data }], guard := none }) (v := ?_) rfl (by kernel_rfl) (by kernel_rfl) (by kernel_rfl) (fun _ _ _ h => h) (Or.inl ⟨by rfl, ?_⟩) hHeld ?_
  rotate_left 1
  · intro W hSw
    obtain ⟨s1, u0, u1, u2, u3, m0, m1, m2, m3⟩ := hSw
    go_simp
    try with_reducible rfl
  simp only [Act.put, List.setIfInBounds_toArray, List.set_cons_zero, List.set_cons_succ]
  refine wpAnyH_take (i := 16) (oi := { dst := some 62, op := Go.Op.load 36 (Go.Operand.tmp 6), type := 36, pos := "packet.go:33", after := #[], guard := none }) (v := ?_) rfl (by kernel_rfl) (by kernel_rfl) (by kernel_rfl) (fun _ _ _ h => h) (Or.inl ⟨by rfl, ?_⟩) hHeld ?_
  rotate_left 1
  · intro W hSw
    obtain ⟨s1, u0, u1, u2, u3, m0, m1, m2, m3⟩ := hSw
    go_simp
    try with_reducible rfl
  simp only [Act.put, List.setIfInBounds_toArray, List.set_cons_zero, List.set_cons_succ]
  refine wpAnyH_take (i := 17) (oi := { dst := some 63, op := Go.Op.build 86 #[(0, Go.Operand.tmp 49), (1, Go.Operand.tmp 53), (2, Go.Operand.tmp 57), (3, Go.Operand.const (Go.Value.bool true)), (4, Go.Operand.tmp 61), (5, Go.Operand.tmp 62)], type := 86, pos := "packet.go:33", after := #[{ on := 3, ground := Go.Ground.data }, { on := 7, ground := Go.Ground.data }, { on := 11, ground := Go.Ground.data }, { on := 15, ground := Go.Ground.data }, { on := 16, ground := Go.Ground.data }], guard := none }) (v := ?_) rfl (by kernel_rfl) (by kernel_rfl) (by kernel_rfl) (fun _ _ _ h => h) (Or.inl ⟨by rfl, ?_⟩) hHeld ?_
  rotate_left 1
  · intro W hSw
    obtain ⟨s1, u0, u1, u2, u3, m0, m1, m2, m3⟩ := hSw
    go_simp
    try with_reducible rfl
  simp only [Act.put, List.setIfInBounds_toArray, List.set_cons_zero, List.set_cons_succ]
  refine wpAnyH_take (i := 18) (oi := { dst := some 64, op := Go.Op.move (Go.Operand.tmp 7), type := 4, pos := "packet.go:33", after := #[{ on := 19, ground := Go.Ground.gcOnly Go.Departure.lateStores }], guard := none }) (v := ?_) rfl (by kernel_rfl) (by kernel_rfl) (by kernel_rfl) (fun _ _ _ h => h) (Or.inl ⟨by rfl, ?_⟩) hHeld ?_
  rotate_left 1
  · intro W hSw
    obtain ⟨s1, u0, u1, u2, u3, m0, m1, m2, m3⟩ := hSw
    go_simp
    try with_reducible rfl
  simp only [Act.put, List.setIfInBounds_toArray, List.set_cons_zero, List.set_cons_succ]
  refine wpAnyH_ready (rs := [19]) (by kernel_rfl) (by simp) ?_
  refine AllReadyH.cons (o := { dst := none, op := Go.Op.store 86 (Go.Operand.tmp 2) (Go.Operand.tmp 63), type := 0, pos := "packet.go:33", after := #[{ on := 17, ground := Go.Ground.data }, { on := 0, ground := Go.Ground.phase }, { on := 1, ground := Go.Ground.phase }, { on := 2, ground := Go.Ground.phase }, { on := 3, ground := Go.Ground.phase }, { on := 4, ground := Go.Ground.phase }, { on := 5, ground := Go.Ground.phase }, { on := 6, ground := Go.Ground.phase }, { on := 7, ground := Go.Ground.phase }, { on := 8, ground := Go.Ground.phase }, { on := 9, ground := Go.Ground.phase }, { on := 10, ground := Go.Ground.phase }, { on := 11, ground := Go.Ground.phase }, { on := 12, ground := Go.Ground.phase }, { on := 13, ground := Go.Ground.phase }, { on := 14, ground := Go.Ground.phase }, { on := 15, ground := Go.Ground.phase }, { on := 16, ground := Go.Ground.phase }, { on := 17, ground := Go.Ground.phase }, { on := 18, ground := Go.Ground.textOnly Go.Departure.lateStores }], guard := none }) rfl (fun K hK => ?_) AllReadyH.nil
  go_simp
  refine hK.out _ _ HKS9.out (fun hHeld => ?_)
  clear hK K
  refine wpAnyH_take (i := 20) (oi := { dst := some 3, op := Go.Op.assign (Go.Operand.tmp 64), type := 4, pos := "packet.go:33", after := #[{ on := 18, ground := Go.Ground.data }, { on := 19, ground := Go.Ground.chain }, { on := 0, ground := Go.Ground.phase }, { on := 1, ground := Go.Ground.phase }, { on := 2, ground := Go.Ground.phase }, { on := 3, ground := Go.Ground.phase }, { on := 4, ground := Go.Ground.phase }, { on := 5, ground := Go.Ground.phase }, { on := 6, ground := Go.Ground.phase }, { on := 7, ground := Go.Ground.phase }, { on := 8, ground := Go.Ground.phase }, { on := 9, ground := Go.Ground.phase }, { on := 10, ground := Go.Ground.phase }, { on := 11, ground := Go.Ground.phase }, { on := 12, ground := Go.Ground.phase }, { on := 13, ground := Go.Ground.phase }, { on := 14, ground := Go.Ground.phase }, { on := 15, ground := Go.Ground.phase }, { on := 16, ground := Go.Ground.phase }, { on := 17, ground := Go.Ground.phase }, { on := 18, ground := Go.Ground.phase }, { on := 19, ground := Go.Ground.phase }], guard := none }) (v := ?_) rfl (by kernel_rfl) (by kernel_rfl) (by kernel_rfl) (fun _ _ _ h => h) (Or.inl ⟨by rfl, ?_⟩) hHeld ?_
  rotate_left 1
  · intro W hSw
    obtain ⟨s1, u0, u1, u2, u3, m0, m1, m2, m3⟩ := hSw
    go_simp
    try with_reducible rfl
  simp only [Act.put, List.setIfInBounds_toArray, List.set_cons_zero, List.set_cons_succ]
  refine wpAnyH_done (by kernel_rfl) ?_ _
  go_wp2
  refine bodyPost_ret (v := .tuple #[.agg #[.int .i64 x0, .int .i64 x1, .int .i64 x3, .bool true, .int .i64 x2, .int .i64 n2.kind, .slice a3 l3 c3, .slice a4 l4 c4, .slice a5 l5 c5], .bool ok2]) ?_ rfl (hdE_drew HE.out)
  simp [results, Try.results39, go_sem, Z0.out, Z1.out, Z2.out, Z3.out, Z4.out, Z5.out, Z6.out, Z7.out, Z8.out]

end Go.Proofs.Ytifmpcldiimdbaa

namespace Go.Proofs.Ytifmpcldiimdbaa
open Go.RowKit

set_option maxRecDepth 100000 in
set_option maxHeartbeats 1000000 in
theorem heard_two (l : List UInt8) (w : World) (hl : l.length ≤ 140737488351232) (hC : (onlyP l).2 = true ∧ (onlyP l).1.rows.length = 0 ∧ (onlyP l).1.kind = 2 ∧ (onlyP l).1.nums.length = 3 ∧ (onlyP l).1.texts.length = 0) : Calls Try.prog 39 #[.string ⟨l.toArray⟩] w (HdE l w) := by
  have C : Hid (Calls Try.prog 54 #[.string ⟨l.toArray⟩] (resH w) (OnE l (resH w))) := Hid.mk (only_any l (resH w) hl)
  unfold OnE at C
  obtain ⟨n, hn⟩ : ∃ n, (onlyP l).1 = n := ⟨_, rfl⟩
  obtain ⟨ok, hok⟩ : ∃ k, (onlyP l).2 = k := ⟨_, rfl⟩
  have HC := Hid.mk hC
  rw [hn, hok] at HC
  clear hC
  rw [hn, hok] at C
  obtain rfl := HC.out.1
  have HMAY : Hid n.may := Hid.mk (by rw [← hn]; exact (onlyP_ok hok).1)
  have HN := Hid.mk hn
  have HOK := Hid.mk hok
  clear hn hok hl
  have HRN : Hid ((resH w).heap.size = w.heap.size + 1) := Hid.mk (by simp)
  go_enter Try.func39, Try.ntmps39
  go_wp2_with fail
  refine C.out.mono ?_
  clear C
  rintro x w1 ⟨v, rfl, hown, hb⟩
  obtain ⟨a0, l0, c0, a1, l1, c1, a2, l2, c2, rfl⟩ := own_parts hown
  rw [HRN.out] at hown hb
  have hb2 : Below (w.heap.size + 1) (resH w) (w1.alloc (.cells #[.int .i64 n.kind, .slice a0 l0 c0, .slice a1 l1 c1, .slice a2 l2 c2] 36)) := hb.alloc (Nat.le_trans (by rw [HRN.out]; exact Nat.le_refl _) hb.size) _
  have hown2 := hown.below ((Below.refl w1.heap.size w1).alloc (Nat.le_refl _) (.cells #[.int .i64 n.kind, .slice a0 l0 c0, .slice a1 l1 c1, .slice a2 l2 c2] 36))
  obtain ⟨e0, e1, e2, hrn, hrt⟩ := own_read hown2
  have hbx := box_at w1 (.cells #[.int .i64 n.kind, .slice a0 l0 c0, .slice a1 l1 c1, .slice a2 l2 c2] 36)
  have HE0 := Hid.mk e0
  have HE1 := Hid.mk e1
  have HE2 := Hid.mk e2
  have HRNM := Hid.mk hrn
  have HRTX := Hid.mk hrt
  have HB2 := Hid.mk hb2
  have HOWN := Hid.mk hown2
  have HB1 := Hid.mk hb
  obtain ⟨⟨q0, q1, q2, q3⟩, -⟩ := four_cells hbx
  have HBX := Hid.mk hbx
  obtain ⟨⟨r0, r1, r2, r3, r4, r5, r6, r7, r8⟩, ⟨f0, f1, f2, f3, f4, f5, f6, f7, f8⟩⟩ := nine_cells (resH_block hb2)
  have HD : Hid (heardP l = none → HdE l w (.returned (.tuple #[.agg #[.int .i64 0, .int .i64 0, .int .i64 0, .bool false, .int .i64 0, .int .i64 0, .slice none 0 0, .slice none 0 0, .slice none 0 0], .bool false])) (set9 (w1.alloc (.cells #[.int .i64 n.kind, .slice a0 l0 c0, .slice a1 l1 c1, .slice a2 l2 c2] 36)) w.heap.size (.int .i64 0) (.int .i64 0) (.int .i64 0) (.bool false) (.int .i64 0) (.int .i64 0) (.slice none 0 0) (.slice none 0 0) (.slice none 0 0))) := Hid.mk (fun h => hdE_none h (set9_below (resH_below HB2.out) (Nat.le_refl _) _ _ _ _ _ _ _ _ _))
  clear hown hb hb2 hown2 e0 e1 e2 hrn hrt hbx
  clear HMAY
  obtain rfl : l2 = 0 := HE2.out.trans HC.out.2.1
  obtain rfl : l0 = 3 := HE0.out.trans HC.out.2.2.2.1
  obtain rfl : l1 = 0 := HE1.out.trans HC.out.2.2.2.2
  have hk1b : (n.kind == 1) = false := by simp; rw [HC.out.2.2.1]; decide
  have hk2b : (n.kind == 2) = true := by simp; exact HC.out.2.2.1
  have HKD := Hid.mk HC.out.2.2.1
  clear HC
  obtain ⟨x0, x1, x2, hnm⟩ := len_three HE0.out.symm
  obtain ⟨g, o, rfl, hBg, hc⟩ := HRNM.out (by rw [hnm]; simp)
  have u0 := hc 0 x0 (by rw [hnm]; rfl)
  have u1 := hc 1 x1 (by rw [hnm]; rfl)
  have u2 := hc 2 x2 (by rw [hnm]; rfl)
  rw [Nat.add_zero] at u0
  have HHP : Hid (heardP l = some ⟨x0, x1, x2, false, 0, .none⟩) := Hid.mk (by rw [heardP, HOK.out, HN.out, if_pos rfl, heardN, if_neg (by simp [← HE2.out]), if_neg (by rw [HKD.out]; decide), if_pos HKD.out, hnm, List.length_eq_zero_iff.1 HE1.out.symm])
  have HE : Hid (HdE l w (.returned (.tuple #[.agg #[.int .i64 x0, .int .i64 x1, .int .i64 x2, .bool false, .int .i64 0, .int .i64 0, .slice none 0 0, .slice none 0 0, .slice none 0 0], .bool true])) (set9 (w1.alloc (.cells #[.int .i64 n.kind, .slice (some ⟨g, o, none⟩) 3 c0, .slice a1 0 c1, .slice a2 0 c2] 36)) w.heap.size (.int .i64 x0) (.int .i64 x1) (.int .i64 x2) (.bool false) (.int .i64 0) (.int .i64 0) (.slice none 0 0) (.slice none 0 0) (.slice none 0 0))) := Hid.mk (hdE_some (h := ⟨x0, x1, x2, false, 0, .none⟩) HHP.out (set9_below (resH_below HB2.out) (Nat.le_refl _) _ _ _ _ _ _ _ _ _) (zeroN_own _ _))
  clear hc hnm HD
  obtain ⟨⟨z0, z1, z2, z3, z4, z5, z6, z7, z8⟩, -⟩ := nine_cells (set9_block (resH_block HB2.out) (.int .i64 x0) (.int .i64 x1) (.int .i64 x2) (.bool false) (.int .i64 0) (.int .i64 0) (.slice none 0 0) (.slice none 0 0) (.slice none 0 0))
  have Z0 := Hid.mk z0
  have Z1 := Hid.mk z1
  have Z2 := Hid.mk z2
  have Z3 := Hid.mk z3
  have Z4 := Hid.mk z4
  have Z5 := Hid.mk z5
  have Z6 := Hid.mk z6
  have Z7 := Hid.mk z7
  have Z8 := Hid.mk z8
  clear z0 z1 z2 z3 z4 z5 z6 z7 z8
  go_wp2_with fail
  go_region
  go_wp2
  refine bodyPost_ret (v := .tuple #[.agg #[.int .i64 x0, .int .i64 x1, .int .i64 x2, .bool false, .int .i64 0, .int .i64 0, .slice none 0 0, .slice none 0 0, .slice none 0 0], .bool true]) ?_ rfl (hdE_drew HE.out)
  simp [results, Try.results39, go_sem, Z0.out, Z1.out, Z2.out, Z3.out, Z4.out, Z5.out, Z6.out, Z7.out, Z8.out]

end Go.Proofs.Ytifmpcldiimdbaa

namespace Go.Proofs.Ytifmpcldiimdbaa
open Go.RowKit

set_option maxRecDepth 100000 in
set_option maxHeartbeats 1000000 in
theorem heard_any (l : List UInt8) (w : World) (hl : l.length ≤ 140737488351232) : Calls Try.prog 39 #[.string ⟨l.toArray⟩] w (HdE l w) := by
  by_cases hc1 : (onlyP l).2 = true ∧ (onlyP l).1.rows.length = 0 ∧ (onlyP l).1.kind = 1 ∧ (onlyP l).1.nums.length = 4 ∧ (onlyP l).1.texts.length = 1
  · exact heard_one l w hl hc1
  by_cases hc2 : (onlyP l).2 = true ∧ (onlyP l).1.rows.length = 0 ∧ (onlyP l).1.kind = 2 ∧ (onlyP l).1.nums.length = 3 ∧ (onlyP l).1.texts.length = 0
  · exact heard_two l w hl hc2
  have HC1 := Hid.mk hc1
  have HC2 := Hid.mk hc2
  clear hc1 hc2
  have C : Hid (Calls Try.prog 54 #[.string ⟨l.toArray⟩] (resH w) (OnE l (resH w))) := Hid.mk (only_any l (resH w) hl)
  unfold OnE at C
  obtain ⟨n, hn⟩ : ∃ n, (onlyP l).1 = n := ⟨_, rfl⟩
  obtain ⟨ok, hok⟩ : ∃ k, (onlyP l).2 = k := ⟨_, rfl⟩
  rw [hn, hok] at C
  have HM : Hid (ok = true → n.may) := Hid.mk (fun h => by rw [← hn]; exact (onlyP_ok (by rw [hok, h])).1)
  have HN := Hid.mk hn
  have HOK := Hid.mk hok
  clear hn hok hl
  have HRN : Hid ((resH w).heap.size = w.heap.size + 1) := Hid.mk (by simp)
  go_enter Try.func39, Try.ntmps39
  go_wp2_with fail
  refine C.out.mono ?_
  clear C
  rintro x w1 ⟨v, rfl, hown, hb⟩
  obtain ⟨a0, l0, c0, a1, l1, c1, a2, l2, c2, rfl⟩ := own_parts hown
  rw [HRN.out] at hown hb
  have hb2 : Below (w.heap.size + 1) (resH w) (w1.alloc (.cells #[.int .i64 n.kind, .slice a0 l0 c0, .slice a1 l1 c1, .slice a2 l2 c2] 36)) := hb.alloc (Nat.le_trans (by rw [HRN.out]; exact Nat.le_refl _) hb.size) _
  have hown2 := hown.below ((Below.refl w1.heap.size w1).alloc (Nat.le_refl _) (.cells #[.int .i64 n.kind, .slice a0 l0 c0, .slice a1 l1 c1, .slice a2 l2 c2] 36))
  obtain ⟨e0, e1, e2, hrn, hrt⟩ := own_read hown2
  have hbx := box_at w1 (.cells #[.int .i64 n.kind, .slice a0 l0 c0, .slice a1 l1 c1, .slice a2 l2 c2] 36)
  have HE0 := Hid.mk e0
  have HE1 := Hid.mk e1
  have HE2 := Hid.mk e2
  have HRNM := Hid.mk hrn
  have HRTX := Hid.mk hrt
  have HB2 := Hid.mk hb2
  have HOWN := Hid.mk hown2
  have HB1 := Hid.mk hb
  obtain ⟨⟨q0, q1, q2, q3⟩, -⟩ := four_cells hbx
  have HBX := Hid.mk hbx
  obtain ⟨⟨r0, r1, r2, r3, r4, r5, r6, r7, r8⟩, ⟨f0, f1, f2, f3, f4, f5, f6, f7, f8⟩⟩ := nine_cells (resH_block hb2)
  have HD : Hid (heardP l = none → HdE l w (.returned (.tuple #[.agg #[.int .i64 0, .int .i64 0, .int .i64 0, .bool false, .int .i64 0, .int .i64 0, .slice none 0 0, .slice none 0 0, .slice none 0 0], .bool false])) (set9 (w1.alloc (.cells #[.int .i64 n.kind, .slice a0 l0 c0, .slice a1 l1 c1, .slice a2 l2 c2] 36)) w.heap.size (.int .i64 0) (.int .i64 0) (.int .i64 0) (.bool false) (.int .i64 0) (.int .i64 0) (.slice none 0 0) (.slice none 0 0) (.slice none 0 0))) := Hid.mk (fun h => hdE_none h (set9_below (resH_below HB2.out) (Nat.le_refl _) _ _ _ _ _ _ _ _ _))
  clear hown hb hb2 hown2 e0 e1 e2 hrn hrt hbx
  cases ok with
  | false =>
    have HE := Hid.mk (HD.out (by rw [heardP, HOK.out, HN.out]; rfl))
    clear HD
    obtain ⟨⟨z0, z1, z2, z3, z4, z5, z6, z7, z8⟩, -⟩ := nine_cells (set9_block (resH_block HB2.out) (.int .i64 0) (.int .i64 0) (.int .i64 0) (.bool false) (.int .i64 0) (.int .i64 0) (.slice none 0 0) (.slice none 0 0) (.slice none 0 0))
    have Z0 := Hid.mk z0
    have Z1 := Hid.mk z1
    have Z2 := Hid.mk z2
    have Z3 := Hid.mk z3
    have Z4 := Hid.mk z4
    have Z5 := Hid.mk z5
    have Z6 := Hid.mk z6
    have Z7 := Hid.mk z7
    have Z8 := Hid.mk z8
    clear z0 z1 z2 z3 z4 z5 z6 z7 z8
    go_wp2
    refine bodyPost_ret (v := .tuple #[.agg #[.int .i64 0, .int .i64 0, .int .i64 0, .bool false, .int .i64 0, .int .i64 0, .slice none 0 0, .slice none 0 0, .slice none 0 0], .bool false]) ?_ rfl HE.out
    simp [results, Try.results39, go_sem, Z0.out, Z1.out, Z2.out, Z3.out, Z4.out, Z5.out, Z6.out, Z7.out, Z8.out]
  | true =>
    have HMAY := Hid.mk (HM.out rfl)
    clear HM
    by_cases hr : l2 = 0
    · subst hr
      by_cases hk1 : n.kind = 1
      · have hk1b : (n.kind == 1) = true := by simp; exact hk1
        have HKD := Hid.mk hk1
        clear hk1
        by_cases h4 : l0 = 4
        · subst h4
          by_cases h5 : l1 = 1
          · subst h5
            exact absurd ⟨by rw [HOK.out], by rw [HN.out, ← HE2.out], by rw [HN.out]; exact HKD.out, by rw [HN.out, ← HE0.out], by rw [HN.out, ← HE1.out]⟩ HC1.out
          · have h5a : ((l1 : Int) == 1) = false := by simp; omega
            have h5b : ¬ (l1 : Int) = 1 := by omega
            have k2 : (n.kind == 2) = false := by simp; have := HKD.out; omega
            have HE := Hid.mk (HD.out (by rw [heardP, HOK.out, HN.out]; exact heardN_one HKD.out (fun h => h5 (HE1.out.trans h.2))))
            clear HD
            clear h5
            obtain ⟨⟨z0, z1, z2, z3, z4, z5, z6, z7, z8⟩, -⟩ := nine_cells (set9_block (resH_block HB2.out) (.int .i64 0) (.int .i64 0) (.int .i64 0) (.bool false) (.int .i64 0) (.int .i64 0) (.slice none 0 0) (.slice none 0 0) (.slice none 0 0))
            have Z0 := Hid.mk z0
            have Z1 := Hid.mk z1
            have Z2 := Hid.mk z2
            have Z3 := Hid.mk z3
            have Z4 := Hid.mk z4
            have Z5 := Hid.mk z5
            have Z6 := Hid.mk z6
            have Z7 := Hid.mk z7
            have Z8 := Hid.mk z8
            clear z0 z1 z2 z3 z4 z5 z6 z7 z8
            go_wp2
            refine bodyPost_ret (v := .tuple #[.agg #[.int .i64 0, .int .i64 0, .int .i64 0, .bool false, .int .i64 0, .int .i64 0, .slice none 0 0, .slice none 0 0, .slice none 0 0], .bool false]) ?_ rfl HE.out
            simp [results, Try.results39, go_sem, Z0.out, Z1.out, Z2.out, Z3.out, Z4.out, Z5.out, Z6.out, Z7.out, Z8.out]
        · have h4a : ((l0 : Int) == 4) = false := by simp; omega
          have h4b : ¬ (l0 : Int) = 4 := by omega
          have k2 : (n.kind == 2) = false := by simp; have := HKD.out; omega
          have HE := Hid.mk (HD.out (by rw [heardP, HOK.out, HN.out]; exact heardN_one HKD.out (fun h => h4 (HE0.out.trans h.1))))
          clear HD
          clear h4
          obtain ⟨⟨z0, z1, z2, z3, z4, z5, z6, z7, z8⟩, -⟩ := nine_cells (set9_block (resH_block HB2.out) (.int .i64 0) (.int .i64 0) (.int .i64 0) (.bool false) (.int .i64 0) (.int .i64 0) (.slice none 0 0) (.slice none 0 0) (.slice none 0 0))
          have Z0 := Hid.mk z0
          have Z1 := Hid.mk z1
          have Z2 := Hid.mk z2
          have Z3 := Hid.mk z3
          have Z4 := Hid.mk z4
          have Z5 := Hid.mk z5
          have Z6 := Hid.mk z6
          have Z7 := Hid.mk z7
          have Z8 := Hid.mk z8
          clear z0 z1 z2 z3 z4 z5 z6 z7 z8
          go_wp2
          refine bodyPost_ret (v := .tuple #[.agg #[.int .i64 0, .int .i64 0, .int .i64 0, .bool false, .int .i64 0, .int .i64 0, .slice none 0 0, .slice none 0 0, .slice none 0 0], .bool false]) ?_ rfl HE.out
          simp [results, Try.results39, go_sem, Z0.out, Z1.out, Z2.out, Z3.out, Z4.out, Z5.out, Z6.out, Z7.out, Z8.out]
      · have hk1b : (n.kind == 1) = false := by simp; exact hk1
        by_cases hk2 : n.kind = 2
        · have hk2b : (n.kind == 2) = true := by simp; exact hk2
          have HKD := Hid.mk hk2
          clear hk1 hk2
          by_cases h4 : l0 = 3
          · subst h4
            by_cases h5 : l1 = 0
            · subst h5
              exact absurd ⟨by rw [HOK.out], by rw [HN.out, ← HE2.out], by rw [HN.out]; exact HKD.out, by rw [HN.out, ← HE0.out], by rw [HN.out, ← HE1.out]⟩ HC2.out
            · have h5a : ((l1 : Int) == 0) = false := by simp; omega
              have h5b : ¬ (l1 : Int) = 0 := by omega
              have HE := Hid.mk (HD.out (by rw [heardP, HOK.out, HN.out]; exact heardN_two HKD.out (fun h => h5 (HE1.out.trans h.2))))
              clear HD
              clear h5
              obtain ⟨⟨z0, z1, z2, z3, z4, z5, z6, z7, z8⟩, -⟩ := nine_cells (set9_block (resH_block HB2.out) (.int .i64 0) (.int .i64 0) (.int .i64 0) (.bool false) (.int .i64 0) (.int .i64 0) (.slice none 0 0) (.slice none 0 0) (.slice none 0 0))
              have Z0 := Hid.mk z0
              have Z1 := Hid.mk z1
              have Z2 := Hid.mk z2
              have Z3 := Hid.mk z3
              have Z4 := Hid.mk z4
              have Z5 := Hid.mk z5
              have Z6 := Hid.mk z6
              have Z7 := Hid.mk z7
              have Z8 := Hid.mk z8
              clear z0 z1 z2 z3 z4 z5 z6 z7 z8
              go_wp2
              refine bodyPost_ret (v := .tuple #[.agg #[.int .i64 0, .int .i64 0, .int .i64 0, .bool false, .int .i64 0, .int .i64 0, .slice none 0 0, .slice none 0 0, .slice none 0 0], .bool false]) ?_ rfl HE.out
              simp [results, Try.results39, go_sem, Z0.out, Z1.out, Z2.out, Z3.out, Z4.out, Z5.out, Z6.out, Z7.out, Z8.out]
          · have h4a : ((l0 : Int) == 3) = false := by simp; omega
            have h4b : ¬ (l0 : Int) = 3 := by omega
            have HE := Hid.mk (HD.out (by rw [heardP, HOK.out, HN.out]; exact heardN_two HKD.out (fun h => h4 (HE0.out.trans h.1))))
            clear HD
            clear h4
            obtain ⟨⟨z0, z1, z2, z3, z4, z5, z6, z7, z8⟩, -⟩ := nine_cells (set9_block (resH_block HB2.out) (.int .i64 0) (.int .i64 0) (.int .i64 0) (.bool false) (.int .i64 0) (.int .i64 0) (.slice none 0 0) (.slice none 0 0) (.slice none 0 0))
            have Z0 := Hid.mk z0
            have Z1 := Hid.mk z1
            have Z2 := Hid.mk z2
            have Z3 := Hid.mk z3
            have Z4 := Hid.mk z4
            have Z5 := Hid.mk z5
            have Z6 := Hid.mk z6
            have Z7 := Hid.mk z7
            have Z8 := Hid.mk z8
            clear z0 z1 z2 z3 z4 z5 z6 z7 z8
            go_wp2
            refine bodyPost_ret (v := .tuple #[.agg #[.int .i64 0, .int .i64 0, .int .i64 0, .bool false, .int .i64 0, .int .i64 0, .slice none 0 0, .slice none 0 0, .slice none 0 0], .bool false]) ?_ rfl HE.out
            simp [results, Try.results39, go_sem, Z0.out, Z1.out, Z2.out, Z3.out, Z4.out, Z5.out, Z6.out, Z7.out, Z8.out]
        · have hk2b : (n.kind == 2) = false := by simp; exact hk2
          have HE := Hid.mk (HD.out (by rw [heardP, HOK.out, HN.out]; exact heardN_kind hk1 hk2))
          clear HD
          clear hk1 hk2
          obtain ⟨⟨z0, z1, z2, z3, z4, z5, z6, z7, z8⟩, -⟩ := nine_cells (set9_block (resH_block HB2.out) (.int .i64 0) (.int .i64 0) (.int .i64 0) (.bool false) (.int .i64 0) (.int .i64 0) (.slice none 0 0) (.slice none 0 0) (.slice none 0 0))
          have Z0 := Hid.mk z0
          have Z1 := Hid.mk z1
          have Z2 := Hid.mk z2
          have Z3 := Hid.mk z3
          have Z4 := Hid.mk z4
          have Z5 := Hid.mk z5
          have Z6 := Hid.mk z6
          have Z7 := Hid.mk z7
          have Z8 := Hid.mk z8
          clear z0 z1 z2 z3 z4 z5 z6 z7 z8
          go_wp2
          refine bodyPost_ret (v := .tuple #[.agg #[.int .i64 0, .int .i64 0, .int .i64 0, .bool false, .int .i64 0, .int .i64 0, .slice none 0 0, .slice none 0 0, .slice none 0 0], .bool false]) ?_ rfl HE.out
          simp [results, Try.results39, go_sem, Z0.out, Z1.out, Z2.out, Z3.out, Z4.out, Z5.out, Z6.out, Z7.out, Z8.out]
    · have hr1 : ((l2 : Int) != 0) = true := by simp; omega
      have hr2 : ¬ (l2 : Int) = 0 := by omega
      have HE := Hid.mk (HD.out (by rw [heardP, HOK.out, HN.out]; exact heardN_rows (by rw [← HE2.out]; exact hr)))
      clear HD
      clear hr
      obtain ⟨⟨z0, z1, z2, z3, z4, z5, z6, z7, z8⟩, -⟩ := nine_cells (set9_block (resH_block HB2.out) (.int .i64 0) (.int .i64 0) (.int .i64 0) (.bool false) (.int .i64 0) (.int .i64 0) (.slice none 0 0) (.slice none 0 0) (.slice none 0 0))
      have Z0 := Hid.mk z0
      have Z1 := Hid.mk z1
      have Z2 := Hid.mk z2
      have Z3 := Hid.mk z3
      have Z4 := Hid.mk z4
      have Z5 := Hid.mk z5
      have Z6 := Hid.mk z6
      have Z7 := Hid.mk z7
      have Z8 := Hid.mk z8
      clear z0 z1 z2 z3 z4 z5 z6 z7 z8
      go_wp2
      refine bodyPost_ret (v := .tuple #[.agg #[.int .i64 0, .int .i64 0, .int .i64 0, .bool false, .int .i64 0, .int .i64 0, .slice none 0 0, .slice none 0 0, .slice none 0 0], .bool false]) ?_ rfl HE.out
      simp [results, Try.results39, go_sem, Z0.out, Z1.out, Z2.out, Z3.out, Z4.out, Z5.out, Z6.out, Z7.out, Z8.out]

end Go.Proofs.Ytifmpcldiimdbaa

namespace Go.Proofs.Ytifmpcldiimdbaa
open Go.RowKit

/-- What meet ends with. -/
def MtE (S : Nat → Prop) (w : World) (b : Nat) (vq : Value) (e : En) (k : Nat) (x : Ending) (w' : World) : Prop := x = .returned (.bool (meetE e k).2) ∧ ∃ vq', LB S w' b vq' (meetE e k).1 ∧ Fr S w w' ∧ ∀ g, vq'.ownBlock = some g → vq.ownBlock = some g
section
variable {S : Nat → Prop} {w : World} {b : Nat} {vq : Value} {e : En}
theorem meetE_ok {e : En} (h : e.ok) {k : Nat} (hk : k ≤ 4611686018427387903) : (meetE e k).1.ok := by
  unfold meetE
  split
  · exact { h with ot2 := hk, wt1 := Nat.le_refl _, wt2 := by simp }
  · exact { h with ot2 := hk, wt1 := Nat.le_refl _, wt2 := by simp, fs1 := Nat.le_refl _, fs2 := by simp, ql := by simp, qs := by simp }
set_option maxRecDepth 100000 in
theorem meet_any (h : LB S w b vq e) (hS : Low S w) (k : Nat) (hk : k ≤ 4611686018427387903) :
    Calls Try.prog 40 #[.pointer (some ⟨b, 0, none⟩), .int .i64 (k : Int)] w (MtE S w b vq e k) := by
  have H := Hid.mk h
  have HOK := Hid.mk (meetE_ok h.ok hk)
  by_cases h0 : e.ot = 0
  · obtain ⟨⟨g0, g1, g2, g3, g4, g5⟩, ⟨f0, f1, f2, f3, f4, f5⟩⟩ := six_cells h.blk
    have HE : Hid (MtE S w b vq e k (.returned (.bool false)) ((w.setCell ⟨b, 2, none⟩ (.int .i64 (k : Int))).setCell ⟨b, 3, none⟩ (.int .i64 1))) := Hid.mk (by
      have hm : meetE e k = ({ e with ot := k, wt := 1 }, false) := by rw [meetE, if_pos h0]
      have hok := HOK.out
      rw [hm] at hok
      refine ⟨by rw [hm], vq, ?_, ((Fr.refl S w).setCell h.out _).setCell h.out _, fun _ hg => hg⟩
      rw [hm]
      exact { h with blk := six_set3 (six_set2 h.blk), row := (h.row.set h.blk (by decide) _).set (six_set2 h.blk) (by decide) _, lowq := fun g hg => by simpa using h.lowq g hg, ok := hok })
    rw [h0] at g2
    clear h h0
    go_enter Try.func40, Try.ntmps40
    go_wp2
    go_ret
    exact HE.out
  · obtain ⟨⟨g0, g1, g2, g3, g4, g5⟩, ⟨f0, f1, f2, f3, f4, f5⟩⟩ := six_cells h.blk
    have hot : ((e.ot : Int) != 0) = true := by simp; omega
    have hot2 : ¬ (e.ot : Int) = 0 := by omega
    have C := Hid.mk (emptyQ_any w)
    have HM : Hid (meetE e k = ({ e with ot := k, wt := 1, fs := 1, q := [] }, true)) := Hid.mk (by rw [meetE, if_neg h0])
    clear h h0
    go_enter Try.func40, Try.ntmps40
    go_wp2_with fail
    refine C.out.mono ?_
    rintro x w1 ⟨rfl, hb⟩
    have h1 := H.out.below hb
    have HF := Hid.mk (fr_below hS hb)
    clear g0 g1 g2 g3 g4 g5 f0 f1 f2 f3 f4 f5 hb
    obtain ⟨⟨g0, g1, g2, g3, g4, g5⟩, ⟨f0, f1, f2, f3, f4, f5⟩⟩ := six_cells h1.blk
    have HE : Hid (MtE S w b vq e k (.returned (.bool true)) ((((w1.setCell ⟨b, 4, none⟩ (.int .i64 1)).setCell ⟨b, 5, none⟩ (.slice none 0 0)).setCell ⟨b, 2, none⟩ (.int .i64 (k : Int))).setCell ⟨b, 3, none⟩ (.int .i64 1))) := Hid.mk (by
      have hok := HOK.out
      rw [HM.out] at hok
      refine ⟨by rw [HM.out], .slice none 0 0, ?_, (((HF.out.setCell h1.out _).setCell h1.out _).setCell h1.out _).setCell h1.out _, fun _ hg => by cases hg⟩
      rw [HM.out]
      exact { blk := six_set3 (six_set2 (six_set5 (six_set4 h1.blk))), out := h1.out, row := .inl ⟨none, rfl, rfl⟩, outq := fun g hg => (by cases hg), lowq := fun g hg => (by cases hg), neb := (by simp [Value.ownBlock]), ok := hok })
    clear h1
    go_wp2
    go_ret
    exact HE.out
end

/-- A slice of no text, or of one in a block from B on. -/
def OneT (w : World) (B : Nat) (v : Value) (ls : List (List UInt8)) : Prop :=
  (ls = [] ∧ v = .slice none 0 0) ∨ ∃ g t, ls = [t] ∧ v = .slice (some ⟨g, 0, none⟩) 1 1 ∧ B ≤ g ∧ w.heap[g]? = some (.cells #[.string ⟨t.toArray⟩] 9 (0, 0))
/-- A slice of no note, or of one in a block from B on, with its parts. -/
def OneN (w : World) (B : Nat) (v : Value) (ns : List NoteD) : Prop :=
  (ns = [] ∧ v = .slice none 0 0) ∨ ∃ g n a0 l0 c0 a1 l1 c1 a2 l2 c2, ns = [n] ∧ v = .slice (some ⟨g, 0, none⟩) 1 1 ∧ B ≤ g ∧ w.heap[g]? = some (.cells #[.int .i64 n.kind, .slice a0 l0 c0, .slice a1 l1 c1, .slice a2 l2 c2] 36 (0, 0)) ∧ NoteOwn w B (.agg #[.int .i64 n.kind, .slice a0 l0 c0, .slice a1 l1 c1, .slice a2 l2 c2]) n
theorem OneT.keep {w w' : World} {B : Nat} {v : Value} {ls : List (List UInt8)} (h : OneT w B v ls) (hk : ∀ k o, B ≤ k → w.heap[k]? = some o → w'.heap[k]? = some o) : OneT w' B v ls := by
  rcases h with h | ⟨g, t, h1, h2, h3, h4⟩
  · exact .inl h
  · exact .inr ⟨g, t, h1, h2, h3, hk g _ h3 h4⟩
theorem NoteOwn.keep {w w' : World} {B : Nat} {v : Value} {n : NoteD} (h : NoteOwn w B v n) (hk : ∀ k o, B ≤ k → w.heap[k]? = some o → w'.heap[k]? = some o) : NoteOwn w' B v n := by
  have key : ∀ {e : TypeId} {m : Nat} {u : Value} {xs : List Value}, w.ownsRow B e 1 u m xs → w'.ownsRow B e 1 u m xs := fun {e m u xs} h => by
    refine ⟨h.1, ?_⟩
    rcases h.2 with h0 | ⟨g, cap, cur, e1, e2, e3, e4⟩
    · exact .inl h0
    · exact .inr ⟨g, cap, cur, e1, e2, hk g _ e2 e3, e4⟩
  obtain ⟨vn, vt, vr, e, h1, h2, ⟨vs, h3, h4, h5⟩, b⟩ := h
  exact ⟨vn, vt, vr, e, h1.kept (fun g cur fz hB hg => hk g _ hB hg), key h2, ⟨vs, key h3, h4, fun j x r hx hr => key (h5 j x r hx hr)⟩, b⟩
theorem OneN.keep {w w' : World} {B : Nat} {v : Value} {ns : List NoteD} (h : OneN w B v ns) (hk : ∀ k o, B ≤ k → w.heap[k]? = some o → w'.heap[k]? = some o) : OneN w' B v ns := by
  rcases h with h | ⟨g, n, a0, l0, c0, a1, l1, c1, a2, l2, c2, h1, h2, h3, h4, h5⟩
  · exact .inl h
  · exact .inr ⟨g, n, a0, l0, c0, a1, l1, c1, a2, l2, c2, h1, h2, h3, hk g _ h3 h4, h5.keep hk⟩

theorem three_cells {w : World} {b : Nat} {c0 c1 c2 : Value} {t : TypeId} (h : w.heap[b]? = some (.cells #[c0, c1, c2] t (0, 0))) :
    (w.cell? ⟨b, 0, none⟩ = some c0 ∧ w.cell? ⟨b, 1, none⟩ = some c1 ∧ w.cell? ⟨b, 2, none⟩ = some c2) ∧ (w.frozen? ⟨b, 0, none⟩ = false ∧ w.frozen? ⟨b, 1, none⟩ = false ∧ w.frozen? ⟨b, 2, none⟩ = false) := by
  simp [World.cell?, World.frozen?, h]
section
variable {w : World} {b : Nat} {c0 c1 c2 v : Value} {t : TypeId} (h : w.heap[b]? = some (.cells #[c0, c1, c2] t (0, 0)))
include h
theorem three_set0 : (w.setCell ⟨b, 0, none⟩ v).heap[b]? = some (.cells #[v, c1, c2] t (0, 0)) := by simp [World.setCell, Array.getElem?_modify, h]
theorem three_set1 : (w.setCell ⟨b, 1, none⟩ v).heap[b]? = some (.cells #[c0, v, c2] t (0, 0)) := by simp [World.setCell, Array.getElem?_modify, h]
theorem three_set2 : (w.setCell ⟨b, 2, none⟩ v).heap[b]? = some (.cells #[c0, c1, v] t (0, 0)) := by simp [World.setCell, Array.getElem?_modify, h]
end
abbrev set3 (w : World) (b : Nat) (u0 u1 u2 : Value) : World := ((w.setCell ⟨b, 0, none⟩ u0).setCell ⟨b, 1, none⟩ u1).setCell ⟨b, 2, none⟩ u2
theorem set3_block {w : World} {b : Nat} {c0 c1 c2 : Value} {t : TypeId} (h : w.heap[b]? = some (.cells #[c0, c1, c2] t (0, 0))) (u0 u1 u2 : Value) : (set3 w b u0 u1 u2).heap[b]? = some (.cells #[u0, u1, u2] t (0, 0)) := three_set2 (three_set1 (three_set0 h))
theorem set3_other {w : World} {b k : Nat} (hk : k ≠ b) (u0 u1 u2 : Value) : (set3 w b u0 u1 u2).heap[k]? = w.heap[k]? :=
  (Below.heap_setCell _ ⟨b, 2, none⟩ u2 k hk).trans ((Below.heap_setCell _ ⟨b, 1, none⟩ u1 k hk).trans (Below.heap_setCell w ⟨b, 0, none⟩ u0 k hk))
theorem set1_other {w : World} {b k i : Nat} (hk : k ≠ b) (u : Value) : (w.setCell ⟨b, i, none⟩ u).heap[k]? = w.heap[k]? := Below.heap_setCell w ⟨b, i, none⟩ u k hk
theorem size_set1 (w : World) (b i : Nat) (u : Value) : (w.setCell ⟨b, i, none⟩ u).heap.size = w.heap.size := by simp
theorem size_set3 (w : World) (b : Nat) (u0 u1 u2 : Value) : (set3 w b u0 u1 u2).heap.size = w.heap.size := by simp
end Go.Proofs.Ytifmpcldiimdbaa

namespace Go.Proofs.Ytifmpcldiimdbaa
open Go.RowKit

/-- The end at W, of a call that began at w: it owns nothing that is new; the blocks of S are kept. -/
structure LF (S : Nat → Prop) (w W : World) (b : Nat) (vq : Value) (e : En) : Prop where
  lb : LB (fun k => S k ∨ w.heap.size ≤ k) W b vq e
  fr : Fr S w W
def SN (S : Nat → Prop) (w W : World) : Nat → Prop := fun k => S k ∨ (w.heap.size ≤ k ∧ k < W.heap.size)
section
variable {S : Nat → Prop} {w W W' : World} {b : Nat} {vq vq' : Value} {e e' : En}
theorem LF.begin (h : LB S w b vq e) : LF S w w b vq e :=
  ⟨h.more (fun k hk => hk.elim .inl (fun h1 => .inr ⟨by have := lt_of_block h.blk; omega, fun e => by have := h.lowq k e; omega⟩)), Fr.refl _ _⟩
theorem LF.b_lt (h : LF S w W b vq e) : b < w.heap.size := Nat.lt_of_not_le (fun h1 => h.lb.out (.inr h1))
theorem LF.q_lt (h : LF S w W b vq e) {g : Nat} (hg : vq.ownBlock = some g) : g < w.heap.size := Nat.lt_of_not_le (fun h1 => h.lb.outq g hg (.inr h1))
theorem LF.low (h : LF S w W b vq e) (hS : Low S w) : Low (SN S w W) W := fun k hk => hk.elim (fun h1 => Nat.lt_of_lt_of_le (hS k h1) h.fr.size) (fun h1 => h1.2)
theorem LF.sn (h : LF S w W b vq e) : LB (SN S w W) W b vq e := h.lb.sub (fun _ hk => hk.elim .inl (fun h1 => .inr h1.1))
theorem LF.below (h : LF S w W b vq e) (hS : Low S w) (hb : Below W.heap.size W W') : LF S w W' b vq e := ⟨h.lb.below hb, h.fr.next hS hb⟩
theorem LF.link (h : LF S w W b vq e) (hl : LB (SN S w W) W' b vq' e') (hf : Fr (SN S w W) W W') (hq : ∀ g, vq'.ownBlock = some g → vq.ownBlock = some g) : LF S w W' b vq' e' :=
  ⟨{ hl with out := h.lb.out, outq := fun g hg => h.lb.outq g (hq g hg) }, h.fr.trans (hf.sub (fun _ hk => .inl hk))⟩
theorem LF.kp (hf : Fr (SN S w W) W W') {k : Nat} {o : Obj} (hk : w.heap.size ≤ k) (ho : W.heap[k]? = some o) : W'.heap[k]? = some o := (hf.block k (.inr ⟨hk, lt_of_block ho⟩)).trans ho
theorem kpB (hb : Below W.heap.size W W') {k : Nat} {o : Obj} (ho : W.heap[k]? = some o) : W'.heap[k]? = some o := (hb.block k (lt_of_block ho)).trans ho
theorem LF.set (h : LF S w W b vq e) (hS : Low S w) {k i : Nat} (hk : w.heap.size ≤ k) (u : Value) : LF S w (W.setCell ⟨k, i, none⟩ u) b vq e := by
  have hb := h.b_lt
  refine ⟨{ h.lb with blk := (set1_other (by omega) u).trans h.lb.blk, row := h.lb.row.keep (fun g o hg ho => (set1_other (by have := h.q_lt hg; omega) u).trans ho), lowq := fun g hg => by simpa using h.lb.lowq g hg }, ?_⟩
  exact h.fr.setCell (fun h1 => by have := hS k h1; omega) u
theorem LF.set3 (h : LF S w W b vq e) (hS : Low S w) {k : Nat} (hk : w.heap.size ≤ k) (u0 u1 u2 : Value) : LF S w (set3 W k u0 u1 u2) b vq e := ((h.set hS hk u0).set hS hk u1).set hS hk u2
theorem LF.drewN (h : LF S w W b vq e) (n : Nat) : LF S w (W.drewN n) b vq e := by
  have hb : Below W.heap.size W (W.drewN n) := below_drewN (Below.refl _ _) n
  exact ⟨h.lb.below hb, ⟨h.fr.os, h.fr.tape, h.fr.output, h.fr.size, h.fr.block⟩⟩
theorem LF.alloc (h : LF S w W b vq e) (hS : Low S w) (o : Obj) : LF S w (W.alloc o) b vq e := h.below hS ((Below.refl _ _).alloc (Nat.le_refl _) _)
theorem LF.drew (h : LF S w W b vq e) : LF S w W.drew b vq e := ⟨h.lb.below (below_drewE (Below.refl _ _)), ⟨h.fr.os, h.fr.tape, h.fr.output, h.fr.size, h.fr.block⟩⟩
theorem drewN_heap (w : World) (n k : Nat) : (w.drewN n).heap[k]? = w.heap[k]? := rfl
theorem drewN_size (w : World) (n : Nat) : (w.drewN n).heap.size = w.heap.size := rfl
theorem alloc_old {o o' : Obj} {k : Nat} (h : W.heap[k]? = some o) : (W.alloc o').heap[k]? = some o := (Below.heap_alloc _ _ _ (lt_of_block h)).trans h
/-- It wants the next one. -/
theorem LF.want (h : LF S w W b vq e) (hok : (En.mk e.ep e.ot e.fs (e.wt + 1) e.q).ok) : LF S w (W.setCell ⟨b, 3, none⟩ (.int .i64 ((e.wt : Int) + 1))) b vq { e with wt := e.wt + 1 } :=
  ⟨{ h.lb with blk := six_set3 h.lb.blk, row := h.lb.row.set h.lb.blk (by decide) _, lowq := fun g hg => by simpa using h.lb.lowq g hg, ok := hok }, h.fr.setCell (fun h1 => h.lb.out (.inl h1)) _⟩
/-- What Take ends with. -/
def TakE (S : Nat → Prop) (w : World) (b : Nat) (e : En) (l : List UInt8) (x : Ending) (w' : World) : Prop :=
  (∃ a0 l0 c0 a1 l1 c1, x = .returned (.agg #[.slice a0 l0 c0, .slice a1 l1 c1, .bool (takeE e l).2.2.2]) ∧ OneN w' w.heap.size (.slice a0 l0 c0) (takeE e l).2.1 ∧ OneT w' w.heap.size (.slice a1 l1 c1) (takeE e l).2.2.1) ∧ ∃ vq', LF S w w' b vq' (takeE e l).1
theorem takE_of {l : List UInt8} {ns : List NoteD} {ps : List (List UInt8)} {an : Bool} {a0 a1 : Option Addr} {l0 c0 l1 c1 : Nat} (ht : takeE e l = (e', ns, ps, an)) (h1 : OneN W w.heap.size (.slice a0 l0 c0) ns) (h2 : OneT W w.heap.size (.slice a1 l1 c1) ps) (hl : LF S w W b vq' e') :
    TakE S w b e l (.returned (.agg #[.slice a0 l0 c0, .slice a1 l1 c1, .bool an])) W := by
  unfold TakE
  rw [ht]
  exact ⟨⟨a0, l0, c0, a1, l1, c1, rfl, h1, h2⟩, vq', hl⟩
theorem oneN_nil (W : World) (B : Nat) : OneN W B (.slice none 0 0) [] := .inl ⟨rfl, rfl⟩
theorem oneT_nil (W : World) (B : Nat) : OneT W B (.slice none 0 0) [] := .inl ⟨rfl, rfl⟩
theorem oneT_one {B g : Nat} {t : List UInt8} (hB : B ≤ g) (h : W.heap[g]? = some (.cells #[.string ⟨t.toArray⟩] 9 (0, 0))) : OneT W B (.slice (some ⟨g, 0, none⟩) 1 1) [t] := .inr ⟨g, t, rfl, rfl, hB, h⟩
theorem takE_drewN {l : List UInt8} {x : Ending} (h : TakE S w b e l x W) (n : Nat) : TakE S w b e l x (W.drewN n) := by
  obtain ⟨⟨a0, l0, c0, a1, l1, c1, h1, h2, h3⟩, vq', h4⟩ := h
  exact ⟨⟨a0, l0, c0, a1, l1, c1, h1, h2.keep (fun _ _ _ h => h), h3.keep (fun _ _ _ h => h)⟩, vq', h4.drewN n⟩
/-- A cell of a block that is no row is written: a note stays. -/
theorem NoteOwn.setT {B k i : Nat} {v u : Value} {n : NoteD} {cur : Array Value} {t : TypeId} {fz : Nat × Nat} (h : NoteOwn W B v n) (hk : W.heap[k]? = some (.cells cur t fz)) (h1 : t ≠ 3) (h2 : t ≠ 9) (h3 : t ≠ 27) : NoteOwn (W.setCell ⟨k, i, none⟩ u) B v n := by
  have ne : ∀ {g : Nat} {cr : Array Value} {e : TypeId} {fz' : Nat × Nat}, W.heap[g]? = some (.cells cr e fz') → t ≠ e → (W.setCell ⟨k, i, none⟩ u).heap[g]? = some (.cells cr e fz') := fun {g cr e fz'} hg he => (set1_other (fun hgk => by
    subst hgk
    rw [hg] at hk
    simp only [Option.some.injEq, Obj.cells.injEq] at hk
    exact he hk.2.1.symm) u).trans hg
  have key : ∀ {e : TypeId} {m : Nat} {u' : Value} {xs : List Value}, t ≠ e → W.ownsRow B e 1 u' m xs → (W.setCell ⟨k, i, none⟩ u).ownsRow B e 1 u' m xs := fun {e m u' xs} he h => by
    refine ⟨h.1, ?_⟩
    rcases h.2 with h0 | ⟨g, cap, cur, e1, e2, e3, e4⟩
    · exact .inl h0
    · exact .inr ⟨g, cap, cur, e1, e2, ne e3 he, e4⟩
  obtain ⟨vn, vt, vr, e, g1, g2, ⟨vs, g3, g4, g5⟩, b⟩ := h
  exact ⟨vn, vt, vr, e, g1.kept (fun g cur fz hB hg => ne hg h1), key h2 g2, ⟨vs, key h3 g3, g4, fun j x r hx hr => key h2 (g5 j x r hx hr)⟩, b⟩
end
end Go.Proofs.Ytifmpcldiimdbaa
