/- A store in memory; New, given, Version of it; isBatch, turnedBy, countBehind. -/
import Derived.Test.YtiabnjjdeikefaaSSet
import Derived.Deep.RegionHeld3
namespace Go.Proofs.Ytiabnjjdeikefaa
open Go.RowKit

/-! Slices whose elements have k cells each. -/
section
variable {α : Type} {enc : α → List Value} {k : Nat}
/-- A slice whose elements lie in a block of S. -/
def SlS (enc : α → List Value) (k : Nat) (S : Nat → Prop) (w : World) (v : Value) (L : List α) : Prop :=
  ∃ ao cap, v = .slice ao L.length cap ∧ (L = [] ∨ ∃ g off, ao = some ⟨g, off, none⟩ ∧ S g ∧ g < w.heap.size ∧ ∀ (j : Nat) x, L[j]? = some x → ∀ (c : Nat) u, (enc x)[c]? = some u → w.cell? ⟨g, off + j * k + c, none⟩ = some u)
theorem SlS.keep {S T : Nat → Prop} {w w' : World} {v : Value} {L : List α} (h : SlS enc k S w v L) (hz : w.heap.size ≤ w'.heap.size) (hk : ∀ b, S b → b < w.heap.size → T b ∧ w'.heap[b]? = w.heap[b]?) : SlS enc k T w' v L := by
  obtain ⟨ao, cap, e, h⟩ := h
  refine ⟨ao, cap, e, ?_⟩
  rcases h with h | ⟨g, off, e1, hs, hl, hc⟩
  · exact .inl h
  · obtain ⟨ht, hb⟩ := hk g hs hl
    exact .inr ⟨g, off, e1, ht, Nat.lt_of_lt_of_le hl hz, fun j x hx c u hu => by simpa only [World.cell?, hb] using hc j x hx c u hu⟩
theorem SlS.below {S : Nat → Prop} {w w' : World} {v : Value} {L : List α} (h : SlS enc k S w v L) (hb : Below w.heap.size w w') : SlS enc k S w' v L :=
  h.keep hb.size (fun b hs hl => ⟨hs, hb.block b hl⟩)
theorem SlS.fr {S : Nat → Prop} {w w' : World} {v : Value} {L : List α} (h : SlS enc k S w v L) (hf : Fr S w w') : SlS enc k S w' v L :=
  h.keep hf.size (fun b hs _ => ⟨hs, hf.block b hs⟩)
theorem SlS.sub {S T : Nat → Prop} {w : World} {v : Value} {L : List α} (h : SlS enc k S w v L) (hs : ∀ b, S b → b < w.heap.size → T b) : SlS enc k T w v L :=
  h.keep (Nat.le_refl _) (fun b hb hl => ⟨hs b hb hl, rfl⟩)
theorem SlS.nil (S : Nat → Prop) (w : World) : SlS enc k S w (.slice none 0 0) [] := ⟨none, 0, rfl, .inl rfl⟩
theorem SlS.get {S : Nat → Prop} {w : World} {ao : Option Addr} {n cap : Nat} {L : List α} (h : SlS enc k S w (.slice ao n cap) L) {j : Nat} {x : α} (hx : L[j]? = some x) :
    ∃ g off, ao = some ⟨g, off, none⟩ ∧ S g ∧ g < w.heap.size ∧ ∀ (c : Nat) u, (enc x)[c]? = some u → w.cell? ⟨g, off + j * k + c, none⟩ = some u := by
  obtain ⟨ao', cap', e, h⟩ := h
  injection e with e1 e2 e3
  subst e1
  rcases h with rfl | ⟨g, off, e1, hs, hl, hc⟩
  · simp at hx
  · exact ⟨g, off, e1, hs, hl, hc j x hx⟩
theorem SlS.slice {S : Nat → Prop} {w : World} {v : Value} {L : List α} (h : SlS enc k S w v L) : ∃ ao cap, v = .slice ao L.length cap := by
  obtain ⟨ao, cap, e, _⟩ := h
  exact ⟨ao, cap, e⟩
theorem flat_len (hk : ∀ x, (enc x).length = k) (L : List α) : (L.flatMap enc).length = L.length * k := by
  induction L with
  | nil => simp
  | cons x l ih => rw [List.flatMap_cons, List.length_append, ih, hk, List.length_cons, Nat.succ_mul]; omega
theorem flat_at (hk : ∀ x, (enc x).length = k) : ∀ (L : List α) (j c : Nat) (x : α), L[j]? = some x → c < k → (L.flatMap enc)[j * k + c]? = (enc x)[c]?
  | [], j, c, x, h, _ => by simp at h
  | y :: l, 0, c, x, h, hc => by
    simp at h
    subst h
    rw [List.flatMap_cons, Nat.zero_mul, Nat.zero_add, List.getElem?_append_left (by rw [hk]; exact hc)]
  | y :: l, j + 1, c, x, h, hc => by
    rw [List.flatMap_cons, List.getElem?_append_right (by rw [hk, Nat.succ_mul]; omega), hk, show (j + 1) * k + c - k = j * k + c by rw [Nat.succ_mul]; omega]
    exact flat_at hk l j c x (by simpa using h) hc
theorem own_sl (hk : ∀ x, (enc x).length = k) {w : World} {B n : Nat} {e : TypeId} {v : Value} {L : List α} (h : w.ownsRow B e k v n (L.flatMap enc)) (hn : n = L.length) : SlS enc k (fun g => v.ownBlock = some g) w v L := by
  have h0 := h
  rcases h.2 with ⟨rfl, h1⟩ | ⟨g, cap, cur, rfl, _⟩
  · have : L = [] := List.length_eq_zero_iff.1 (by omega)
    subst this
    exact SlS.nil _ _
  · subst hn
    refine ⟨_, cap, rfl, .inr ⟨g, 0, rfl, rfl, (h.lt g rfl).2, fun j x hx c u hu => ?_⟩⟩
    have hc : c < k := by have := (List.getElem?_eq_some_iff.1 hu).1; rw [hk] at this; exact this
    have hj := (List.getElem?_eq_some_iff.1 hx).1
    have hlt : j * k + c < (L.flatMap enc).length := by
      rw [flat_len hk]
      have : (j + 1) * k ≤ L.length * k := Nat.mul_le_mul_right k hj
      rw [Nat.succ_mul] at this
      omega
    rw [Nat.zero_add, h0.cellAt (j * k + c) (by rw [flat_len hk] at hlt; exact hlt), flat_at hk L j c x hx hc, hu]
end

/-! Facts, changes, turns. -/
abbrev TrisS := SlS cs3 3
abbrev cs4 (c : Chg) : List Value := [.bool c.1, strV c.2.1, strV c.2.2.1, strV c.2.2.2]
abbrev ChgsS := SlS cs4 4
abbrev csU (p : Nat × Tri) : List Value := [.int .i64 (p.1 : Int), strV p.2.1, strV p.2.2.1, strV p.2.2.2]
theorem cs3_len (t : Tri) : (cs3 t).length = 3 := rfl
theorem cs4_len (c : Chg) : (cs4 c).length = 4 := rfl
theorem csU_len (p : Nat × Tri) : (csU p).length = 4 := rfl
theorem get3 {w : World} {g o : Nat} {t : Tri} (h : ∀ (c : Nat) u, (cs3 t)[c]? = some u → w.cell? ⟨g, o + c, none⟩ = some u) : w.cell? ⟨g, o, none⟩ = some (strV t.1) ∧ w.cell? ⟨g, o + 1, none⟩ = some (strV t.2.1) ∧ w.cell? ⟨g, o + 2, none⟩ = some (strV t.2.2) :=
  ⟨h 0 _ rfl, h 1 _ rfl, h 2 _ rfl⟩
theorem get4 {w : World} {g o : Nat} {t : Chg} (h : ∀ (c : Nat) u, (cs4 t)[c]? = some u → w.cell? ⟨g, o + c, none⟩ = some u) : w.cell? ⟨g, o, none⟩ = some (.bool t.1) ∧ w.cell? ⟨g, o + 1, none⟩ = some (strV t.2.1) ∧ w.cell? ⟨g, o + 2, none⟩ = some (strV t.2.2.1) ∧ w.cell? ⟨g, o + 3, none⟩ = some (strV t.2.2.2) :=
  ⟨h 0 _ rfl, h 1 _ rfl, h 2 _ rfl, h 3 _ rfl⟩
theorem getU {w : World} {g o : Nat} {t : Nat × Tri} (h : ∀ (c : Nat) u, (csU t)[c]? = some u → w.cell? ⟨g, o + c, none⟩ = some u) : w.cell? ⟨g, o, none⟩ = some (.int .i64 (t.1 : Int)) ∧ w.cell? ⟨g, o + 1, none⟩ = some (strV t.2.1) ∧ w.cell? ⟨g, o + 2, none⟩ = some (strV t.2.2.1) ∧ w.cell? ⟨g, o + 3, none⟩ = some (strV t.2.2.2) :=
  ⟨h 0 _ rfl, h 1 _ rfl, h 2 _ rfl, h 3 _ rfl⟩

theorem four_cells {w : World} {b : Nat} {c0 c1 c2 c3 : Value} {t : TypeId} (h : w.heap[b]? = some (.cells #[c0, c1, c2, c3] t (0, 0))) :
    (w.cell? ⟨b, 0, none⟩ = some c0 ∧ w.cell? ⟨b, 1, none⟩ = some c1 ∧ w.cell? ⟨b, 2, none⟩ = some c2 ∧ w.cell? ⟨b, 3, none⟩ = some c3) ∧
    (w.frozen? ⟨b, 0, none⟩ = false ∧ w.frozen? ⟨b, 1, none⟩ = false ∧ w.frozen? ⟨b, 2, none⟩ = false ∧ w.frozen? ⟨b, 3, none⟩ = false) := by
  simp [World.cell?, World.frozen?, h]
theorem four_set1 {w : World} {b : Nat} {c0 c1 c2 c3 v : Value} {t : TypeId} (h : w.heap[b]? = some (.cells #[c0, c1, c2, c3] t (0, 0))) : (w.setCell ⟨b, 1, none⟩ v).heap[b]? = some (.cells #[c0, v, c2, c3] t (0, 0)) := by
  simp [World.setCell, Array.getElem?_modify, h]
theorem four_set3 {w : World} {b : Nat} {c0 c1 c2 c3 v : Value} {t : TypeId} (h : w.heap[b]? = some (.cells #[c0, c1, c2, c3] t (0, 0))) : (w.setCell ⟨b, 3, none⟩ v).heap[b]? = some (.cells #[c0, c1, c2, v] t (0, 0)) := by
  simp [World.setCell, Array.getElem?_modify, h]

/-- The block b is a store that New gave, of the version N; it owns no block of S. -/
structure SAt (S : Nat → Prop) (w : World) (b mb N : Nat) (vt : Value) (F : List Tri) (ts : List (Nat × Tri)) : Prop where
  blk : w.heap[b]? = some (.cells #[.pointer (some ⟨b, 0, none⟩), .int .i64 (N : Int), .map (some mb), vt] 62 (0, 0))
  out : ¬ S b
  om : MSet w mb F
  outm : ¬ S mb
  ot : w.ownsRow 0 72 4 vt ts.length (ts.flatMap csU)
  outt : ∀ g, vt.ownBlock = some g → ¬ S g
/-- The store has the versions All. -/
def Q (S : Nat → Prop) (w : World) (b : Nat) (All : List (List Tri)) : Prop := ∃ mb N vt ts, SAt S w b mb N vt (lastT All) ts ∧ All.length = N + 1 ∧ Hist All ts

theorem SAt.keepOut {S : Nat → Prop} {w w' : World} {b mb N : Nat} {vt : Value} {F : List Tri} {ts : List (Nat × Tri)} (h : SAt S w b mb N vt F ts) (key : ∀ k (o : Obj), ¬ S k → w.heap[k]? = some o → w'.heap[k]? = some o) : SAt S w' b mb N vt F ts :=
  { h with blk := key b _ h.out h.blk, ot := owns_key h.ot (fun g o hg ho => key g o (h.outt g hg) ho), om := h.om.key (fun o ho => key mb o h.outm ho) }
theorem SAt.below {S : Nat → Prop} {w w' : World} {b mb N : Nat} {vt : Value} {F : List Tri} {ts : List (Nat × Tri)} (h : SAt S w b mb N vt F ts) (hb : Below w.heap.size w w') : SAt S w' b mb N vt F ts :=
  h.keepOut (fun k _ _ ho => (hb.block k (lt_of_block ho)).trans ho)
theorem SAt.more {S T : Nat → Prop} {w : World} {b mb N : Nat} {vt : Value} {F : List Tri} {ts : List (Nat × Tri)} (h : SAt S w b mb N vt F ts) (hT : ∀ k, T k → S k ∨ w.heap.size ≤ k) : SAt T w b mb N vt F ts :=
  { h with
    out := fun hk => (hT b hk).elim h.out (fun h1 => absurd (lt_of_block h.blk) (by omega))
    outt := fun g hg hk => (hT g hk).elim (h.outt g hg) (fun h1 => absurd (own_lt h.ot hg) (by omega))
    outm := fun hk => (hT mb hk).elim h.outm (fun h1 => absurd h.om.lt (by omega)) }
section
variable {S T : Nat → Prop} {w w' : World} {b : Nat} {All : List (List Tri)}
theorem Q.keepOut (h : Q S w b All) (key : ∀ k (o : Obj), ¬ S k → w.heap[k]? = some o → w'.heap[k]? = some o) : Q S w' b All := by
  obtain ⟨mb, N, vt, ts, h, r⟩ := h
  exact ⟨mb, N, vt, ts, h.keepOut key, r⟩
theorem Q.below (h : Q S w b All) (hb : Below w.heap.size w w') : Q S w' b All := by
  obtain ⟨mb, N, vt, ts, h, r⟩ := h
  exact ⟨mb, N, vt, ts, h.below hb, r⟩
theorem Q.more (h : Q S w b All) (hT : ∀ k, T k → S k ∨ w.heap.size ≤ k) : Q T w b All := by
  obtain ⟨mb, N, vt, ts, h, r⟩ := h
  exact ⟨mb, N, vt, ts, h.more hT, r⟩
/-- A store takes in what was made beside it. -/
theorem Q.plus (h : Q S w b All) (hb : Below w.heap.size w w') : Q (Plus S w.heap.size w'.heap.size) w' b All :=
  (h.more (T := Plus S w.heap.size w'.heap.size) (fun k hk => by
    rcases hk with hk | hk
    · exact .inl hk
    · exact .inr hk.1)).below hb
/-- .. or by another that shares no block with it. -/
theorem Q.beside (h : Q T w b All) (hf : Fr S w w') (hc : ∀ k, k < w.heap.size → S k ∨ T k) : Q (Plus T w.heap.size w'.heap.size) w' b All :=
  (h.more (T := Plus T w.heap.size w'.heap.size) (fun k hk => by
    rcases hk with hk | hk
    · exact .inl hk
    · exact .inr hk.1)).keepOut (fun k o hk ho => by
      have hs : S k := (hc k (lt_of_block ho)).elim id (fun ht => absurd (.inl ht) hk)
      exact (hf.block k hs).trans ho)
theorem Q.hist (h : Q S w b All) : ∃ ts, Hist All ts := by
  obtain ⟨mb, N, vt, ts, _, _, h⟩ := h
  exact ⟨ts, h⟩
end

theorem infoQ : (Try.prog.info? 62).map (fun i => i.size) = some 4 := by kernel_rfl
theorem eql_self (a : Addr) (w : World) : (binOp .eql 26 (.pointer (some a)) (.pointer (some a))).run Try.prog w = .ok (.bool true) w := by
  obtain ⟨j, hj, _⟩ := Option.map_eq_some_iff.1 infoQ
  exact run_eql_ptr_same w a Try.underlying26 hj
theorem eql_nil_left (a : Addr) (w : World) : (binOp .eql 26 (.pointer none) (.pointer (some a))).run Try.prog w = .ok (.bool false) w := by
  have h : ∀ d : Nat, (Op.equalIn (d + 1) 26 (.pointer none) (.pointer (some a))).run Try.prog w = .ok false w := fun d => by
    simp [Op.equalIn, run_underlying Try.underlying26]
  simp only [binOp]
  simp [Op.equal, Op.maxDepth, h 9999]

set_option maxRecDepth 100000 in
theorem given_any (b : Nat) (w : World) (h : w.cell? ⟨b, 0, none⟩ = some (.pointer (some ⟨b, 0, none⟩))) :
    Calls Try.prog 28 #[.pointer (some ⟨b, 0, none⟩)] w fun e w' => e = .returned (.bool true) ∧ w' = w := by
  have he := eql_self ⟨b, 0, none⟩ w
  go_enter Try.func28, Try.ntmps28
  go_wp2
  go_ret
  exact ⟨rfl, rfl⟩
set_option maxRecDepth 100000 in
theorem given_nil (w : World) :
    Calls Try.prog 28 #[.pointer none] w fun e w' => e = .returned (.bool false) ∧ w' = w := by
  go_enter Try.func28, Try.ntmps28
  go_wp2
  go_ret
  exact ⟨rfl, rfl⟩
set_option maxRecDepth 100000 in
theorem given_not (b : Nat) (w : World) (h : w.cell? ⟨b, 0, none⟩ = some (.pointer none)) :
    Calls Try.prog 28 #[.pointer (some ⟨b, 0, none⟩)] w fun e w' => e = .returned (.bool false) ∧ w' = w := by
  have he := eql_nil_left ⟨b, 0, none⟩ w
  go_enter Try.func28, Try.ntmps28
  go_wp2
  go_ret
  exact ⟨rfl, rfl⟩

set_option maxRecDepth 100000 in
theorem new_any (S : Nat → Prop) (w : World) (hS : Low S w) :
    Calls Try.prog 9 #[] w fun e w' => ∃ b, e = .returned (.pointer (some ⟨b, 0, none⟩)) ∧ Q S w' b [[]] ∧ Below w.heap.size w w' := by
  have hmm := @run_makeMap Try.prog
  go_enter Try.func9, Try.ntmps9
  go_wp2
  go_ret
  have b1 := ((Below.refl w.heap.size w).alloc (Nat.le_refl _) (.map #[] 0)).alloc (by simp) (.cells #[.pointer (some ⟨w.heap.size + 1, 0, none⟩), .int .i64 0, .map (some w.heap.size), .slice none 0 0] 62)
  have hsz : (w.alloc (.map #[] 0)).heap.size = w.heap.size + 1 := by simp
  refine ⟨w.heap.size + 1, rfl, ⟨w.heap.size, 0, .slice none 0 0, [], ?_, rfl, hist_new⟩, b1⟩
  refine { blk := ?_, out := fun hk => absurd (hS _ hk) (by omega), om := ?_, outm := fun hk => absurd (hS _ hk) (by omega), ot := ⟨rfl, .inl ⟨rfl, rfl⟩⟩, outt := by intro g hg; simp [Value.ownBlock] at hg }
  · have := box_at (w.alloc (.map #[] 0)) (.cells #[.pointer (some ⟨w.heap.size + 1, 0, none⟩), .int .i64 0, .map (some w.heap.size), .slice none 0 0] 62)
    rw [hsz] at this
    exact this
  · exact (mset_made w).below ((Below.refl _ _).alloc (Nat.le_refl _) _)

set_option maxRecDepth 100000 in
theorem version_any {S : Nat → Prop} {w : World} {b : Nat} {All : List (List Tri)} (h : Q S w b All) :
    Calls Try.prog 23 #[.pointer (some ⟨b, 0, none⟩)] w fun e w' => e = .returned (.int .i64 ((All.length - 1 : Nat) : Int)) ∧ w' = w := by
  obtain ⟨mb, N, vt, ts, h, hN, _⟩ := h
  rw [hN, Nat.add_sub_cancel]
  obtain ⟨⟨g0, g1, g2, g3⟩, _⟩ := four_cells h.blk
  have C := Hid.mk (given_any b w g0)
  clear h hN
  go_enter Try.func23, Try.ntmps23
  go_wp2_with fail
  refine C.out.mono ?_
  rintro e w1 ⟨rfl, hw⟩
  subst hw
  go_wp2
  go_ret
  exact ⟨rfl, rfl⟩
end Go.Proofs.Ytiabnjjdeikefaa
