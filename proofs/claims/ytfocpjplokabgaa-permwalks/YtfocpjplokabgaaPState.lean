/- Rows in memory, an index and a walk in memory; what is kept of the blocks that a call does not write. -/
import Derived.Test.YtfocpjplokabgaaPMath2
import Derived.LaidEqlPtr
import Derived.Carry
import Derived.WalkKit
import Derived.WalkSpells
import Derived.WalkLawsBesides
import Derived.WalkSmall
import Derived.Deep.QuietTactic
import Derived.BigQuiet
import Derived.Deep.RegionHeld3
namespace Go.Proofs.Ytfocpjplokabgaa
open Go.RowKit

theorem Hid.mk {p : Prop} (h : p) : Hid p := h

/-- The blocks of S are kept. -/
structure Fr (S : Nat → Prop) (w w' : World) : Prop where
  os : w'.os = w.os
  tape : w'.tape = w.tape
  output : w'.output = w.output
  size : w.heap.size ≤ w'.heap.size
  block : ∀ k, S k → w'.heap[k]? = w.heap[k]?
theorem Fr.refl (S : Nat → Prop) (w : World) : Fr S w w := ⟨rfl, rfl, rfl, Nat.le_refl _, fun _ _ => rfl⟩
theorem Fr.trans {S : Nat → Prop} {a b c : World} (h : Fr S a b) (k : Fr S b c) : Fr S a c :=
  ⟨k.os.trans h.os, k.tape.trans h.tape, k.output.trans h.output, Nat.le_trans h.size k.size, fun i hi => (k.block i hi).trans (h.block i hi)⟩
theorem Fr.sub {S T : Nat → Prop} {w w' : World} (h : Fr S w w') (hs : ∀ k, T k → S k) : Fr T w w' := ⟨h.os, h.tape, h.output, h.size, fun k hk => h.block k (hs k hk)⟩
theorem Fr.below {S : Nat → Prop} {w w' : World} {B : Nat} (h : Fr S w w') (hs : ∀ k, k < B → S k) : Below B w w' := ⟨h.os, h.tape, h.output, h.size, fun k hk => h.block k (hs k hk)⟩
/-- S names blocks of the world alone. -/
def Low (S : Nat → Prop) (w : World) : Prop := ∀ k, S k → k < w.heap.size
theorem Low.fr {S T : Nat → Prop} {w w' : World} (h : Low S w) (hf : Fr T w w') : Low S w' := fun k hk => Nat.lt_of_lt_of_le (h k hk) hf.size
theorem Low.size {S : Nat → Prop} {w w' : World} (h : Low S w) (hf : w.heap.size ≤ w'.heap.size) : Low S w' := fun k hk => Nat.lt_of_lt_of_le (h k hk) hf
theorem fr_below {S : Nat → Prop} {w w' : World} (hS : Low S w) (h : Below w.heap.size w w') : Fr S w w' := ⟨h.os, h.tape, h.output, h.size, fun k hk => h.block k (hS k hk)⟩
theorem Fr.next {S : Nat → Prop} {w w1 w2 : World} (h : Fr S w w1) (hS : Low S w) (hb : Below w1.heap.size w1 w2) : Fr S w w2 := h.trans (fr_below (hS.fr h) hb)
theorem Fr.setCell {S : Nat → Prop} {w w' : World} {b i : Nat} (h : Fr S w w') (hb : ¬ S b) (v : Value) : Fr S w (w'.setCell ⟨b, i, none⟩ v) :=
  ⟨h.os, h.tape, h.output, by simpa using h.size, fun k hk => (Below.heap_setCell w' ⟨b, i, none⟩ v k (fun e => hb (by rw [← show k = b from e]; exact hk))).trans (h.block k hk)⟩
theorem box_at (w : World) (o : Obj) : (w.alloc o).heap[w.heap.size]? = some o := heap_alloc_new w o

/-- The numbers are of 64 bits. -/
def in64 (n : Int) : Prop := -9223372036854775808 ≤ n ∧ n ≤ 9223372036854775807
def R3.wf (r : R3) : Prop := in64 r.a ∧ in64 r.b ∧ in64 r.c
theorem R3.wf_at {r : R3} (h : r.wf) (k : Nat) : in64 (r.at k) := by
  obtain ⟨h1, h2, h3⟩ := h
  match k with
  | 0 => exact h1
  | 1 => exact h2
  | k + 2 => exact h3
/-- A row at a place. -/
structure RowAt (w : World) (g off : Nat) (r : R3) : Prop where
  a : w.cell? ⟨g, off, none⟩ = some (.int .i64 r.a)
  b : w.cell? ⟨g, off + 1, none⟩ = some (.int .i64 r.b)
  c : w.cell? ⟨g, off + 2, none⟩ = some (.int .i64 r.c)
theorem RowAt.at {w : World} {g off : Nat} {r : R3} (h : RowAt w g off r) {k : Nat} (hk : k < 3) : w.cell? ⟨g, off + k, none⟩ = some (.int .i64 (r.at k)) := by
  match k, hk with
  | 0, _ => exact h.a
  | 1, _ => exact h.b
  | 2, _ => exact h.c
theorem RowAt.key {w w' : World} {g off : Nat} {r : R3} (h : RowAt w g off r) (hk : w'.heap[g]? = w.heap[g]?) : RowAt w' g off r :=
  ⟨by simpa only [World.cell?, hk] using h.a, by simpa only [World.cell?, hk] using h.b, by simpa only [World.cell?, hk] using h.c⟩
/-- A slice of rows, in a block of S. -/
def RowsS (S : Nat → Prop) (w : World) (v : Value) (L : List R3) : Prop :=
  L.length * 24 ≤ 140737488355328 ∧ (∀ r ∈ L, r.wf) ∧ ∃ ao cap, v = .slice ao L.length cap ∧ (L = [] ∨ ∃ g off, ao = some ⟨g, off, none⟩ ∧ S g ∧ g < w.heap.size ∧ ∀ (j : Nat) r, L[j]? = some r → RowAt w g (off + j * 3) r)
abbrev RowsAt (w : World) (v : Value) (L : List R3) : Prop := RowsS (fun _ => True) w v L
theorem RowsS.keep {S T : Nat → Prop} {w w' : World} {v : Value} {L : List R3} (h : RowsS S w v L) (hz : w.heap.size ≤ w'.heap.size) (hk : ∀ k, S k → k < w.heap.size → T k ∧ w'.heap[k]? = w.heap[k]?) : RowsS T w' v L := by
  obtain ⟨h1, h2, ao, cap, h3, h4⟩ := h
  refine ⟨h1, h2, ao, cap, h3, ?_⟩
  rcases h4 with h4 | ⟨b, o, ha, hb, hl, hc⟩
  · exact .inl h4
  · obtain ⟨k1, k2⟩ := hk b hb hl
    exact .inr ⟨b, o, ha, k1, Nat.lt_of_lt_of_le hl hz, fun j t hj => (hc j t hj).key k2⟩
theorem RowsS.below {S : Nat → Prop} {w w' : World} {v : Value} {L : List R3} (h : RowsS S w v L) (hb : Below w.heap.size w w') : RowsS S w' v L :=
  h.keep hb.size (fun k hk hl => ⟨hk, hb.block k hl⟩)
theorem RowsS.fr {S : Nat → Prop} {w w' : World} {v : Value} {L : List R3} (h : RowsS S w v L) (hf : Fr S w w') : RowsS S w' v L :=
  h.keep hf.size (fun k hk _ => ⟨hk, hf.block k hk⟩)
theorem RowsS.sub {S T : Nat → Prop} {w : World} {v : Value} {L : List R3} (h : RowsS S w v L) (hs : ∀ k, S k → k < w.heap.size → T k) : RowsS T w v L :=
  h.keep (Nat.le_refl _) (fun k hk hl => ⟨hs k hk hl, rfl⟩)
theorem RowsS.nil (S : Nat → Prop) (w : World) : RowsS S w (.slice none 0 0) [] := ⟨by simp, by simp, none, 0, rfl, .inl rfl⟩

/-- The block xb is an index that New gave; it and its rows lie in S. -/
structure XAt (S : Nat → Prop) (w : World) (xb : Nat) (v : Value) (o : Od) (L : List R3) : Prop where
  blk : w.heap[xb]? = some (.cells #[.pointer (some ⟨xb, 0, none⟩), .int .i64 (o.x : Int), .int .i64 (o.y : Int), .int .i64 (o.z : Int), v] 58 (0, 0))
  inS : S xb
  ok : o.ok
  strict : Strict o L
  rows : RowsS S w v L
theorem XAt.keep {S T : Nat → Prop} {w w' : World} {xb : Nat} {v : Value} {o : Od} {L : List R3} (h : XAt S w xb v o L) (hz : w.heap.size ≤ w'.heap.size) (hk : ∀ k, S k → k < w.heap.size → T k ∧ w'.heap[k]? = w.heap[k]?) : XAt T w' xb v o L :=
  { h with blk := (hk xb h.inS (lt_of_block h.blk)).2.trans h.blk, inS := (hk xb h.inS (lt_of_block h.blk)).1, rows := h.rows.keep hz hk }
theorem XAt.below {S : Nat → Prop} {w w' : World} {xb : Nat} {v : Value} {o : Od} {L : List R3} (h : XAt S w xb v o L) (hb : Below w.heap.size w w') : XAt S w' xb v o L :=
  h.keep hb.size (fun k hk hl => ⟨hk, hb.block k hl⟩)
theorem XAt.fr {S : Nat → Prop} {w w' : World} {xb : Nat} {v : Value} {o : Od} {L : List R3} (h : XAt S w xb v o L) (hf : Fr S w w') : XAt S w' xb v o L :=
  h.keep hf.size (fun k hk _ => ⟨hk, hf.block k hk⟩)
theorem XAt.sub {S T : Nat → Prop} {w : World} {xb : Nat} {v : Value} {o : Od} {L : List R3} (h : XAt S w xb v o L) (hs : ∀ k, S k → k < w.heap.size → T k) : XAt T w xb v o L :=
  h.keep (Nat.le_refl _) (fun k hk hl => ⟨hs k hk hl, rfl⟩)
theorem five_cells {w : World} {b : Nat} {c0 c1 c2 c3 c4 : Value} {t : TypeId} (h : w.heap[b]? = some (.cells #[c0, c1, c2, c3, c4] t (0, 0))) :
    w.cell? ⟨b, 0, none⟩ = some c0 ∧ w.cell? ⟨b, 1, none⟩ = some c1 ∧ w.cell? ⟨b, 2, none⟩ = some c2 ∧ w.cell? ⟨b, 3, none⟩ = some c3 ∧ w.cell? ⟨b, 4, none⟩ = some c4 := by
  simp [World.cell?, h]
theorem XAt.place {S : Nat → Prop} {w : World} {xb : Nat} {v : Value} {o : Od} {L : List R3} (h : XAt S w xb v o L) {k : Nat} (hk : k < 3) : w.cell? ⟨xb, 1 + k, none⟩ = some (.int .i64 (o.at k : Int)) := by
  obtain ⟨_, c1, c2, c3, _⟩ := five_cells h.blk
  match k, hk with
  | 0, _ => exact c1
  | 1, _ => exact c2
  | 2, _ => exact c3

/-- The block b is a walk of an index, and it is none of S: its ranges. -/
structure KAt (S : Nat → Prop) (w : World) (b xb : Nat) (d : Nat) (lv : Nat → Int × Int) : Prop where
  blk : w.heap[b]? = some (.cells #[.pointer (some ⟨b, 0, none⟩), .pointer (some ⟨xb, 0, none⟩), .int .i64 (d : Int), .int .i64 (lv 0).1, .int .i64 (lv 0).2, .int .i64 (lv 1).1, .int .i64 (lv 1).2, .int .i64 (lv 2).1, .int .i64 (lv 2).2, .int .i64 (lv 3).1, .int .i64 (lv 3).2] 64 (0, 0))
  out : ¬ S b
theorem KAt.cells {S : Nat → Prop} {w : World} {b xb d : Nat} {lv : Nat → Int × Int} (h : KAt S w b xb d lv) : w.cell? ⟨b, 0, none⟩ = some (.pointer (some ⟨b, 0, none⟩)) ∧ w.cell? ⟨b, 1, none⟩ = some (.pointer (some ⟨xb, 0, none⟩)) ∧ w.cell? ⟨b, 2, none⟩ = some (.int .i64 (d : Int)) := by
  simp [World.cell?, h.blk]
theorem KAt.lev {S : Nat → Prop} {w : World} {b xb d : Nat} {lv : Nat → Int × Int} (h : KAt S w b xb d lv) {k : Nat} (hk : k < 4) :
    (w.cell? ⟨b, 3 + k * 2, none⟩ = some (.int .i64 (lv k).1) ∧ w.cell? ⟨b, 3 + k * 2 + 1, none⟩ = some (.int .i64 (lv k).2)) ∧ w.frozen? ⟨b, 3 + k * 2, none⟩ = false ∧ w.frozen? ⟨b, 3 + k * 2 + 1, none⟩ = false := by
  match k, hk with
  | 0, _ => simp [World.cell?, World.frozen?, h.blk]
  | 1, _ => simp [World.cell?, World.frozen?, h.blk]
  | 2, _ => simp [World.cell?, World.frozen?, h.blk]
  | 3, _ => simp [World.cell?, World.frozen?, h.blk]
theorem KAt.below {S : Nat → Prop} {w w' : World} {b xb d : Nat} {lv : Nat → Int × Int} (h : KAt S w b xb d lv) (hb : Below w.heap.size w w') : KAt S w' b xb d lv :=
  ⟨(hb.block b (lt_of_block h.blk)).trans h.blk, h.out⟩

/-- The walk stands at s. -/
structure WAt (S : Nat → Prop) (w : World) (b xb : Nat) (v : Value) (o : Od) (L : List R3) (s : Wk) : Prop where
  x : XAt S w xb v o L
  k : ∃ lv, KAt S w b xb s.p.length lv ∧ ∀ k, k ≤ s.p.length → lv k = ((atOf o L s k : Int), (endOf o L s.p k : Int))
  ok : WkOk o L s
theorem WAt.below {S : Nat → Prop} {w w' : World} {b xb : Nat} {v : Value} {o : Od} {L : List R3} {s : Wk} (h : WAt S w b xb v o L s) (hb : Below w.heap.size w w') : WAt S w' b xb v o L s := by
  obtain ⟨lv, hk, hl⟩ := h.k
  exact ⟨h.x.below hb, ⟨lv, hk.below hb, hl⟩, h.ok⟩

theorem infoX : (Try.prog.info? 58).map (fun i => i.size) = some 5 := by kernel_rfl
theorem infoW : (Try.prog.info? 64).map (fun i => i.size) = some 11 := by kernel_rfl
theorem eql_self (a : Addr) (w : World) : (binOp .eql 25 (.pointer (some a)) (.pointer (some a))).run Try.prog w = .ok (.bool true) w := by
  obtain ⟨j, hj, _⟩ := Option.map_eq_some_iff.1 infoX
  exact run_eql_ptr_same w a Try.underlying25 hj
theorem eql_selfW (a : Addr) (w : World) : (binOp .eql 39 (.pointer (some a)) (.pointer (some a))).run Try.prog w = .ok (.bool true) w := by
  obtain ⟨j, hj, _⟩ := Option.map_eq_some_iff.1 infoW
  exact run_eql_ptr_same w a Try.underlying39 hj

set_option maxRecDepth 100000 in
theorem given_any (b : Nat) (w : World) (h : w.cell? ⟨b, 0, none⟩ = some (.pointer (some ⟨b, 0, none⟩))) :
    Calls Try.prog 35 #[.pointer (some ⟨b, 0, none⟩)] w fun e w' => e = .returned (.bool true) ∧ w' = w := by
  have he := eql_self ⟨b, 0, none⟩ w
  go_enter Try.func35, Try.ntmps35
  go_wp2
  go_ret
  exact ⟨rfl, rfl⟩
set_option maxRecDepth 100000 in
theorem givenW_any (b : Nat) (w : World) (h : w.cell? ⟨b, 0, none⟩ = some (.pointer (some ⟨b, 0, none⟩))) :
    Calls Try.prog 36 #[.pointer (some ⟨b, 0, none⟩)] w fun e w' => e = .returned (.bool true) ∧ w' = w := by
  have he := eql_selfW ⟨b, 0, none⟩ w
  go_enter Try.func36, Try.ntmps36
  go_wp2
  go_ret
  exact ⟨rfl, rfl⟩

set_option maxRecDepth 100000 in
theorem len_any {S : Nat → Prop} {w : World} {xb : Nat} {v : Value} {o : Od} {L : List R3} (h : XAt S w xb v o L) :
    Calls Try.prog 12 #[.pointer (some ⟨xb, 0, none⟩)] w fun e w' => e = .returned (.int .i64 (L.length : Int)) ∧ w' = w := by
  obtain ⟨_, _, ao, cap, rfl, _⟩ := h.rows
  obtain ⟨g0, g1, g2, g3, g4⟩ := five_cells h.blk
  have C := Hid.mk (given_any xb w g0)
  clear h
  go_enter Try.func12, Try.ntmps12
  go_wp2_with fail
  refine C.out.mono ?_
  rintro e w1 ⟨rfl, hw⟩
  subst hw
  go_wp2
  go_ret
  exact ⟨rfl, rfl⟩

set_option maxRecDepth 100000 in
theorem depth_any {S : Nat → Prop} {w : World} {b xb d : Nat} {lv : Nat → Int × Int} (h : KAt S w b xb d lv) :
    Calls Try.prog 27 #[.pointer (some ⟨b, 0, none⟩)] w fun e w' => e = .returned (.int .i64 (d : Int)) ∧ w' = w := by
  obtain ⟨g0, g1, g2⟩ := h.cells
  have C := Hid.mk (givenW_any b w g0)
  clear h
  go_enter Try.func27, Try.ntmps27
  go_wp2_with fail
  refine C.out.mono ?_
  rintro e w1 ⟨rfl, hw⟩
  subst hw
  go_wp2
  go_ret
  exact ⟨rfl, rfl⟩

set_option maxRecDepth 100000 in
set_option maxHeartbeats 1000000 in
theorem number_any {S : Nat → Prop} {w : World} {b xb d : Nat} {lv : Nat → Int × Int} {v : Value} {o : Od} {L : List R3} (h : KAt S w b xb (d + 1) lv) (hx : XAt S w xb v o L) (hd : d < 3) {i : Nat} {r : R3} (hi : L[i]? = some r) :
    Calls Try.prog 43 #[.pointer (some ⟨b, 0, none⟩), .int .i64 (i : Int)] w fun e w' => e = .returned (.int .i64 (num o r d)) ∧ ∃ q, w' = w.drewN q := by
  obtain ⟨g0, g1, g2⟩ := h.cells
  obtain ⟨x0, _, _, _, x4⟩ := five_cells hx.blk
  have xp := hx.place hd
  obtain ⟨hlen, _, ao, cap, rfl, hc⟩ := hx.rows
  have hil := (List.getElem?_eq_some_iff.1 hi).1
  have hiI : (i : Int) < (L.length : Int) := by omega
  rcases hc with rfl | ⟨g, off, rfl, _, hg, hc⟩
  · simp at hil
  have hp := Od.lt hx.ok d
  have hpI : (o.at d : Int) < 3 := by omega
  have hcr := (hc i r hi).at hp
  have hd1 : ((d + 1 : Nat) : Int) - 1 = (d : Int) := by omega
  have hdI : (d : Int) < 3 := by omega
  have hwr : IntKind.i64.wrap (d : Int) = (d : Int) := by rw [IntKind.wrap_i64]; omega
  obtain ⟨n, hn⟩ : ∃ n, n = L.length := ⟨_, rfl⟩
  obtain ⟨P, hP⟩ : ∃ P, P = o.at d := ⟨_, rfl⟩
  obtain ⟨X, hX⟩ : ∃ X, X = num o r d := ⟨_, rfl⟩
  have hcr2 : w.cell? ⟨g, off + i * 3 + P, none⟩ = some (.int .i64 X) := by rw [hX, hP]; exact hcr
  rw [← hP] at hpI hp xp
  rw [← hX]
  rw [← hn] at hlen hil hiI x4
  clear hcr hc h hx hn hP hX hi
  go_enter Try.func43, Try.ntmps43
  go_wp2_with fail
  go_quiet (fail)
  go_wp2
  go_ret
  exact ⟨rfl, nq, rfl⟩
end Go.Proofs.Ytfocpjplokabgaa
