/- A journal in memory; what is kept of the blocks that it does not own. -/
import Derived.Test.YtnepednomejniaaWCuts
import Derived.Lib.AppendStr
import Derived.LaidEqlPtr
namespace Go.Proofs.Ytnepednomejniaa
open Go.RowKit

/-- The blocks of S are kept. -/
structure Fr (S : Nat → Prop) (w w' : World) : Prop where
  os : w'.os = w.os
  tape : w'.tape = w.tape
  output : w'.output = w.output
  size : w.heap.size ≤ w'.heap.size
  block : ∀ k, S k → w'.heap[k]? = w.heap[k]?
theorem Fr.refl (S : Nat → Prop) (w : World) : Fr S w w := ⟨rfl, rfl, rfl, Nat.le_refl _, fun _ _ => rfl⟩
theorem Fr.trans {S : Nat → Prop} {a b c : World} (h : Fr S a b) (k : Fr S b c) : Fr S a c :=
  ⟨k.os.trans h.os, k.tape.trans h.tape, k.output.trans h.output, Nat.le_trans h.size k.size, fun i hi => (k.block i hi).trans (h.block i hi)⟩
theorem Fr.sub {S T : Nat → Prop} {w w' : World} (h : Fr S w w') (hs : ∀ k, T k → S k) : Fr T w w' := ⟨h.os, h.tape, h.output, h.size, fun k hk => h.block k (hs k hk)⟩
theorem Fr.below {S : Nat → Prop} {w w' : World} {B : Nat} (h : Fr S w w') (hs : ∀ k, k < B → S k) : Below B w w' := ⟨h.os, h.tape, h.output, h.size, fun k hk => h.block k (hs k hk)⟩
/-- S names blocks of the world alone. -/
def Low (S : Nat → Prop) (w : World) : Prop := ∀ k, S k → k < w.heap.size
theorem Low.fr {S T : Nat → Prop} {w w' : World} (h : Low S w) (hf : Fr T w w') : Low S w' := fun k hk => Nat.lt_of_lt_of_le (h k hk) hf.size
theorem Low.below {S : Nat → Prop} {w w' : World} {B : Nat} (h : Low S w) (hf : Below B w w') : Low S w' := fun k hk => Nat.lt_of_lt_of_le (h k hk) hf.size
theorem Low.size {S : Nat → Prop} {w w' : World} (h : Low S w) (hf : w.heap.size ≤ w'.heap.size) : Low S w' := fun k hk => Nat.lt_of_lt_of_le (h k hk) hf
theorem fr_below {S : Nat → Prop} {w w' : World} (hS : Low S w) (h : Below w.heap.size w w') : Fr S w w' := ⟨h.os, h.tape, h.output, h.size, fun k hk => h.block k (hS k hk)⟩
theorem Fr.next {S : Nat → Prop} {w w1 w2 : World} (h : Fr S w w1) (hS : Low S w) (hb : Below w1.heap.size w1 w2) : Fr S w w2 := h.trans (fr_below (hS.fr h) hb)
theorem Fr.setCell {S : Nat → Prop} {w w' : World} {b i : Nat} (h : Fr S w w') (hb : ¬ S b) (v : Value) : Fr S w (w'.setCell ⟨b, i, none⟩ v) :=
  ⟨h.os, h.tape, h.output, by simpa using h.size, fun k hk => (Below.heap_setCell w' ⟨b, i, none⟩ v k (fun e => hb (by rw [← show k = b from e]; exact hk))).trans (h.block k hk)⟩
theorem Fr.grown {S : Nat → Prop} {w w1 w2 : World} {row : Option Nat} (h : Fr S w w1) (hS : Low S w) (hg : w1.grownBy w2 row) (hr : ∀ g, row = some g → ¬ S g) : Fr S w w2 :=
  ⟨hg.os.trans h.os, hg.tape.trans h.tape, hg.output.trans h.output, Nat.le_trans h.size hg.size, fun k hk => (hg.block k (Nat.lt_of_lt_of_le (hS k hk) h.size) (fun e => hr k e.symm hk)).trans (h.block k hk)⟩

theorem five_cells {w : World} {b : Nat} {c0 c1 c2 c3 c4 : Value} {t : TypeId} (h : w.heap[b]? = some (.cells #[c0, c1, c2, c3, c4] t (0, 0))) :
    (w.cell? ⟨b, 0, none⟩ = some c0 ∧ w.cell? ⟨b, 1, none⟩ = some c1 ∧ w.cell? ⟨b, 2, none⟩ = some c2 ∧ w.cell? ⟨b, 3, none⟩ = some c3 ∧ w.cell? ⟨b, 4, none⟩ = some c4) ∧
    (w.frozen? ⟨b, 0, none⟩ = false ∧ w.frozen? ⟨b, 1, none⟩ = false ∧ w.frozen? ⟨b, 2, none⟩ = false ∧ w.frozen? ⟨b, 3, none⟩ = false ∧ w.frozen? ⟨b, 4, none⟩ = false) := by
  simp [World.cell?, World.frozen?, h]
theorem five_set0 {w : World} {b : Nat} {c0 c1 c2 c3 c4 v : Value} {t : TypeId} (h : w.heap[b]? = some (.cells #[c0, c1, c2, c3, c4] t (0, 0))) : (w.setCell ⟨b, 0, none⟩ v).heap[b]? = some (.cells #[v, c1, c2, c3, c4] t (0, 0)) := by
  simp [World.setCell, Array.getElem?_modify, h]
theorem five_set2 {w : World} {b : Nat} {c0 c1 c2 c3 c4 v : Value} {t : TypeId} (h : w.heap[b]? = some (.cells #[c0, c1, c2, c3, c4] t (0, 0))) : (w.setCell ⟨b, 2, none⟩ v).heap[b]? = some (.cells #[c0, c1, v, c3, c4] t (0, 0)) := by
  simp [World.setCell, Array.getElem?_modify, h]
theorem five_set3 {w : World} {b : Nat} {c0 c1 c2 c3 c4 v : Value} {t : TypeId} (h : w.heap[b]? = some (.cells #[c0, c1, c2, c3, c4] t (0, 0))) : (w.setCell ⟨b, 3, none⟩ v).heap[b]? = some (.cells #[c0, c1, c2, v, c4] t (0, 0)) := by
  simp [World.setCell, Array.getElem?_modify, h]
theorem five_set4 {w : World} {b : Nat} {c0 c1 c2 c3 c4 v : Value} {t : TypeId} (h : w.heap[b]? = some (.cells #[c0, c1, c2, c3, c4] t (0, 0))) : (w.setCell ⟨b, 4, none⟩ v).heap[b]? = some (.cells #[c0, c1, c2, c3, v] t (0, 0)) := by
  simp [World.setCell, Array.getElem?_modify, h]

/-- The block b is a journal's, of the room, with the slices of its bytes and ends, and how many bytes are sure. -/
abbrev JBlk (w : World) (b room : Nat) (vb ve : Value) (sure : Nat) : Prop :=
  w.heap[b]? = some (.cells #[.pointer (some ⟨b, 0, none⟩), .int .i64 room, vb, ve, .int .i64 sure] 58 (0, 0))

/-- The block b is a journal that New gave, with the notes ns; it owns no block of S. -/
structure JAt (S : Nat → Prop) (w : World) (b room : Nat) (vb ve : Value) (ns : List NoteD) (sure : Nat) : Prop where
  blk : JBlk w b room vb ve sure
  out : ¬ S b
  ob : w.ownsRow 0 5 1 vb (seals ns).length (u8s (seals ns))
  outb : ∀ g, vb.ownBlock = some g → ¬ S g
  oe : w.ownsRow 0 3 1 ve ns.length (intCs (endsOf ns))
  oute : ∀ g, ve.ownBlock = some g → ¬ S g
  may : ∀ n ∈ ns, n.may
  fits : (seals ns).length ≤ room
  room_le : room ≤ 67108864
  sure_le : sure ≤ (seals ns).length

theorem JAt.below {S : Nat → Prop} {w w' : World} {b room : Nat} {vb ve : Value} {ns : List NoteD} {sure : Nat} (h : JAt S w b room vb ve ns sure) (hb : Below w.heap.size w w') : JAt S w' b room vb ve ns sure :=
  { h with blk := (hb.block b (lt_of_block h.blk)).trans h.blk, ob := owns_below h.ob hb, oe := owns_below h.oe hb }
theorem own_lt {w : World} {B n g : Nat} {e : TypeId} {size : Nat} {v : Value} {xs : List Value} (h : w.ownsRow B e size v n xs) (hg : v.ownBlock = some g) : g < w.heap.size := (h.lt g hg).2
/-- More blocks may be kept: those that are not the journal's own. -/
theorem JAt.more {S T : Nat → Prop} {w : World} {b room : Nat} {vb ve : Value} {ns : List NoteD} {sure : Nat} (h : JAt S w b room vb ve ns sure) (hT : ∀ k, T k → S k ∨ w.heap.size ≤ k) : JAt T w b room vb ve ns sure :=
  { h with
    out := fun hk => (hT b hk).elim h.out (fun h1 => absurd (lt_of_block h.blk) (by omega))
    outb := fun g hg hk => (hT g hk).elim (h.outb g hg) (fun h1 => absurd (own_lt h.ob hg) (by omega))
    oute := fun g hg hk => (hT g hk).elim (h.oute g hg) (fun h1 => absurd (own_lt h.oe hg) (by omega)) }
theorem JAt.other {S T : Nat → Prop} {w w' : World} {b room : Nat} {vb ve : Value} {ns : List NoteD} {sure : Nat} (h : JAt S w b room vb ve ns sure) (hf : Fr T w w') (hb : T b) (h1 : ∀ g, vb.ownBlock = some g → T g) (h2 : ∀ g, ve.ownBlock = some g → T g) : JAt S w' b room vb ve ns sure := by
  refine { h with blk := (hf.block b hb).trans h.blk, ob := ?_, oe := ?_ }
  · refine ⟨h.ob.1, ?_⟩
    rcases h.ob.2 with h0 | ⟨g, cap, cur, e1, e2, e3, e4⟩
    · exact .inl h0
    · exact .inr ⟨g, cap, cur, e1, e2, (hf.block g (h1 g (by rw [e1]; rfl))).trans e3, e4⟩
  · refine ⟨h.oe.1, ?_⟩
    rcases h.oe.2 with h0 | ⟨g, cap, cur, e1, e2, e3, e4⟩
    · exact .inl h0
    · exact .inr ⟨g, cap, cur, e1, e2, (hf.block g (h2 g (by rw [e1]; rfl))).trans e3, e4⟩
theorem JAt.slices {S : Nat → Prop} {w : World} {b room : Nat} {vb ve : Value} {ns : List NoteD} {sure : Nat} (h : JAt S w b room vb ve ns sure) : ∃ a1 c1 a2 c2, vb = .slice a1 (seals ns).length c1 ∧ ve = .slice a2 ns.length c2 := by
  obtain ⟨a1, c1, e1⟩ := own_slice h.ob
  obtain ⟨a2, c2, e2⟩ := own_slice h.oe
  exact ⟨a1, c1, a2, c2, e1, e2⟩

theorem infoJ : (Try.prog.info? 58).map (fun i => i.size) = some 5 := by kernel_rfl
theorem eql_self (a : Addr) (w : World) : (binOp .eql 23 (.pointer (some a)) (.pointer (some a))).run Try.prog w = .ok (.bool true) w := by
  obtain ⟨j, hj, _⟩ := Option.map_eq_some_iff.1 infoJ
  exact run_eql_ptr_same w a Try.underlying23 hj
theorem eql_nil_left (a : Addr) (w : World) : (binOp .eql 23 (.pointer none) (.pointer (some a))).run Try.prog w = .ok (.bool false) w := by
  have h : ∀ d : Nat, (Op.equalIn (d + 1) 23 (.pointer none) (.pointer (some a))).run Try.prog w = .ok false w := fun d => by
    simp [Op.equalIn, run_underlying Try.underlying23]
  simp only [binOp]
  simp [Op.equal, Op.maxDepth, h 9999]

set_option maxRecDepth 100000 in
theorem given_any (b : Nat) (w : World) (h : w.cell? ⟨b, 0, none⟩ = some (.pointer (some ⟨b, 0, none⟩))) :
    Calls Try.prog 27 #[.pointer (some ⟨b, 0, none⟩)] w fun e w' => e = .returned (.bool true) ∧ w' = w := by
  have he := eql_self ⟨b, 0, none⟩ w
  go_enter Try.func27, Try.ntmps27
  go_wp2
  go_ret
  exact ⟨rfl, rfl⟩
set_option maxRecDepth 100000 in
theorem given_nil (w : World) :
    Calls Try.prog 27 #[.pointer none] w fun e w' => e = .returned (.bool false) ∧ w' = w := by
  go_enter Try.func27, Try.ntmps27
  go_wp2
  go_ret
  exact ⟨rfl, rfl⟩
set_option maxRecDepth 100000 in
theorem given_not (b : Nat) (w : World) (h : w.cell? ⟨b, 0, none⟩ = some (.pointer none)) :
    Calls Try.prog 27 #[.pointer (some ⟨b, 0, none⟩)] w fun e w' => e = .returned (.bool false) ∧ w' = w := by
  have he := eql_nil_left ⟨b, 0, none⟩ w
  go_enter Try.func27, Try.ntmps27
  go_wp2
  go_ret
  exact ⟨rfl, rfl⟩

/-- A journal as empty makes it. -/
abbrev jZero (w : World) (room : Nat) : Obj := .cells #[.pointer (some ⟨w.heap.size, 0, none⟩), .int .i64 room, .slice none 0 0, .slice none 0 0, .int .i64 0] 58
theorem jZero_at {S : Nat → Prop} {w w' : World} {room : Nat} (hS : Low S w) (h : w'.heap[w.heap.size]? = some (jZero w room)) (hr : room ≤ 67108864) : JAt S w' w.heap.size room (.slice none 0 0) (.slice none 0 0) [] 0 :=
  { blk := h, out := fun hk => absurd (hS _ hk) (by omega), ob := ⟨rfl, .inl ⟨rfl, rfl⟩⟩, outb := by intro g hg; simp [Value.ownBlock] at hg, oe := ⟨rfl, .inl ⟨rfl, rfl⟩⟩, oute := by intro g hg; simp [Value.ownBlock] at hg, may := by simp, fits := by simp [seals], room_le := hr, sure_le := Nat.zero_le _ }

set_option maxRecDepth 100000 in
theorem empty_any (room : Nat) (w : World) :
    Calls Try.prog 22 #[.int .i64 room] w fun e w' => e = .returned (.pointer (some ⟨w.heap.size, 0, none⟩)) ∧ w'.heap[w.heap.size]? = some (jZero w room) ∧ Below w.heap.size w w' := by
  go_enter Try.func22, Try.ntmps22
  go_wp2
  go_ret
  exact ⟨rfl, box_at w _, (Below.refl _ _).alloc (Nat.le_refl _) _⟩

/-- There may be a journal of such a room. -/
def RoomOk (room : Int) : Prop := 1 ≤ room ∧ room ≤ 67108864

set_option maxRecDepth 100000 in
theorem new_any (room : Int) (w : World) :
    Calls Try.prog 9 #[.int .i64 room] w fun e w' => Below w.heap.size w w' ∧
      ((¬ RoomOk room ∧ e = .returned (.tuple #[.pointer none, .int .i64 1])) ∨
       (RoomOk room ∧ e = .returned (.tuple #[.pointer (some ⟨w.heap.size, 0, none⟩), .int .i64 0]) ∧ w'.heap[w.heap.size]? = some (jZero w room.toNat))) := by
  by_cases h1 : room < 1
  · go_enter Try.func9, Try.ntmps9
    go_wp2
    go_ret2
    exact ⟨Below.refl _ _, .inl ⟨fun h => by have := h.1; have := h.2; omega, rfl⟩⟩
  · by_cases h2 : 67108864 < room
    · go_enter Try.func9, Try.ntmps9
      go_wp2
      go_ret2
      exact ⟨Below.refl _ _, .inl ⟨fun h => by have := h.1; have := h.2; omega, rfl⟩⟩
    · obtain ⟨r, rfl⟩ : ∃ r : Nat, room = (r : Int) := ⟨room.toNat, by omega⟩
      have C := Hid.mk (empty_any r w)
      go_enter Try.func9, Try.ntmps9
      go_wp2_with fail
      refine C.out.mono ?_
      rintro e w1 ⟨rfl, hz, hb⟩
      go_wp2
      go_ret2
      exact ⟨hb, .inr ⟨⟨by omega, by omega⟩, rfl, hz⟩⟩

section
variable {S : Nat → Prop} {w : World} {b room : Nat} {vb ve : Value} {ns : List NoteD} {sure : Nat}

set_option maxRecDepth 100000 in
theorem size_any (h : JAt S w b room vb ve ns sure) :
    Calls Try.prog 14 #[.pointer (some ⟨b, 0, none⟩)] w fun e w' => e = .returned (.tuple #[.int .i64 ((seals ns).length : Int), .int .i64 sure]) ∧ Below w.heap.size w w' := by
  obtain ⟨a1, c1, a2, c2, rfl, rfl⟩ := h.slices
  obtain ⟨⟨g0, g1, g2, g3, g4⟩, _⟩ := five_cells h.blk
  have C := Hid.mk (given_any b w g0)
  clear h
  go_enter Try.func14, Try.ntmps14
  go_wp2_with fail
  refine C.out.mono ?_
  rintro e w1 ⟨rfl, hw⟩
  subst hw
  go_wp2_with fail
  go_quiet (fail)
  have hbq : Below w1.heap.size w1 (w1.drewN nq) := below_drewN (Below.refl _ _) nq
  go_wp2
  go_ret2
  exact ⟨rfl, hbq⟩

theorem u8_conv {l : List UInt8} (h : w.ownsRow 0 5 1 vb l.length (u8s l)) : (convert 53 9 vb).run Try.prog w = .ok (.string ⟨l.toArray⟩) w := by
  rcases h.2 with ⟨rfl, h0⟩ | ⟨g, cap, cur, rfl, e2, e3, e4⟩
  · have : l = [] := List.length_eq_zero_iff.1 h0
    subst this
    exact run_convert_bytes_nil w 53 5 Try.underlying53 Try.underlying5 0 0 9 Try.underlying9
  · exact run_convert_bytes_back (P := Try.prog) w 53 9 5 ⟨g, 0, none⟩ cap l Try.underlying53 Try.underlying5 Try.underlying9 (fun j hj => by
      rw [show (⟨g, 0, none⟩ : Addr).add j = ⟨g, j, none⟩ from by cases j <;> simp [Addr.add]]
      rw [h.cellAt j (by omega), u8s, List.getElem?_map, List.getElem?_eq_getElem hj]; rfl)

set_option maxRecDepth 100000 in
theorem notes_any (h : JAt S w b room vb ve ns sure) :
    Calls Try.prog 16 #[.pointer (some ⟨b, 0, none⟩)] w fun e w' => ∃ v, e = .returned v ∧ NotesOwn w' w.heap.size v ns ∧ Below w.heap.size w w' := by
  have hcv := u8_conv h.ob
  have hal : allP (seals ns) = (ns, (seals ns).length) := by
    have := allP_seals ns [] h.may
    rw [allP_nil] at this
    simpa using this
  have hl : (seals ns).length ≤ 1073741824 := by have := h.fits; have := h.room_le; omega
  have CA : Hid (∀ w, Calls Try.prog 29 #[.string ⟨(seals ns).toArray⟩] w (AEnd (seals ns) w)) := Hid.mk (fun w => all_any (seals ns) w hl)
  unfold AEnd at CA
  rw [hal] at CA
  simp only at CA
  obtain ⟨a1, c1, a2, c2, rfl, rfl⟩ := h.slices
  obtain ⟨⟨g0, g1, g2, g3, g4⟩, _⟩ := five_cells h.blk
  have C := Hid.mk (given_any b w g0)
  clear h hal
  obtain ⟨l, hl2⟩ : ∃ l, l = seals ns := ⟨_, rfl⟩
  rw [← hl2] at *
  clear hl2
  go_enter Try.func16, Try.ntmps16
  go_wp2_with fail
  refine C.out.mono ?_
  rintro e w1 ⟨rfl, hw⟩
  subst hw
  go_wp2_with fail
  refine (CA.out _).mono ?_
  rintro e w2 ⟨v, rfl, hown, hb⟩
  go_wp2
  go_ret
  exact ⟨_, rfl, hown, hb⟩

set_option maxRecDepth 100000 in
theorem sure_any (h : JAt S w b room vb ve ns sure) :
    Calls Try.prog 19 #[.pointer (some ⟨b, 0, none⟩)] w fun e w' => e = .returned (.int .i64 0) ∧ JAt S w' b room vb ve ns (seals ns).length ∧ Fr S w w' := by
  have H := Hid.mk h
  obtain ⟨a1, c1, a2, c2, rfl, rfl⟩ := h.slices
  obtain ⟨⟨g0, g1, g2, g3, g4⟩, ⟨f0, f1, f2, f3, f4⟩⟩ := five_cells h.blk
  have C := Hid.mk (given_any b w g0)
  clear h
  go_enter Try.func19, Try.ntmps19
  go_wp2_with fail
  refine C.out.mono ?_
  rintro e w1 ⟨rfl, hw⟩
  subst hw
  go_wp2
  go_ret
  refine ⟨rfl, ?_, (Fr.refl S w1).setCell H.out.out _⟩
  have hne : ∀ (g : Nat) (cur : Array Value) (e : TypeId), w1.heap[g]? = some (Obj.cells cur e (0, 0)) → e ≠ 58 → (w1.setCell ⟨b, 4, none⟩ (.int .i64 ((seals ns).length : Int))).heap[g]? = some (Obj.cells cur e (0, 0)) := fun g cur e hg he => by
    refine (Below.heap_setCell w1 ⟨b, 4, none⟩ _ g ?_).trans hg
    intro hgb
    have hgb2 : g = b := hgb
    subst hgb2
    rw [H.out.blk] at hg
    simp only [Option.some.injEq, Obj.cells.injEq] at hg
    exact he hg.2.1.symm
  refine { H.out with blk := five_set4 H.out.blk, ob := ?_, oe := ?_, sure_le := Nat.le_refl _ }
  · refine ⟨H.out.ob.1, ?_⟩
    rcases H.out.ob.2 with h0 | ⟨g, cap, cur, e1, e2, e3, e4⟩
    · exact .inl h0
    · exact .inr ⟨g, cap, cur, e1, e2, hne g cur _ e3 (by decide), e4⟩
  · refine ⟨H.out.oe.1, ?_⟩
    rcases H.out.oe.2 with h0 | ⟨g, cap, cur, e1, e2, e3, e4⟩
    · exact .inl h0
    · exact .inr ⟨g, cap, cur, e1, e2, hne g cur _ e3 (by decide), e4⟩
end
end Go.Proofs.Ytnepednomejniaa
