/- A dictionary in memory; what is kept of the blocks that it does not own; New, Len, Id, Word of it. -/
import Derived.Test.YtapdjolgdocilaaVIs
import Derived.LaidEqlPtr
import Derived.Carry
import Derived.Maps.OwnSet
namespace Go.Proofs.Ytapdjolgdocilaa
open Go.RowKit

/-- The blocks of S are kept. -/
structure Fr (S : Nat → Prop) (w w' : World) : Prop where
  os : w'.os = w.os
  tape : w'.tape = w.tape
  output : w'.output = w.output
  size : w.heap.size ≤ w'.heap.size
  block : ∀ k, S k → w'.heap[k]? = w.heap[k]?
theorem Fr.refl (S : Nat → Prop) (w : World) : Fr S w w := ⟨rfl, rfl, rfl, Nat.le_refl _, fun _ _ => rfl⟩
theorem Fr.trans {S : Nat → Prop} {a b c : World} (h : Fr S a b) (k : Fr S b c) : Fr S a c :=
  ⟨k.os.trans h.os, k.tape.trans h.tape, k.output.trans h.output, Nat.le_trans h.size k.size, fun i hi => (k.block i hi).trans (h.block i hi)⟩
theorem Fr.sub {S T : Nat → Prop} {w w' : World} (h : Fr S w w') (hs : ∀ k, T k → S k) : Fr T w w' := ⟨h.os, h.tape, h.output, h.size, fun k hk => h.block k (hs k hk)⟩
theorem Fr.below {S : Nat → Prop} {w w' : World} {B : Nat} (h : Fr S w w') (hs : ∀ k, k < B → S k) : Below B w w' := ⟨h.os, h.tape, h.output, h.size, fun k hk => h.block k (hs k hk)⟩
/-- S names blocks of the world alone. -/
def Low (S : Nat → Prop) (w : World) : Prop := ∀ k, S k → k < w.heap.size
theorem Low.fr {S T : Nat → Prop} {w w' : World} (h : Low S w) (hf : Fr T w w') : Low S w' := fun k hk => Nat.lt_of_lt_of_le (h k hk) hf.size
theorem Low.below {S : Nat → Prop} {w w' : World} {B : Nat} (h : Low S w) (hf : Below B w w') : Low S w' := fun k hk => Nat.lt_of_lt_of_le (h k hk) hf.size
theorem Low.size {S : Nat → Prop} {w w' : World} (h : Low S w) (hf : w.heap.size ≤ w'.heap.size) : Low S w' := fun k hk => Nat.lt_of_lt_of_le (h k hk) hf
theorem fr_below {S : Nat → Prop} {w w' : World} (hS : Low S w) (h : Below w.heap.size w w') : Fr S w w' := ⟨h.os, h.tape, h.output, h.size, fun k hk => h.block k (hS k hk)⟩
theorem Fr.next {S : Nat → Prop} {w w1 w2 : World} (h : Fr S w w1) (hS : Low S w) (hb : Below w1.heap.size w1 w2) : Fr S w w2 := h.trans (fr_below (hS.fr h) hb)
theorem Fr.setCell {S : Nat → Prop} {w w' : World} {b i : Nat} (h : Fr S w w') (hb : ¬ S b) (v : Value) : Fr S w (w'.setCell ⟨b, i, none⟩ v) :=
  ⟨h.os, h.tape, h.output, by simpa using h.size, fun k hk => (Below.heap_setCell w' ⟨b, i, none⟩ v k (fun e => hb (by rw [← show k = b from e]; exact hk))).trans (h.block k hk)⟩
theorem Fr.grown {S : Nat → Prop} {w w1 w2 : World} {row : Option Nat} (h : Fr S w w1) (hS : Low S w) (hg : w1.grownBy w2 row) (hr : ∀ g, row = some g → ¬ S g) : Fr S w w2 :=
  ⟨hg.os.trans h.os, hg.tape.trans h.tape, hg.output.trans h.output, Nat.le_trans h.size hg.size, fun k hk => (hg.block k (Nat.lt_of_lt_of_le (hS k hk) h.size) (fun e => hr k e.symm hk)).trans (h.block k hk)⟩

/-- What was made since may be kept too. -/
def Plus (S : Nat → Prop) (lo hi : Nat) : Nat → Prop := fun k => S k ∨ (lo ≤ k ∧ k < hi)
theorem Low.plus {S : Nat → Prop} {w w' : World} (h : Low S w) (hs : w.heap.size ≤ w'.heap.size) : Low (Plus S w.heap.size w'.heap.size) w' := fun k hk => by
  rcases hk with hk | hk
  · have := h k hk; omega
  · exact hk.2
theorem below_grown {w w' : World} (hb : Below w.heap.size w w') : w.grownBy w' none := ⟨hb.os, hb.tape, hb.output, hb.size, fun k hk _ => hb.block k hk⟩
theorem box_at (w : World) (o : Obj) : (w.alloc o).heap[w.heap.size]? = some o := heap_alloc_new w o
theorem own_slice {w : World} {B n : Nat} {e : TypeId} {size : Nat} {v : Value} {xs : List Value} (h : w.ownsRow B e size v n xs) : ∃ ao cap, v = .slice ao n cap := by
  rcases h.2 with ⟨rfl, rfl⟩ | ⟨g, cap, cur, rfl, _⟩
  · exact ⟨none, 0, rfl⟩
  · exact ⟨_, cap, rfl⟩
theorem own_lt {w : World} {B n g : Nat} {e : TypeId} {size : Nat} {v : Value} {xs : List Value} (h : w.ownsRow B e size v n xs) (hg : v.ownBlock = some g) : g < w.heap.size := (h.lt g hg).2
theorem owns_key {w w' : World} {B n : Nat} {e : TypeId} {size : Nat} {v : Value} {xs : List Value} (h : w.ownsRow B e size v n xs) (key : ∀ g o, v.ownBlock = some g → w.heap[g]? = some o → w'.heap[g]? = some o) : w'.ownsRow B e size v n xs := by
  refine ⟨h.1, ?_⟩
  rcases h.2 with h0 | ⟨g, cap, cur, e1, e2, e3, e4⟩
  · exact .inl h0
  · exact .inr ⟨g, cap, cur, e1, e2, key g _ (by rw [e1]; rfl) e3, e4⟩
theorem owns_below {w w' : World} {B n : Nat} {e : TypeId} {size : Nat} {v : Value} {xs : List Value} (h : w.ownsRow B e size v n xs) (hb : Below w.heap.size w w') : w'.ownsRow B e size v n xs :=
  owns_key h (fun g _ _ ho => (hb.block g (lt_of_block ho)).trans ho)
theorem map_key {w w' : World} {k : TypeId} {R : Value → Option (DataW Unit × List MemPlace)} {b n : Nat} {D : DataW Unit} (h : w.ownsMap Try.prog k R b n D) (key : ∀ o, w.heap[b]? = some o → w'.heap[b]? = some o) : w'.ownsMap Try.prog k R b n D := by
  obtain ⟨es, clock, h1, h2⟩ := h
  exact ⟨es, clock, key _ h1, h2⟩

/-- Texts as cells, numbers as cells. -/
def strCs (l : List (List UInt8)) : List Value := l.map fun t => .string ⟨t.toArray⟩
theorem strCs_snoc (l : List (List UInt8)) (t : List UInt8) : strCs (l ++ [t]) = strCs l ++ [.string ⟨t.toArray⟩] := by simp [strCs]
def natCs (l : List Nat) : List Value := l.map fun (i : Nat) => .int .i64 (i : Int)
theorem natCs_len (l : List Nat) : (natCs l).length = l.length := by simp [natCs]

theorem three_cells {w : World} {b : Nat} {c0 c1 c2 : Value} {t : TypeId} (h : w.heap[b]? = some (.cells #[c0, c1, c2] t (0, 0))) :
    (w.cell? ⟨b, 0, none⟩ = some c0 ∧ w.cell? ⟨b, 1, none⟩ = some c1 ∧ w.cell? ⟨b, 2, none⟩ = some c2) ∧
    (w.frozen? ⟨b, 0, none⟩ = false ∧ w.frozen? ⟨b, 1, none⟩ = false ∧ w.frozen? ⟨b, 2, none⟩ = false) := by
  simp [World.cell?, World.frozen?, h]
theorem three_set2 {w : World} {b : Nat} {c0 c1 c2 v : Value} {t : TypeId} (h : w.heap[b]? = some (.cells #[c0, c1, c2] t (0, 0))) : (w.setCell ⟨b, 2, none⟩ v).heap[b]? = some (.cells #[c0, c1, v] t (0, 0)) := by
  simp [World.setCell, Array.getElem?_modify, h]
theorem three_set0 {w : World} {b : Nat} {c0 c1 c2 v : Value} {t : TypeId} (h : w.heap[b]? = some (.cells #[c0, c1, c2] t (0, 0))) : (w.setCell ⟨b, 0, none⟩ v).heap[b]? = some (.cells #[v, c1, c2] t (0, 0)) := by
  simp [World.setCell, Array.getElem?_modify, h]

/-- What the map says: of each word its number. -/
def Tells (D : DataW Unit) (ws : List (List UInt8)) : Prop :=
  (∀ s, Maps.has D (.string s) = decide (s ∈ ws)) ∧ ∀ (i : Nat) s, ws[i]? = some s → D.atKey (.string s) (.lit (.int .i64 0)) = .lit (.int .i64 (i : Int))
theorem tells_nil : Tells (.map []) [] := ⟨fun s => by simp [Maps.has], fun i s h => by simp at h⟩
theorem Tells.put {D : DataW Unit} {ws : List (List UInt8)} {t : List UInt8} (h : Tells D ws) (hm : Maps.IsMap D) (ht : t ∉ ws) : Tells (D.put (.string t) (.lit (.int .i64 (ws.length : Int)))) (ws ++ [t]) := by
  refine ⟨fun s => ?_, fun i s hs => ?_⟩
  · by_cases e : s = t
    · subst e
      rw [Maps.has_put_same hm (show WideAt.IsKeyLit (.string s) from trivial)]; simp
    · rw [Maps.has_put_other (by simpa using e), h.1 s]
      simp [e]
  · rcases snoc_at hs with hs | ⟨hi, e⟩
    · have hne : s ≠ t := fun e => ht (by rw [← e]; exact List.mem_of_getElem? hs)
      rw [Maps.atKey_put_other (by simpa using hne)]
      exact h.2 i s hs
    · subst e
      rw [Maps.atKey_put_same hm (show WideAt.IsKeyLit (.string s) from trivial), hi]

/-- The block b is a dictionary that New gave, with the words ws; it owns no block of S. -/
structure DAt (S : Nat → Prop) (w : World) (b mb : Nat) (vw : Value) (D : DataW Unit) (ws : List (List UInt8)) : Prop where
  blk : w.heap[b]? = some (.cells #[.pointer (some ⟨b, 0, none⟩), .map (some mb), vw] 43 (0, 0))
  out : ¬ S b
  ow : w.ownsRow 0 9 1 vw ws.length (strCs ws)
  outw : ∀ g, vw.ownBlock = some g → ¬ S g
  om : w.ownsMap Try.prog 9 (plainElem Try.prog 3) mb ws.length D
  outm : ¬ S mb
  tells : Tells D ws
  once : Once ws
  all : AllW ws
/-- The dictionary holds the words ws. -/
def V (S : Nat → Prop) (w : World) (b : Nat) (ws : List (List UInt8)) : Prop := ∃ mb vw D, DAt S w b mb vw D ws

theorem DAt.keepOut {S : Nat → Prop} {w w' : World} {b mb : Nat} {vw : Value} {D : DataW Unit} {ws : List (List UInt8)} (h : DAt S w b mb vw D ws) (key : ∀ k (o : Obj), ¬ S k → w.heap[k]? = some o → w'.heap[k]? = some o) : DAt S w' b mb vw D ws :=
  { h with blk := key b _ h.out h.blk, ow := owns_key h.ow (fun g o hg ho => key g o (h.outw g hg) ho), om := map_key h.om (fun o ho => key mb o h.outm ho) }
theorem DAt.below {S : Nat → Prop} {w w' : World} {b mb : Nat} {vw : Value} {D : DataW Unit} {ws : List (List UInt8)} (h : DAt S w b mb vw D ws) (hb : Below w.heap.size w w') : DAt S w' b mb vw D ws :=
  h.keepOut (fun k _ _ ho => (hb.block k (lt_of_block ho)).trans ho)
theorem DAt.more {S T : Nat → Prop} {w : World} {b mb : Nat} {vw : Value} {D : DataW Unit} {ws : List (List UInt8)} (h : DAt S w b mb vw D ws) (hT : ∀ k, T k → S k ∨ w.heap.size ≤ k) : DAt T w b mb vw D ws :=
  { h with
    out := fun hk => (hT b hk).elim h.out (fun h1 => absurd (lt_of_block h.blk) (by omega))
    outw := fun g hg hk => (hT g hk).elim (h.outw g hg) (fun h1 => absurd (own_lt h.ow hg) (by omega))
    outm := fun hk => (hT mb hk).elim h.outm (fun h1 => absurd h.om.lt (by omega)) }
theorem V.keepOut {S : Nat → Prop} {w w' : World} {b : Nat} {ws : List (List UInt8)} (h : V S w b ws) (key : ∀ k (o : Obj), ¬ S k → w.heap[k]? = some o → w'.heap[k]? = some o) : V S w' b ws := by
  obtain ⟨mb, vw, D, h⟩ := h
  exact ⟨mb, vw, D, h.keepOut key⟩
theorem V.below {S : Nat → Prop} {w w' : World} {b : Nat} {ws : List (List UInt8)} (h : V S w b ws) (hb : Below w.heap.size w w') : V S w' b ws := by
  obtain ⟨mb, vw, D, h⟩ := h
  exact ⟨mb, vw, D, h.below hb⟩
theorem V.more {S T : Nat → Prop} {w : World} {b : Nat} {ws : List (List UInt8)} (h : V S w b ws) (hT : ∀ k, T k → S k ∨ w.heap.size ≤ k) : V T w b ws := by
  obtain ⟨mb, vw, D, h⟩ := h
  exact ⟨mb, vw, D, h.more hT⟩
/-- A dictionary takes in what was made beside it. -/
theorem V.plus {S : Nat → Prop} {w w' : World} {b : Nat} {ws : List (List UInt8)} (h : V S w b ws) (hb : Below w.heap.size w w') : V (Plus S w.heap.size w'.heap.size) w' b ws :=
  (h.more (T := Plus S w.heap.size w'.heap.size) (fun k hk => by
    rcases hk with hk | hk
    · exact .inl hk
    · exact .inr hk.1)).below hb
/-- .. or by another that shares no block with it. -/
theorem V.beside {S T : Nat → Prop} {w w' : World} {b : Nat} {ws : List (List UInt8)} (h : V T w b ws) (hf : Fr S w w') (hc : ∀ k, k < w.heap.size → S k ∨ T k) : V (Plus T w.heap.size w'.heap.size) w' b ws :=
  (h.more (T := Plus T w.heap.size w'.heap.size) (fun k hk => by
    rcases hk with hk | hk
    · exact .inl hk
    · exact .inr hk.1)).keepOut (fun k o hk ho => by
      have hs : S k := (hc k (lt_of_block ho)).elim id (fun ht => absurd (.inl ht) hk)
      exact (hf.block k hs).trans ho)
theorem V.once {S : Nat → Prop} {w : World} {b : Nat} {ws : List (List UInt8)} (h : V S w b ws) : Once ws := by
  obtain ⟨mb, vw, D, h⟩ := h
  exact h.once

theorem infoV : (Try.prog.info? 43).map (fun i => i.size) = some 3 := by kernel_rfl
theorem eql_self (a : Addr) (w : World) : (binOp .eql 24 (.pointer (some a)) (.pointer (some a))).run Try.prog w = .ok (.bool true) w := by
  obtain ⟨j, hj, _⟩ := Option.map_eq_some_iff.1 infoV
  exact run_eql_ptr_same w a Try.underlying24 hj
theorem eql_nil_left (a : Addr) (w : World) : (binOp .eql 24 (.pointer none) (.pointer (some a))).run Try.prog w = .ok (.bool false) w := by
  have h : ∀ d : Nat, (Op.equalIn (d + 1) 24 (.pointer none) (.pointer (some a))).run Try.prog w = .ok false w := fun d => by
    simp [Op.equalIn, run_underlying Try.underlying24]
  simp only [binOp]
  simp [Op.equal, Op.maxDepth, h 9999]

set_option maxRecDepth 100000 in
theorem given_any (b : Nat) (w : World) (h : w.cell? ⟨b, 0, none⟩ = some (.pointer (some ⟨b, 0, none⟩))) :
    Calls Try.prog 22 #[.pointer (some ⟨b, 0, none⟩)] w fun e w' => e = .returned (.bool true) ∧ w' = w := by
  have he := eql_self ⟨b, 0, none⟩ w
  go_enter Try.func22, Try.ntmps22
  go_wp2
  go_ret
  exact ⟨rfl, rfl⟩
set_option maxRecDepth 100000 in
theorem given_nil (w : World) :
    Calls Try.prog 22 #[.pointer none] w fun e w' => e = .returned (.bool false) ∧ w' = w := by
  go_enter Try.func22, Try.ntmps22
  go_wp2
  go_ret
  exact ⟨rfl, rfl⟩
set_option maxRecDepth 100000 in
theorem given_not (b : Nat) (w : World) (h : w.cell? ⟨b, 0, none⟩ = some (.pointer none)) :
    Calls Try.prog 22 #[.pointer (some ⟨b, 0, none⟩)] w fun e w' => e = .returned (.bool false) ∧ w' = w := by
  have he := eql_nil_left ⟨b, 0, none⟩ w
  go_enter Try.func22, Try.ntmps22
  go_wp2
  go_ret
  exact ⟨rfl, rfl⟩

theorem lawS : Maps.Keyed Try.prog 9 := Maps.string_keyed Try.underlying9
theorem zeroI (w : World) : (zeroValue 3).run Try.prog w = .ok (.int .i64 0) w := by kernel_rfl
theorem keyS (s : List UInt8) (hs : s.length ≤ maxLen) : keyOf Try.prog 9 (.string ⟨s.toArray⟩) = some (.string s) := by
  have := WideMaps.keyOf_string_mk (P := Try.prog) (k := 9) Try.underlying9 (s := ⟨s.toArray⟩) (by rw [size_list]; exact hs)
  simpa using this

set_option maxRecDepth 100000 in
theorem new_any (S : Nat → Prop) (w : World) (hS : Low S w) :
    Calls Try.prog 11 #[] w fun e w' => e = .returned (.pointer (some ⟨w.heap.size + 1, 0, none⟩)) ∧ V S w' (w.heap.size + 1) [] ∧ Below w.heap.size w w' := by
  have hmm := @run_makeMap Try.prog
  go_enter Try.func11, Try.ntmps11
  go_wp2
  go_ret
  have b1 := ((Below.refl w.heap.size w).alloc (Nat.le_refl _) (.map #[] 0)).alloc (by simp) (.cells #[.pointer (some ⟨w.heap.size + 1, 0, none⟩), .map (some w.heap.size), .slice none 0 0] 43)
  refine ⟨rfl, ⟨w.heap.size, .slice none 0 0, .map [], ?_⟩, b1⟩
  have hsz : (w.alloc (.map #[] 0)).heap.size = w.heap.size + 1 := by simp
  refine { blk := ?_, out := fun hk => absurd (hS _ hk) (by omega), ow := ⟨rfl, .inl ⟨rfl, rfl⟩⟩, outw := by intro g hg; simp [Value.ownBlock] at hg, om := ?_, outm := fun hk => absurd (hS _ hk) (by omega), tells := tells_nil, once := once_nil, all := allW_nil }
  · have := box_at (w.alloc (.map #[] 0)) (.cells #[.pointer (some ⟨w.heap.size + 1, 0, none⟩), .map (some w.heap.size), .slice none 0 0] 43)
    rw [hsz] at this
    exact this
  · exact (World.ownsMap_made w Try.prog 9 (plainElem Try.prog 3)).alloc _

section
variable {S : Nat → Prop} {w : World} {b : Nat} {ws : List (List UInt8)}

set_option maxRecDepth 100000 in
theorem len_any (h : V S w b ws) :
    Calls Try.prog 19 #[.pointer (some ⟨b, 0, none⟩)] w fun e w' => e = .returned (.int .i64 (ws.length : Int)) ∧ w' = w := by
  obtain ⟨mb, vw, D, h⟩ := h
  obtain ⟨ao, cap, rfl⟩ := own_slice h.ow
  obtain ⟨⟨g0, g1, g2⟩, _⟩ := three_cells h.blk
  have C := Hid.mk (given_any b w g0)
  clear h
  go_enter Try.func19, Try.ntmps19
  go_wp2_with fail
  refine C.out.mono ?_
  rintro e w1 ⟨rfl, hw⟩
  subst hw
  go_wp2
  go_ret
  exact ⟨rfl, rfl⟩

set_option maxRecDepth 100000 in
set_option maxHeartbeats 1000000 in
theorem id_any (h : V S w b ws) (s : List UInt8) (hs : s.length ≤ maxLen) :
    Calls Try.prog 12 #[.pointer (some ⟨b, 0, none⟩), .string ⟨s.toArray⟩] w fun e w' => ∃ k er : Nat, e = .returned (.tuple #[.int .i64 (k : Int), .int .i64 (er : Int)]) ∧ IdR ws s k er ∧ w' = w := by
  obtain ⟨mb, vw, D, h⟩ := h
  obtain ⟨⟨g0, g1, g2⟩, _⟩ := three_cells h.blk
  have C := Hid.mk (given_any b w g0)
  have HK := Hid.mk (keyS s hs)
  have HO := Hid.mk h.om
  have HT := Hid.mk h.tells
  have hh := h.tells.1 s
  clear h
  by_cases hm : s ∈ ws
  · have hmt : Maps.has D (.string s) = true := by rw [hh]; exact decide_eq_true hm
    obtain ⟨i, hi⟩ := List.getElem?_of_mem hm
    have HI := Hid.mk hi
    have HM := Hid.mk hmt
    clear hh hm hi hmt
    go_enter Try.func12, Try.ntmps12
    go_wp2_with fail
    refine C.out.mono ?_
    rintro e w1 ⟨rfl, hw⟩
    subst hw
    go_wp2_with (at_lookup; refine wpList_lookup_own_ok_int _ rfl _ _ 41 rfl 9 3 .i64 lawS Try.underlying41 Try.underlying3 (zeroI _) mb _ D rfl HO.out _ _ rfl HK.out ?_; intro c hat hwc; rw [HM.out]; have hc : c = (i : Int) := (by rw [HT.out.2 i s HI.out] at hat; injection hat with hat; injection hat with _ hat; exact hat.symm); clear hat hwc; subst hc)
    go_ret2
    exact ⟨i, 0, rfl, .inr ⟨HI.out, rfl⟩, rfl⟩
  · have hmt : Maps.has D (.string s) = false := by rw [hh]; exact decide_eq_false hm
    have HI := Hid.mk hm
    have HM := Hid.mk hmt
    clear hh hm hmt
    go_enter Try.func12, Try.ntmps12
    go_wp2_with fail
    refine C.out.mono ?_
    rintro e w1 ⟨rfl, hw⟩
    subst hw
    go_wp2_with (at_lookup; refine wpList_lookup_own_ok_int _ rfl _ _ 41 rfl 9 3 .i64 lawS Try.underlying41 Try.underlying3 (zeroI _) mb _ D rfl HO.out _ _ rfl HK.out ?_; intro c hat hwc; rw [HM.out]; clear hat hwc)
    go_ret2
    exact ⟨0, 3, rfl, .inl ⟨HI.out, rfl, rfl⟩, rfl⟩

/-- What Word answers. -/
def WordR (ws : List (List UInt8)) (id : Int) (s : List UInt8) (er : Nat) : Prop := (∃ k : Nat, id = (k : Int) ∧ ws[k]? = some s ∧ er = 0) ∨ ((id < 0 ∨ (ws.length : Int) ≤ id) ∧ s = [] ∧ er = 3)
theorem owns_at {B n : Nat} {v : Value} {l : List (List UInt8)} (h : w.ownsRow B 9 1 v n (strCs l)) {k : Nat} {s : List UInt8} (hk : l[k]? = some s) : ∃ g cap, v = .slice (some ⟨g, 0, none⟩) n cap ∧ w.cell? ⟨g, k, none⟩ = some (.string ⟨s.toArray⟩) := by
  have hl : n = l.length := by have := h.1; simp [strCs] at this; omega
  have hk2 := (List.getElem?_eq_some_iff.1 hk).1
  rcases h.2 with ⟨_, h0⟩ | ⟨g, cap, cur, rfl, _⟩
  · omega
  · have hc := h.cellAt k (by omega)
    exact ⟨g, cap, rfl, by rw [hc, strCs, List.getElem?_map, hk]; rfl⟩

set_option maxRecDepth 100000 in
set_option maxHeartbeats 1000000 in
theorem word_any (h : V S w b ws) (id : Int) :
    Calls Try.prog 16 #[.pointer (some ⟨b, 0, none⟩), .int .i64 id] w fun e w' => ∃ (s : List UInt8) (er : Nat), e = .returned (.tuple #[.string ⟨s.toArray⟩, .int .i64 (er : Int)]) ∧ WordR ws id s er ∧ w' = w := by
  obtain ⟨mb, vw, D, h⟩ := h
  obtain ⟨⟨g0, g1, g2⟩, _⟩ := three_cells h.blk
  have C := Hid.mk (given_any b w g0)
  by_cases h1 : id < 0
  · obtain ⟨ao, cap, rfl⟩ := own_slice h.ow
    clear h
    go_enter Try.func16, Try.ntmps16
    go_wp2_with fail
    refine C.out.mono ?_
    rintro e w1 ⟨rfl, hw⟩
    subst hw
    go_wp2
    go_ret2
    exact ⟨[], 3, rfl, .inr ⟨.inl h1, rfl, rfl⟩, rfl⟩
  · by_cases h2 : (ws.length : Int) ≤ id
    · obtain ⟨ao, cap, rfl⟩ := own_slice h.ow
      clear h
      go_enter Try.func16, Try.ntmps16
      go_wp2_with fail
      refine C.out.mono ?_
      rintro e w1 ⟨rfl, hw⟩
      subst hw
      go_wp2
      go_ret2
      exact ⟨[], 3, rfl, .inr ⟨.inr h2, rfl, rfl⟩, rfl⟩
    · obtain ⟨k, rfl⟩ : ∃ k : Nat, id = (k : Int) := ⟨id.toNat, by omega⟩
      have hk : k < ws.length := by omega
      obtain ⟨s, hs⟩ : ∃ s, ws[k]? = some s := ⟨_, List.getElem?_eq_getElem hk⟩
      obtain ⟨g, cap, rfl, hc⟩ := owns_at h.ow hs
      have HS := Hid.mk hs
      clear h hs
      go_enter Try.func16, Try.ntmps16
      go_wp2_with fail
      refine C.out.mono ?_
      rintro e w1 ⟨rfl, hw⟩
      subst hw
      go_wp2
      go_ret2
      exact ⟨s, 0, rfl, .inl ⟨k, rfl, HS.out, rfl⟩, rfl⟩
end
end Go.Proofs.Ytapdjolgdocilaa
