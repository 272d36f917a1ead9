/- A field in memory; New; whether it is one that New gave. -/
import Derived.Test.YtnkgbinogblemaaDBase
namespace Go.Proofs.Ytnkgbinogblemaa
open Go.RowKit

abbrev csP (p : Pk) : List Value := [.int .i64 (p.id : Int), .int .i64 p.fr, .int .i64 p.to, .string ⟨p.bs.toArray⟩]
abbrev encP (p : Pk) : Value := .agg #[.int .i64 (p.id : Int), .int .i64 p.fr, .int .i64 p.to, .string ⟨p.bs.toArray⟩]
def datP (p : Pk) : DataW Unit := .agg [.lit (.int .i64 (p.id : Int)), .lit (.int .i64 p.fr), .lit (.int .i64 p.to), .lit (.string p.bs)]
/-- How a packet in the map reads. -/
def pkE (v : Value) : Option (DataW Unit × List MemPlace) :=
  match v with
  | .agg cs => match cs.toList with
    | [.int .i64 a, .int .i64 b, .int .i64 c, .string s] => some (.agg [.lit (.int .i64 a), .lit (.int .i64 b), .lit (.int .i64 c), .lit (.string s.data.toList)], [])
    | _ => none
  | _ => none
theorem pkE_mk (p : Pk) : pkE (encP p) = some (datP p, []) := rfl
theorem pkE_inv {v : Value} {p : Pk} {ps : List MemPlace} (h : pkE v = some (datP p, ps)) : v = encP p := by
  unfold pkE at h
  split at h
  · split at h
    · rename_i cs _ a b c s e
      simp only [Option.some.injEq, Prod.mk.injEq, datP, DataW.agg.injEq, List.cons.injEq, DataW.lit.injEq, Lit.int.injEq, Lit.string.injEq, and_true, true_and] at h
      obtain ⟨⟨rfl, rfl, rfl, hs⟩, _⟩ := h
      have : cs = #[Value.int .i64 (p.id : Int), .int .i64 p.fr, .int .i64 p.to, .string s] := Array.ext' e
      have hs2 : s = ⟨p.bs.toArray⟩ := by
        cases s
        rw [← hs]
      rw [this, hs2]
    · cases h
  · cases h
def pk0 : Pk := ⟨0, 0, 0, []⟩
theorem zeroP (w : World) : (zeroValue 40).run Try.prog w = .ok (encP pk0) w := by kernel_rfl
theorem lawI : Maps.Keyed Try.prog 3 := Maps.int_keyed Try.underlying3
theorem keyI {k : Int} (h : (Lit.int .i64 k).wf = true) : keyOf Try.prog 3 (.int .i64 k) = some (.int .i64 k) := Maps.keyOf_int_mk Try.underlying3 h
theorem keyLitI (k : Int) : WideAt.IsKeyLit (.int .i64 k) := trivial
theorem wf_small {k : Nat} (h : k ≤ 1000000000) : (Lit.int .i64 (k : Int)).wf = true := by
  have h1 : IntKind.i64.min = -9223372036854775808 := by decide
  have h2 : IntKind.i64.max = 9223372036854775807 := by decide
  simp [Lit.wf, h1, h2]
  omega

/-- The block b is a map that holds the packets l by their numbers. -/
def MP (w : World) (b : Nat) (l : List Pk) : Prop :=
  ∃ D : DataW Unit, w.ownsMap Try.prog 3 pkE b l.length D ∧ (∀ k : Int, Maps.has D (.int .i64 k) = decide (∃ p ∈ l, (p.id : Int) = k)) ∧ (∀ p ∈ l, D.atKey (.int .i64 (p.id : Int)) (datP pk0) = datP p) ∧ Maps.size D = l.length
theorem MP.lt {w : World} {b : Nat} {l : List Pk} (h : MP w b l) : b < w.heap.size := by obtain ⟨D, h, _⟩ := h; exact h.lt
theorem MP.key {w w' : World} {b : Nat} {l : List Pk} (h : MP w b l) (key : ∀ o, w.heap[b]? = some o → w'.heap[b]? = some o) : MP w' b l := by
  obtain ⟨D, h, r⟩ := h
  exact ⟨D, map_key h key, r⟩
theorem MP.below {w w' : World} {b : Nat} {l : List Pk} (h : MP w b l) (hb : Below w.heap.size w w') : MP w' b l :=
  h.key (fun _ ho => (hb.block b (lt_of_block ho)).trans ho)
theorem own_tight {w : World} {k : TypeId} {R : Value → Option (DataW Unit × List MemPlace)} {b n : Nat} {D : DataW Unit} (h : w.ownsMap Try.prog k R b n D) : w.ownsMap Try.prog k R b (Maps.size D) D := by
  obtain ⟨es, clock, h1, h2, h3, h4⟩ := h
  exact ⟨es, clock, h1, h2, by rw [h4, Maps.size_eq, length_read]; exact Nat.le_refl _, h4⟩
theorem mp_made (w : World) : MP (w.alloc (.map #[] 0)) w.heap.size [] :=
  ⟨.map [], World.ownsMap_made w Try.prog 3 pkE, fun k => by simp [Maps.has], fun p hp => by simp at hp, rfl⟩
section
variable {w : World} {b : Nat} {l : List Pk}
/-- Look-ups. -/
theorem MP.look (h : MP w b l) {p : Pk} (hp : p ∈ l) (hi : p.id ≤ 1000000000) : (Instr.lookup 59 (.map (some b)) (.int .i64 (p.id : Int)) true).run Try.prog w = .ok (.tuple #[encP p, .bool true]) w := by
  obtain ⟨D, h1, h2, h3, _⟩ := h
  obtain ⟨v, ps, hr, hv⟩ := h1.look_ok lawI Try.underlying59 (zeroP w) (pkE_mk pk0) (keyI (wf_small hi))
  rw [h3 p hp] at hv
  rw [hr, h2, decide_eq_true ⟨p, hp, rfl⟩, pkE_inv hv]
theorem MP.look_no (h : MP w b l) {k : Int} (hk : (Lit.int .i64 k).wf = true) (hno : ¬ ∃ p ∈ l, (p.id : Int) = k) : (Instr.lookup 59 (.map (some b)) (.int .i64 k) true).run Try.prog w = .ok (.tuple #[encP pk0, .bool false]) w := by
  obtain ⟨D, h1, h2, h3, _⟩ := h
  obtain ⟨v, ps, hr, hv⟩ := h1.look_ok lawI Try.underlying59 (zeroP w) (pkE_mk pk0) (keyI hk)
  have hh : Maps.has D (.int .i64 k) = false := by rw [h2, decide_eq_false hno]
  rw [Maps.atKey_of_not_has hh] at hv
  rw [hr, hh, pkE_inv hv]
theorem MP.look_at (h : MP w b l) {p : Pk} (hp : p ∈ l) (hi : p.id ≤ 1000000000) : (Instr.lookup 59 (.map (some b)) (.int .i64 (p.id : Int)) false).run Try.prog w = .ok (encP p) w := by
  obtain ⟨D, h1, h2, h3, _⟩ := h
  obtain ⟨v, ps, hr, hv⟩ := h1.lookup lawI Try.underlying59 (zeroP w) (pkE_mk pk0) (keyI (wf_small hi))
  rw [h3 p hp] at hv
  rw [hr, pkE_inv hv]
theorem MP.drew (h : MP w b l) : MP w.drew b l := h.key (fun _ ho => ho)
end
theorem size_list (l : List UInt8) : (ByteArray.mk l.toArray).size = l.length := by simp [ByteArray.size]
/-- A packet is put whose number is not there. -/
theorem mp_put {w' : World} {b n : Nat} {l : List Pk} {D : DataW Unit} {p : Pk} (hm : Maps.Tidy D) (h2 : ∀ k : Int, Maps.has D (.int .i64 k) = decide (∃ p ∈ l, (p.id : Int) = k)) (h3 : ∀ p ∈ l, D.atKey (.int .i64 (p.id : Int)) (datP pk0) = datP p) (h4 : Maps.size D = l.length)
    (hn : ∀ q ∈ l, q.id ≠ p.id) (hown : w'.ownsMap Try.prog 3 pkE b n (D.put (.int .i64 (p.id : Int)) (datP p))) : MP w' b (l ++ [p]) := by
  have hf := h2 (p.id : Int)
  have hno : ¬ ∃ q ∈ l, (q.id : Int) = (p.id : Int) := fun ⟨q, hq, e⟩ => hn q hq (by omega)
  rw [decide_eq_false hno] at hf
  have hs : Maps.size (D.put (.int .i64 (p.id : Int)) (datP p)) = (l ++ [p]).length := by
    rw [Maps.size_put hm, hf, h4]; simp
  refine ⟨_, by rw [← hs]; exact own_tight hown, fun k => ?_, fun q hq => ?_, hs⟩
  · by_cases e : k = (p.id : Int)
    · subst e
      rw [Maps.has_put_same hm.isMap (keyLitI _)]
      exact (decide_eq_true ⟨p, by simp, rfl⟩).symm
    · rw [Maps.has_put_other (fun h => e (by injection h)), h2 k]
      refine decide_eq_decide.2 ⟨fun ⟨q, hq, h⟩ => ⟨q, by simp [hq], h⟩, fun ⟨q, hq, h⟩ => ?_⟩
      rcases List.mem_append.1 hq with hq | hq
      · exact ⟨q, hq, h⟩
      · obtain rfl := List.mem_singleton.1 hq
        exact absurd h.symm e
  · rcases List.mem_append.1 hq with hq | hq
    · have := hn q hq
      rw [Maps.atKey_put_other (fun h => by injection h with _ h; omega)]
      exact h3 q hq
    · obtain rfl := List.mem_singleton.1 hq
      exact Maps.atKey_put_same hm.isMap (keyLitI _) _ _
/-- A packet goes. -/
theorem mp_del {w' : World} {b n : Nat} {a c : List Pk} {D : DataW Unit} {p : Pk} (hm : Maps.Tidy D) (h2 : ∀ k : Int, Maps.has D (.int .i64 k) = decide (∃ q ∈ a ++ p :: c, (q.id : Int) = k)) (h3 : ∀ q ∈ a ++ p :: c, D.atKey (.int .i64 (q.id : Int)) (datP pk0) = datP q) (h4 : Maps.size D = (a ++ p :: c).length)
    (hu : UpP (a ++ p :: c)) (hown : w'.ownsMap Try.prog 3 pkE b n (D.del (.int .i64 (p.id : Int)))) : MP w' b (a ++ c) := by
  obtain ⟨u1, u2⟩ := up_cut hu
  have hne : ∀ q ∈ a ++ c, q.id ≠ p.id := fun q hq => by
    rcases List.mem_append.1 hq with h | h
    · have := u1 q h; omega
    · have := u2 q h; omega
  have hmem : ∀ q ∈ a ++ c, q ∈ a ++ p :: c := fun q hq => by rcases List.mem_append.1 hq with h | h <;> simp [h]
  have hf := h2 (p.id : Int)
  rw [decide_eq_true ⟨p, by simp, rfl⟩] at hf
  have hs : Maps.size (D.del (.int .i64 (p.id : Int))) = (a ++ c).length := by
    have e1 := Maps.size_del (k := .int .i64 (p.id : Int)) hm
    rw [hf, h4] at e1
    simp at e1 ⊢
    omega
  refine ⟨_, by rw [← hs]; exact own_tight hown, fun k => ?_, fun q hq => ?_, hs⟩
  · by_cases e : k = (p.id : Int)
    · subst e
      rw [Maps.has_del_same]
      exact (decide_eq_false (fun ⟨q, hq, e⟩ => hne q hq (by omega))).symm
    · rw [Maps.has_del_other (fun h => e (by injection h)), h2 k]
      refine decide_eq_decide.2 ⟨fun ⟨q, hq, h⟩ => ⟨q, ?_, h⟩, fun ⟨q, hq, h⟩ => ⟨q, hmem q hq, h⟩⟩
      rcases List.mem_append.1 hq with h1 | h1
      · simp [h1]
      · rcases List.mem_cons.1 h1 with rfl | h1
        · exact absurd h.symm e
        · simp [h1]
  · have := hne q hq
    rw [Maps.atKey_del_other (fun h => by injection h with _ h; omega)]
    exact h3 q (hmem q hq)

theorem five_cells {w : World} {b : Nat} {c0 c1 c2 c3 c4 : Value} {t : TypeId} (h : w.heap[b]? = some (.cells #[c0, c1, c2, c3, c4] t (0, 0))) :
    (w.cell? ⟨b, 0, none⟩ = some c0 ∧ w.cell? ⟨b, 1, none⟩ = some c1 ∧ w.cell? ⟨b, 2, none⟩ = some c2 ∧ w.cell? ⟨b, 3, none⟩ = some c3 ∧ w.cell? ⟨b, 4, none⟩ = some c4) ∧
    (w.frozen? ⟨b, 0, none⟩ = false ∧ w.frozen? ⟨b, 2, none⟩ = false ∧ w.frozen? ⟨b, 4, none⟩ = false) := by
  simp [World.cell?, World.frozen?, h]
section
variable {w : World} {b : Nat} {c0 c1 c2 c3 c4 v : Value} {t : TypeId} (h : w.heap[b]? = some (.cells #[c0, c1, c2, c3, c4] t (0, 0)))
include h
theorem five_set0 : (w.setCell ⟨b, 0, none⟩ v).heap[b]? = some (.cells #[v, c1, c2, c3, c4] t (0, 0)) := by simp [World.setCell, Array.getElem?_modify, h]
theorem five_set2 : (w.setCell ⟨b, 2, none⟩ v).heap[b]? = some (.cells #[c0, c1, v, c3, c4] t (0, 0)) := by simp [World.setCell, Array.getElem?_modify, h]
theorem five_set4 : (w.setCell ⟨b, 4, none⟩ v).heap[b]? = some (.cells #[c0, c1, c2, c3, v] t (0, 0)) := by simp [World.setCell, Array.getElem?_modify, h]
end
theorem four_cells {w : World} {b : Nat} {c0 c1 c2 c3 : Value} {t : TypeId} (h : w.heap[b]? = some (.cells #[c0, c1, c2, c3] t (0, 0))) :
    (w.cell? ⟨b, 0, none⟩ = some c0 ∧ w.cell? ⟨b, 1, none⟩ = some c1 ∧ w.cell? ⟨b, 2, none⟩ = some c2 ∧ w.cell? ⟨b, 3, none⟩ = some c3) ∧
    (w.frozen? ⟨b, 0, none⟩ = false ∧ w.frozen? ⟨b, 1, none⟩ = false ∧ w.frozen? ⟨b, 2, none⟩ = false ∧ w.frozen? ⟨b, 3, none⟩ = false) := by
  simp [World.cell?, World.frozen?, h]

abbrev idCs (l : List Pk) : List Value := l.map fun p => .int .i64 (p.id : Int)
abbrev FBlk (w : World) (b mb : Nat) (vi : Value) (f : Fd) : Prop :=
  w.heap[b]? = some (.cells #[.pointer (some ⟨b, 0, none⟩), .int .i64 (f.nodes : Int), .int .i64 (f.last : Int), .map (some mb), vi] 61 (0, 0))
/-- The block b is a field that New gave; it owns no block of S. -/
structure FAt (S : Nat → Prop) (w : World) (b mb : Nat) (vi : Value) (f : Fd) : Prop where
  blk : FBlk w b mb vi f
  out : ¬ S b
  ids : w.ownsRow 0 3 1 vi f.l.length (idCs f.l)
  outi : ∀ g, vi.ownBlock = some g → ¬ S g
  map : MP w mb f.l
  outm : ¬ S mb
  ok : f.ok
def FB (S : Nat → Prop) (w : World) (b : Nat) (f : Fd) : Prop := ∃ mb vi, FAt S w b mb vi f
theorem FAt.keep {S : Nat → Prop} {w w' : World} {b mb : Nat} {vi : Value} {f : Fd} (h : FAt S w b mb vi f) (key : ∀ k (o : Obj), ¬ S k → w.heap[k]? = some o → w'.heap[k]? = some o) : FAt S w' b mb vi f :=
  { h with blk := key b _ h.out h.blk, ids := owns_key h.ids (fun g o hg ho => key g o (h.outi g hg) ho), map := h.map.key (fun o ho => key mb o h.outm ho) }
theorem FAt.below {S : Nat → Prop} {w w' : World} {b mb : Nat} {vi : Value} {f : Fd} (h : FAt S w b mb vi f) (hb : Below w.heap.size w w') : FAt S w' b mb vi f :=
  h.keep (fun k _ _ ho => (hb.block k (lt_of_block ho)).trans ho)
theorem FAt.more {S T : Nat → Prop} {w : World} {b mb : Nat} {vi : Value} {f : Fd} (h : FAt S w b mb vi f) (hT : ∀ k, T k → S k ∨ w.heap.size ≤ k) : FAt T w b mb vi f :=
  { h with
    out := fun hk => (hT b hk).elim h.out (fun h1 => absurd (lt_of_block h.blk) (by omega))
    outi := fun g hg hk => (hT g hk).elim (h.outi g hg) (fun h1 => absurd (own_lt h.ids hg) (by omega))
    outm := fun hk => (hT mb hk).elim h.outm (fun h1 => absurd h.map.lt (by omega)) }
theorem FB.below {S : Nat → Prop} {w w' : World} {b : Nat} {f : Fd} (h : FB S w b f) (hb : Below w.heap.size w w') : FB S w' b f := by
  obtain ⟨mb, vi, h⟩ := h
  exact ⟨mb, vi, h.below hb⟩
theorem FB.more {S T : Nat → Prop} {w : World} {b : Nat} {f : Fd} (h : FB S w b f) (hT : ∀ k, T k → S k ∨ w.heap.size ≤ k) : FB T w b f := by
  obtain ⟨mb, vi, h⟩ := h
  exact ⟨mb, vi, h.more hT⟩
/-- What was made beside a field is none of its own. -/
theorem FB.plus {S : Nat → Prop} {w w' : World} {b : Nat} {f : Fd} (h : FB S w b f) (hb : Below w.heap.size w w') : FB (Plus S w.heap.size w'.heap.size) w' b f :=
  (h.more (T := Plus S w.heap.size w'.heap.size) (fun k hk => by
    rcases hk with hk | hk
    · exact .inl hk
    · exact .inr hk.1)).below hb
/-- Blocks of S that are written leave a field alone. -/
theorem FB.keep {S : Nat → Prop} {w w' : World} {b : Nat} {f : Fd} (h : FB S w b f) (key : ∀ k (o : Obj), ¬ S k → w.heap[k]? = some o → w'.heap[k]? = some o) : FB S w' b f := by
  obtain ⟨mb, vi, h⟩ := h
  exact ⟨mb, vi, h.keep key⟩
theorem FB.ok {S : Nat → Prop} {w : World} {b : Nat} {f : Fd} (h : FB S w b f) : f.ok := by
  obtain ⟨mb, vi, h⟩ := h
  exact h.ok

theorem infoF : (Try.prog.info? 61).map (fun i => i.size) = some 5 := by kernel_rfl
theorem eql_self (a : Addr) (w : World) : (binOp .eql 23 (.pointer (some a)) (.pointer (some a))).run Try.prog w = .ok (.bool true) w := by
  obtain ⟨j, hj, _⟩ := Option.map_eq_some_iff.1 infoF
  exact run_eql_ptr_same w a Try.underlying23 hj
theorem eql_nil_left (a : Addr) (w : World) : (binOp .eql 23 (.pointer none) (.pointer (some a))).run Try.prog w = .ok (.bool false) w := by
  have h : ∀ d : Nat, (Op.equalIn (d + 1) 23 (.pointer none) (.pointer (some a))).run Try.prog w = .ok false w := fun d => by
    simp [Op.equalIn, run_underlying Try.underlying23]
  simp only [binOp]
  simp [Op.equal, Op.maxDepth, h 9999]

set_option maxRecDepth 100000 in
theorem given_any (b : Nat) (w : World) (h : w.cell? ⟨b, 0, none⟩ = some (.pointer (some ⟨b, 0, none⟩))) :
    Calls Try.prog 22 #[.pointer (some ⟨b, 0, none⟩)] w fun e w' => e = .returned (.bool true) ∧ w' = w := by
  have he := eql_self ⟨b, 0, none⟩ w
  go_enter Try.func22, Try.ntmps22
  go_wp2
  go_ret
  exact ⟨rfl, rfl⟩
set_option maxRecDepth 100000 in
theorem given_nil (w : World) :
    Calls Try.prog 22 #[.pointer none] w fun e w' => e = .returned (.bool false) ∧ w' = w := by
  go_enter Try.func22, Try.ntmps22
  go_wp2
  go_ret
  exact ⟨rfl, rfl⟩
set_option maxRecDepth 100000 in
theorem given_not (b : Nat) (w : World) (h : w.cell? ⟨b, 0, none⟩ = some (.pointer none)) :
    Calls Try.prog 22 #[.pointer (some ⟨b, 0, none⟩)] w fun e w' => e = .returned (.bool false) ∧ w' = w := by
  have he := eql_nil_left ⟨b, 0, none⟩ w
  go_enter Try.func22, Try.ntmps22
  go_wp2
  go_ret
  exact ⟨rfl, rfl⟩
/-- Whether it is a node. -/
abbrev isN (k : Int) (nodes : Nat) : Prop := 0 ≤ k ∧ k < (nodes : Int)
set_option maxRecDepth 100000 in
theorem isNode_any (b n : Nat) (k : Int) (w : World) (h : w.cell? ⟨b, 1, none⟩ = some (.int .i64 (n : Int))) :
    Calls Try.prog 23 #[.pointer (some ⟨b, 0, none⟩), .int .i64 k] w fun e w' => e = .returned (.bool (decide (isN k n))) ∧ w' = w := by
  by_cases h1 : (0 : Int) ≤ k
  · by_cases h2 : k < (n : Int)
    · rw [decide_eq_true (show isN k n from ⟨h1, h2⟩)]
      go_enter Try.func23, Try.ntmps23
      go_wp2
      go_ret
      exact ⟨rfl, rfl⟩
    · rw [decide_eq_false (show ¬ isN k n from fun h => h2 h.2)]
      go_enter Try.func23, Try.ntmps23
      go_wp2
      go_ret
      exact ⟨rfl, rfl⟩
  · rw [decide_eq_false (show ¬ isN k n from fun h => h1 h.1)]
    go_enter Try.func23, Try.ntmps23
    go_wp2
    go_ret
    exact ⟨rfl, rfl⟩
/-- What New ends with. -/
def NewE (k : Int) (w : World) (e : Ending) (w' : World) : Prop :=
  Below w.heap.size w w' ∧ ((¬ (1 ≤ k ∧ k ≤ 65) ∧ e = .returned (.tuple #[.pointer none, .int .i64 1])) ∨
    (∃ b, e = .returned (.tuple #[.pointer (some ⟨b, 0, none⟩), .int .i64 0]) ∧ ∃ n : Nat, k = (n : Int) ∧ 1 ≤ n ∧ n ≤ 65 ∧ ∀ S, Low S w → FB S w' b ⟨n, 0, []⟩))
set_option maxRecDepth 100000 in
theorem new_any (k : Int) (w : World) : Calls Try.prog 7 #[.int .i64 k] w (NewE k w) := by
  have hmm := @run_makeMap Try.prog
  by_cases h1 : k < 1
  · have HE : Hid (NewE k w (.returned (.tuple #[.pointer none, .int .i64 1])) w) := Hid.mk ⟨Below.refl _ _, .inl ⟨fun h => by have := h.1; omega, rfl⟩⟩
    go_enter Try.func7, Try.ntmps7
    go_wp2
    go_ret2
    exact HE.out
  · by_cases h2 : 65 < k
    · have HE : Hid (NewE k w (.returned (.tuple #[.pointer none, .int .i64 1])) w) := Hid.mk ⟨Below.refl _ _, .inl ⟨fun h => by have := h.2; omega, rfl⟩⟩
      go_enter Try.func7, Try.ntmps7
      go_wp2
      go_ret2
      exact HE.out
    · obtain ⟨n, rfl⟩ : ∃ n : Nat, k = (n : Int) := ⟨k.toNat, by omega⟩
      have HN : Hid (1 ≤ n ∧ n ≤ 65) := Hid.mk (by omega)
      go_enter Try.func7, Try.ntmps7
      go_wp2
      go_ret2
      have hsz : (w.alloc (.map #[] 0)).heap.size = w.heap.size + 1 := by simp
      have b0 : Below w.heap.size w (w.alloc (.map #[] 0)) := (Below.refl w.heap.size w).alloc (Nat.le_refl _) (.map #[] 0)
      have fin : ∀ w', Below (w.alloc (.map #[] 0)).heap.size (w.alloc (.map #[] 0)) w' → FBlk w' (w.heap.size + 1) w.heap.size (.slice none 0 0) ⟨n, 0, []⟩ →
          NewE (n : Int) w (.returned (.tuple #[.pointer (some ⟨w.heap.size + 1, 0, none⟩), .int .i64 0])) w' := fun w' hb hk => by
        have hbw : Below w.heap.size w w' := b0.trans (hb.mono b0.size)
        refine ⟨hbw, .inr ⟨_, rfl, n, rfl, HN.out.1, HN.out.2, fun S hS => ⟨w.heap.size, .slice none 0 0, ?_⟩⟩⟩
        exact { blk := hk, out := fun hk => absurd (hS _ hk) (by omega), ids := ⟨rfl, .inl ⟨rfl, rfl⟩⟩, outi := by intro g hg; simp [Value.ownBlock] at hg, map := (mp_made w).below hb, outm := fun hk => absurd (hS _ hk) (by omega), ok := ⟨HN.out.1, HN.out.2, List.Pairwise.nil, by simp, by simp, by simp, by simp⟩ }
      first
        | (refine fin _ ((Below.refl _ _).alloc (Nat.le_refl _) _) ?_
           have := box_at (w.alloc (.map #[] 0)) (.cells #[.pointer (some ⟨w.heap.size + 1, 0, none⟩), .int .i64 (n : Int), .int .i64 0, .map (some w.heap.size), .slice none 0 0] 61)
           rw [hsz] at this
           exact this)
        | (refine fin _ (((Below.refl _ _).alloc (Nat.le_refl _) _).setCell (by simp) _) ?_
           have := box_at (w.alloc (.map #[] 0)) (.cells #[.pointer none, .int .i64 (n : Int), .int .i64 0, .map (some w.heap.size), .slice none 0 0] 61)
           rw [hsz] at this
           exact five_set0 this)
end Go.Proofs.Ytnkgbinogblemaa
