/- What must come, whatever the arguments are. -/
import Derived.Test.YtfocpjplokabgaaPNew
namespace Go.Proofs.Ytfocpjplokabgaa
open Go.RowKit Go.Sort Go.Lib Go.Shelf

/-- An index that a statement has made goes on. -/
theorem XAt.own {w w' : World} {xb : Nat} {v : Value} {o : Od} {L : List R3} {S : Nat → Prop} (h : XAt (fun k => w.heap.size ≤ k ∧ k < w'.heap.size) w' xb v o L) (hS : ∀ k, w.heap.size ≤ k → k < w'.heap.size → S k) : XAt S w' xb v o L := h.sub (fun k hk _ => hS k hk.1 hk.2)
theorem low_all (w : World) : Low (fun k => k < w.heap.size) w := fun _ h => h

/-- A walk that a statement has made goes on. -/
def Trod (w wr : World) (b xb : Nat) (v : Value) (o : Od) (L : List R3) (s : Wk) : Prop := ∃ S, Low S wr ∧ (∀ k, k < w.heap.size → S k) ∧ WAt S wr b xb v o L s ∧ Below w.heap.size w wr
section
variable {w wr : World} {b xb : Nat} {v : Value} {o : Od} {L : List R3} {s : Wk}
theorem Trod.bel (h : Trod w wr b xb v o L s) : Below w.heap.size w wr := by
  obtain ⟨_, _, _, _, h⟩ := h
  exact h
theorem Trod.ok (h : Trod w wr b xb v o L s) : WkOk o L s := by
  obtain ⟨_, _, _, h, _⟩ := h
  exact h.ok
theorem Trod.below {w' : World} (h : Trod w wr b xb v o L s) (hb : Below wr.heap.size wr w') : Trod w w' b xb v o L s := by
  obtain ⟨S, h1, h2, h3, h4⟩ := h
  exact ⟨S, h1.size hb.size, h2, h3.below hb, h4.trans (hb.mono h4.size)⟩
theorem Trod.end_ {r : Wk × Nat} {f : Nat} {args : Array Value} (h : Trod w wr b xb v o L s) (hc : ∀ S, WAt S wr b xb v o L s → Low S wr → Calls Try.prog f args wr (WEnd S wr b xb v o L r)) : Calls Try.prog f args wr fun e w' => e = .returned (.int .i64 (r.2 : Int)) ∧ Trod w w' b xb v o L r.1 := by
  obtain ⟨S, h1, h2, h3, h4⟩ := h
  refine (hc S h3 h1).mono ?_
  rintro e w' ⟨he, hw, hf⟩
  exact ⟨he, S, h1.fr hf, h2, hw, h4.trans (hf.below h2)⟩
theorem Trod.open (h : Trod w wr b xb v o L s) : Calls Try.prog 17 #[.pointer (some ⟨b, 0, none⟩)] wr fun e w' => e = .returned (.int .i64 ((wOpen o L s).2 : Int)) ∧ Trod w w' b xb v o L (wOpen o L s).1 := h.end_ (fun _ h1 h2 => open_any h1 h2)
theorem Trod.up (h : Trod w wr b xb v o L s) : Calls Try.prog 19 #[.pointer (some ⟨b, 0, none⟩)] wr fun e w' => e = .returned (.int .i64 ((wUp s).2 : Int)) ∧ Trod w w' b xb v o L (wUp s).1 := h.end_ (fun _ h1 h2 => up_any h1 h2)
theorem Trod.next (h : Trod w wr b xb v o L s) : Calls Try.prog 21 #[.pointer (some ⟨b, 0, none⟩)] wr fun e w' => e = .returned (.int .i64 ((wNext o L s).2 : Int)) ∧ Trod w w' b xb v o L (wNext o L s).1 := h.end_ (fun _ h1 h2 => next_any h1 h2)
theorem Trod.seek (h : Trod w wr b xb v o L s) (n : Int) : Calls Try.prog 23 #[.pointer (some ⟨b, 0, none⟩), .int .i64 n] wr fun e w' => e = .returned (.int .i64 ((wSeek o L s n).2 : Int)) ∧ Trod w w' b xb v o L (wSeek o L s n).1 := h.end_ (fun _ h1 h2 => seek_any h1 h2 n)
theorem Trod.key (h : Trod w wr b xb v o L s) : Calls Try.prog 25 #[.pointer (some ⟨b, 0, none⟩)] wr fun e w' => e = .returned (.tuple #[.int .i64 (wKey s).1, .bool (wKey s).2]) ∧ Trod w w' b xb v o L s := by
  have hh := h
  obtain ⟨S, h1, h2, h3, h4⟩ := h
  refine (key_any h3).mono ?_
  rintro e w' ⟨he, hb⟩
  exact ⟨he, hh.below hb⟩
theorem Trod.depth (h : Trod w wr b xb v o L s) : Calls Try.prog 27 #[.pointer (some ⟨b, 0, none⟩)] wr fun e w' => e = .returned (.int .i64 (s.p.length : Int)) ∧ w' = wr := by
  obtain ⟨S, h1, h2, h3, h4⟩ := h
  exact depthS_any h3
/-- An index that a statement has made goes on. -/
def Indx (w wr : World) (xb : Nat) (v : Value) (o : Od) (L : List R3) : Prop := XAt (fun k => k < wr.heap.size) wr xb v o L ∧ Below w.heap.size w wr
theorem Indx.below {w' : World} (h : Indx w wr xb v o L) (hb : Below wr.heap.size wr w') : Indx w w' xb v o L :=
  ⟨(h.1.below hb).sub (fun _ _ hl => hl), h.2.trans (hb.mono h.2.size)⟩
theorem Trod.indx (h : Trod w wr b xb v o L s) : Indx w wr xb v o L := by
  obtain ⟨S, h1, h2, h3, h4⟩ := h
  exact ⟨h3.x.sub (fun _ _ hl => hl), h4⟩
theorem Indx.walk (h : Indx w wr xb v o L) : Calls Try.prog 16 #[.pointer (some ⟨xb, 0, none⟩)] wr fun e w' => e = .returned (.pointer (some ⟨wr.heap.size, 0, none⟩)) ∧ Trod w w' wr.heap.size xb v o L ⟨[], false⟩ := by
  refine (walk_any h.1 (low_all wr)).mono ?_
  rintro e w' ⟨he, hw, hb, _⟩
  exact ⟨he, _, (low_all wr).size hb.size, fun k hk => Nat.lt_of_lt_of_le hk h.2.size, hw, h.2.trans (hb.mono h.2.size)⟩
theorem Indx.len (h : Indx w wr xb v o L) : Calls Try.prog 12 #[.pointer (some ⟨xb, 0, none⟩)] wr fun e w' => e = .returned (.int .i64 (L.length : Int)) ∧ w' = wr := len_any h.1
theorem Indx.rows (h : Indx w wr xb v o L) : Calls Try.prog 14 #[.pointer (some ⟨xb, 0, none⟩)] wr fun e w' => ∃ ao cap, e = .returned (.slice ao L.length cap) ∧ RowsAt w' (.slice ao L.length cap) L ∧ Indx w w' xb v o L ∧ Below wr.heap.size wr w' := by
  refine (rows_any h.1).mono ?_
  rintro e w' ⟨ao, n, cap, he, hr, hb⟩
  have h2 := hr.rows (S := fun _ => True) h.1.rows.1 h.1.rows.2.1 (fun _ _ _ => trivial)
  obtain ⟨_, _, _, _, e3, _⟩ := h2
  injection e3 with e4 e5 e6
  subst e5
  exact ⟨ao, cap, he, hr.rows h.1.rows.1 h.1.rows.2.1 (fun _ _ _ => trivial), h.below hb, hb⟩
theorem indx_new {d : List R3} (ho : o.ok) (h : RowsAt wr v d) (hb : Below w.heap.size w wr) : Calls Try.prog 10 #[v, agg3 o.r3] wr fun e w' => ∃ xb v L, e = .returned (.tuple #[.pointer (some ⟨xb, 0, none⟩), .int .i64 0]) ∧ Indx w w' xb v o L ∧ IdxOf o d L ∧ Below wr.heap.size wr w' := by
  refine (new_any ho h).mono ?_
  rintro e w' ⟨xb, v, L, he, hx, hi, hb2⟩
  exact ⟨xb, v, L, he, ⟨hx.sub (fun _ _ hl => hl), hb.trans (hb2.mono hb.size)⟩, hi, hb2⟩
end

def O3 : Od := ⟨0, 1, 2⟩
theorem O3_ok : O3.ok := by unfold O3 Od.ok; decide
def rows4 : List R3 := [⟨1, 2, 4⟩, ⟨2, 0, 0⟩, ⟨1, 2, 3⟩, ⟨1, 2, 4⟩]
def L3 : List R3 := [⟨1, 2, 3⟩, ⟨1, 2, 4⟩, ⟨2, 0, 0⟩]
theorem idx3 : IdxOf O3 rows4 L3 := by
  refine ⟨?_, fun r => ?_⟩
  · unfold L3 Strict
    simp only [List.pairwise_cons, List.mem_cons, List.not_mem_nil, or_false, forall_eq_or_imp, forall_eq]
    simp [lt, ll, key, O3, R3.at]
  · simp only [L3, rows4, List.mem_cons, List.not_mem_nil, or_false]
    constructor
    · rintro (h | h | h) <;> simp [h]
    · rintro (h | h | h | h) <;> simp [h]
theorem s1 : wOpen O3 L3 ⟨[], false⟩ = (⟨[1], false⟩, 0) := by rfl
theorem s2 : wOpen O3 L3 ⟨[1], false⟩ = (⟨[1, 2], false⟩, 0) := by rfl
theorem s3 : wOpen O3 L3 ⟨[1, 2], false⟩ = (⟨[1, 2, 3], false⟩, 0) := by rfl
theorem s4 : wNext O3 L3 ⟨[1, 2, 3], false⟩ = (⟨[1, 2, 4], false⟩, 0) := by rfl
theorem s5 : wKey ⟨[1, 2, 4], false⟩ = (4, true) := by rfl
theorem s6 : wUp ⟨[1, 2, 4], false⟩ = (⟨[1, 2], false⟩, 0) := by rfl
theorem s7 : wUp ⟨[1, 2], false⟩ = (⟨[1], false⟩, 0) := by rfl
theorem s8 : wSeek O3 L3 ⟨[1], false⟩ 2 = (⟨[2], false⟩, 0) := by rfl

theorem rows4_at {w : World} {g : Nat} (h : w.heap[g]? = some (.cells #[.int .i64 1, .int .i64 2, .int .i64 4, .int .i64 2, .int .i64 0, .int .i64 0, .int .i64 1, .int .i64 2, .int .i64 3, .int .i64 1, .int .i64 2, .int .i64 4] 23 (0, 0))) : RowsAt w (.slice (some ⟨g, 0, none⟩) 4 4) rows4 := by
  refine ⟨by decide, ?_, some ⟨g, 0, none⟩, 4, rfl, .inr ⟨g, 0, rfl, trivial, lt_of_block h, fun j r hr => ?_⟩⟩
  · intro r hr
    simp only [rows4, List.mem_cons, List.not_mem_nil, or_false] at hr
    rcases hr with rfl | rfl | rfl | rfl <;> simp [R3.wf, in64]
  · match j with
    | 0 => obtain rfl := Option.some.inj hr; refine ⟨?_, ?_, ?_⟩ <;> simp [World.cell?, h]
    | 1 => obtain rfl := Option.some.inj hr; refine ⟨?_, ?_, ?_⟩ <;> simp [World.cell?, h]
    | 2 => obtain rfl := Option.some.inj hr; refine ⟨?_, ?_, ?_⟩ <;> simp [World.cell?, h]
    | 3 => obtain rfl := Option.some.inj hr; refine ⟨?_, ?_, ?_⟩ <;> simp [World.cell?, h]
    | j + 4 => simp [rows4] at hr

set_option maxHeartbeats 4000000 in
set_option maxRecDepth 100000 in
theorem awake_any (w : World) : Calls Try.prog 9 #[] w fun e w' => e = .returned (.bool true) ∧ Below w.heap.size w w' := by
  obtain ⟨W1, hW1⟩ : ∃ W1, W1 = w.alloc (.cells #[.int .i64 1, .int .i64 2, .int .i64 4, .int .i64 2, .int .i64 0, .int .i64 0, .int .i64 1, .int .i64 2, .int .i64 3, .int .i64 1, .int .i64 2, .int .i64 4] 23) := ⟨_, rfl⟩
  have hb1 : Below w.heap.size w W1 := by rw [hW1]; exact (Below.refl _ _).alloc (Nat.le_refl _) _
  have hr : RowsAt W1 (.slice (some ⟨w.heap.size, 0, none⟩) 4 4) rows4 := rows4_at (by rw [hW1]; exact box_at w _)
  have C := Hid.mk (indx_new O3_ok hr hb1)
  have HW1 := Hid.mk hW1
  clear hr hb1 hW1
  go_enter Try.func9, Try.ntmps9
  go_wp2_with fail
  rw [← HW1.out]
  refine C.out.mono ?_
  rintro e w2 ⟨xb, v, L, rfl, hx, hi, _⟩
  obtain rfl : L = L3 := hi.unique idx3 (fun _ => Iff.rfl)
  have HX := Hid.mk hx
  clear hx hi
  go_wp2_with fail
  refine HX.out.len.mono ?_
  rintro e w3 ⟨rfl, hw⟩
  subst hw
  have hl3 : (L3.length : Int) = 3 := rfl
  go_wp2_with fail
  refine HX.out.walk.mono ?_
  rintro e w4 ⟨rfl, ht⟩
  obtain ⟨b, hb⟩ : ∃ b, b = w3.heap.size := ⟨_, rfl⟩
  rw [← hb] at ht ⊢
  have T4 := Hid.mk ht
  clear ht hb
  go_wp2_with fail
  refine T4.out.open.mono ?_
  rintro e w5 ⟨rfl, ht⟩
  rw [s1] at ht ⊢
  have T5 := Hid.mk ht
  clear ht T4
  go_wp2_with fail
  refine T5.out.open.mono ?_
  rintro e w6 ⟨rfl, ht⟩
  rw [s2] at ht ⊢
  have T6 := Hid.mk ht
  clear ht T5
  go_wp2_with fail
  refine T6.out.open.mono ?_
  rintro e w7 ⟨rfl, ht⟩
  rw [s3] at ht ⊢
  have T7 := Hid.mk ht
  clear ht T6
  go_wp2_with fail
  refine T7.out.next.mono ?_
  rintro e w8 ⟨rfl, ht⟩
  rw [s4] at ht ⊢
  have T8 := Hid.mk ht
  clear ht T7
  go_wp2_with fail
  refine T8.out.key.mono ?_
  rintro e w9 ⟨rfl, ht⟩
  rw [s5]
  have T9 := Hid.mk ht
  clear ht T8
  go_wp2_with fail
  refine T9.out.depth.mono ?_
  rintro e w10 ⟨rfl, hw⟩
  subst hw
  have hd3 : ((([1, 2, 4] : List Int).length : Nat) : Int) = 3 := rfl
  go_wp2_with fail
  refine (T9.out.up).mono ?_
  rintro e w11 ⟨rfl, ht⟩
  rw [s6] at ht ⊢
  have T11 := Hid.mk ht
  clear ht T9
  go_wp2_with fail
  refine (T11.out.up).mono ?_
  rintro e w12 ⟨rfl, ht⟩
  rw [s7] at ht ⊢
  have T12 := Hid.mk ht
  clear ht T11
  go_wp2_with fail
  refine (T12.out.seek 2).mono ?_
  rintro e w13 ⟨rfl, ht⟩
  rw [s8] at ht ⊢
  have T13 := Hid.mk ht
  clear ht T12
  have HB := Hid.mk T13.out.bel
  go_wp2
  go_ret
  exact ⟨rfl, HB.out⟩
end Go.Proofs.Ytfocpjplokabgaa
