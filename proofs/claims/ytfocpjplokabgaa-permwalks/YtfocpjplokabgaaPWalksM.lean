/- A walk and the document's, side by side. -/
import Derived.Test.YtfocpjplokabgaaPRefS
import Derived.Test.YtfocpjplokabgaaPOpenS
namespace Go.Proofs.Ytfocpjplokabgaa
open Go.RowKit Go.Shelf

/-- The blocks of the walk, of the document's walk and of its next one are no others'. -/
abbrev Apart3 (b gn : Nat) : Nat → Prop := fun k => k ≠ b ∧ k ≠ b + 1 ∧ k ≠ gn
/-- Where the statement is ahead of a call: both walks stand at s. -/
structure WkS (w : World) (b xx : Nat) (vx vl va : Value) (o : Od) (L : List R3) (s : Wk) (wr : World) : Prop where
  low : w.heap.size ≤ b
  wk : WAt (fun k => k < b) wr b xx vx o L s
  v_ : wr.heap[b + 1]? = some (.cells #[.int .i64 o.r3.a, .int .i64 o.r3.b, .int .i64 o.r3.c, vl, va, .bool s.bh] 43 (0, 0))
  d : DW (fun k => k ≠ b ∧ k ≠ b + 1) wr vl va L s.p
  bel : Below w.heap.size w wr
/-- Where it is amid a call: the walk stands at sp, the document's at sd. -/
structure WkN (w : World) (b xx gn : Nat) (vx vl va : Value) (o : Od) (L : List R3) (sp sd : Wk) (wr : World) : Prop where
  low : w.heap.size ≤ b
  gnb : b + 1 < gn
  wk : WAt (fun k => k < b) wr b xx vx o L sp
  v_ : wr.heap[b + 1]? = some (.cells #[.int .i64 o.r3.a, .int .i64 o.r3.b, .int .i64 o.r3.c, vl, va, .bool sd.bh] 43 (0, 0))
  n_ : wr.heap[gn]? = some (.cells #[.int .i64 o.r3.a, .int .i64 o.r3.b, .int .i64 o.r3.c, vl, va, .bool sd.bh] 43 (0, 0))
  d : DW (Apart3 b gn) wr vl va L sd.p
  bel : Below w.heap.size w wr
section
variable {w wr : World} {b xx gn : Nat} {vx vl va : Value} {o : Od} {L : List R3} {s sp sd : Wk}
theorem WkS.below {w' : World} (h : WkS w b xx vx vl va o L s wr) (hb : Below wr.heap.size wr w') : WkS w b xx vx vl va o L s w' :=
  ⟨h.low, h.wk.below hb, (hb.block _ (lt_of_block h.v_)).trans h.v_, h.d.below hb, h.bel.trans (hb.mono h.bel.size)⟩
theorem WkS.start (h : WkS w b xx vx vl va o L s wr) : WkN w b xx wr.heap.size vx vl va o L s s (wr.alloc (.cells #[.int .i64 o.r3.a, .int .i64 o.r3.b, .int .i64 o.r3.c, vl, va, .bool s.bh] 43)) := by
  have hal : Below wr.heap.size wr (wr.alloc (.cells #[.int .i64 o.r3.a, .int .i64 o.r3.b, .int .i64 o.r3.c, vl, va, .bool s.bh] 43)) := (Below.refl _ _).alloc (Nat.le_refl _) _
  have h2 := h.below hal
  refine ⟨h.low, lt_of_block h.v_, h2.wk, h2.v_, box_at wr _, ?_, h2.bel⟩
  exact h.d.keep hal.size (fun k hk hl => ⟨⟨hk.1, hk.2, by omega⟩, hal.block k hl⟩)
theorem WkN.fr {s' : Wk} {w' : World} (h : WkN w b xx gn vx vl va o L sp sd wr) (hf : Fr (fun k => k < wr.heap.size ∧ k ≠ b) wr w') (hw : ∀ S : Nat → Prop, XAt S w' xx vx o L → ¬ S b → WAt S w' b xx vx o L s') : WkN w b xx gn vx vl va o L s' sd w' := by
  have hlt := lt_of_block h.n_
  have hg := h.gnb
  have hlow := h.low
  have hfb : Fr (fun k => k < b) wr w' := hf.sub (fun k hk => ⟨by omega, by omega⟩)
  exact ⟨h.low, h.gnb, hw _ (h.wk.x.fr hfb) (by omega), (hf.block (b + 1) ⟨by omega, by omega⟩).trans h.v_, (hf.block gn ⟨hlt, by omega⟩).trans h.n_, h.d.keep hf.size (fun k hk hl => ⟨hk, hf.block k ⟨hl, hk.1⟩⟩), h.bel.trans (hf.below (fun k hk => ⟨by omega, by omega⟩))⟩
theorem WkN.end_ {r : Wk × Nat} {f : Nat} {args : Array Value} (h : WkN w b xx gn vx vl va o L sp sd wr) (hc : ∀ S, WAt S wr b xx vx o L sp → Low S wr → Calls Try.prog f args wr (WEnd S wr b xx vx o L r)) : Calls Try.prog f args wr fun e w' => e = .returned (.int .i64 (r.2 : Int)) ∧ WkN w b xx gn vx vl va o L r.1 sd w' := by
  obtain ⟨lv, k1, k2⟩ := h.wk.k
  refine (hc (fun k => k < wr.heap.size ∧ k ≠ b) ⟨h.wk.x.sub (fun k hk hl => ⟨hl, by omega⟩), ⟨lv, ⟨k1.blk, fun hk => hk.2 rfl⟩, k2⟩, h.wk.ok⟩ (fun k hk => hk.1)).mono ?_
  rintro e w' ⟨he, hw, hf⟩
  obtain ⟨lv2, k3, k4⟩ := hw.k
  exact ⟨he, h.fr hf (fun S hx hn => ⟨hx, ⟨lv2, ⟨k3.blk, hn⟩, k4⟩, hw.ok⟩)⟩
theorem WkN.open (h : WkN w b xx gn vx vl va o L sp sd wr) : Calls Try.prog 17 #[.pointer (some ⟨b, 0, none⟩)] wr fun e w' => e = .returned (.int .i64 ((wOpen o L sp).2 : Int)) ∧ WkN w b xx gn vx vl va o L (wOpen o L sp).1 sd w' := h.end_ (fun _ h1 h2 => open_any h1 h2)
theorem WkN.up (h : WkN w b xx gn vx vl va o L sp sd wr) : Calls Try.prog 19 #[.pointer (some ⟨b, 0, none⟩)] wr fun e w' => e = .returned (.int .i64 ((wUp sp).2 : Int)) ∧ WkN w b xx gn vx vl va o L (wUp sp).1 sd w' := h.end_ (fun _ h1 h2 => up_any h1 h2)
theorem WkN.next (h : WkN w b xx gn vx vl va o L sp sd wr) : Calls Try.prog 21 #[.pointer (some ⟨b, 0, none⟩)] wr fun e w' => e = .returned (.int .i64 ((wNext o L sp).2 : Int)) ∧ WkN w b xx gn vx vl va o L (wNext o L sp).1 sd w' := h.end_ (fun _ h1 h2 => next_any h1 h2)
theorem WkN.seek (h : WkN w b xx gn vx vl va o L sp sd wr) (n : Int) : Calls Try.prog 23 #[.pointer (some ⟨b, 0, none⟩), .int .i64 n] wr fun e w' => e = .returned (.int .i64 ((wSeek o L sp n).2 : Int)) ∧ WkN w b xx gn vx vl va o L (wSeek o L sp n).1 sd w' := h.end_ (fun _ h1 h2 => seek_any h1 h2 n)
theorem WkN.below {w' : World} (h : WkN w b xx gn vx vl va o L sp sd wr) (hb : Below wr.heap.size wr w') : WkN w b xx gn vx vl va o L sp sd w' :=
  ⟨h.low, h.gnb, h.wk.below hb, (hb.block _ (lt_of_block h.v_)).trans h.v_, (hb.block _ (lt_of_block h.n_)).trans h.n_, h.d.below hb, h.bel.trans (hb.mono h.bel.size)⟩
/-- The document's call. -/
theorem WkN.doc {r : Wk × Nat} {f : Nat} {args : Array Value} (h : WkN w b xx gn vx vl va o L sp sd wr) (hc : ∀ S, DW S wr vl va L sd.p → Calls Try.prog f args wr (DEnd S wr o vl L r)) : Calls Try.prog f args wr fun e w' => ∃ aa ca, e = .returned (.tuple #[wV o.r3 vl (.slice aa r.1.p.length ca) r.1.bh, .int .i64 (r.2 : Int)]) ∧ WkN w b xx gn vx vl va o L sp sd w' ∧ DW (Apart3 b gn) w' vl (.slice aa r.1.p.length ca) L r.1.p := by
  refine (hc _ h.d).mono ?_
  rintro e w' ⟨va', he, hd, hb⟩
  obtain ⟨_, _, aa, ca, _, e2⟩ := hd.slices
  rw [e2] at he hd
  have hlt := lt_of_block h.n_
  have hg := h.gnb
  refine ⟨aa, ca, he, h.below hb, hd.sub (fun k hk _ => ?_)⟩
  rcases hk with hk | hk
  · exact hk
  · exact ⟨by omega, by omega, by omega⟩
theorem WkN.put {va' : Value} (h : WkN w b xx gn vx vl va o L sp sd wr) (hd : DW (Apart3 b gn) wr vl va' L sp.p) :
    WkS w b xx vx vl va' o L sp (set6 (set6 wr gn (.int .i64 o.r3.a) (.int .i64 o.r3.b) (.int .i64 o.r3.c) vl va' (.bool sp.bh)) (b + 1) (.int .i64 o.r3.a) (.int .i64 o.r3.b) (.int .i64 o.r3.c) vl va' (.bool sp.bh)) := by
  have hg := h.gnb
  have hlow := h.low
  obtain ⟨lv, k1, k2⟩ := h.wk.k
  have other : ∀ k, k ≠ gn → k ≠ b + 1 → (set6 (set6 wr gn (.int .i64 o.r3.a) (.int .i64 o.r3.b) (.int .i64 o.r3.c) vl va' (.bool sp.bh)) (b + 1) (.int .i64 o.r3.a) (.int .i64 o.r3.b) (.int .i64 o.r3.c) vl va' (.bool sp.bh)).heap[k]? = wr.heap[k]? := fun k h1 h2 => by
    rw [set6_other h2, set6_other h1]
  have hb1 := set6_below (b := b + 1) (set6_below (b := gn) h.bel (by omega) (.int .i64 o.r3.a) (.int .i64 o.r3.b) (.int .i64 o.r3.c) vl va' (.bool sp.bh)) (by omega) (.int .i64 o.r3.a) (.int .i64 o.r3.b) (.int .i64 o.r3.c) vl va' (.bool sp.bh)
  have hsz : wr.heap.size ≤ (set6 (set6 wr gn (.int .i64 o.r3.a) (.int .i64 o.r3.b) (.int .i64 o.r3.c) vl va' (.bool sp.bh)) (b + 1) (.int .i64 o.r3.a) (.int .i64 o.r3.b) (.int .i64 o.r3.c) vl va' (.bool sp.bh)).heap.size := by simp
  refine ⟨h.low, ⟨h.wk.x.keep hsz (fun k hk _ => ⟨hk, other k (by omega) (by omega)⟩), ⟨lv, ⟨(other b (by omega) (by omega)).trans k1.blk, k1.out⟩, k2⟩, h.wk.ok⟩, ?_, hd.keep hsz (fun k hk _ => ⟨⟨hk.1, hk.2.1⟩, other k hk.2.2 hk.2.1⟩), hb1⟩
  exact set6_block ((set6_other (show b + 1 ≠ gn by omega) _ _ _ _ _ _).trans h.v_) _ _ _ _ _ _
theorem WkS.key (h : WkS w b xx vx vl va o L s wr) : Calls Try.prog 25 #[.pointer (some ⟨b, 0, none⟩)] wr fun e w' => e = .returned (.tuple #[.int .i64 (wKey s).1, .bool (wKey s).2]) ∧ WkS w b xx vx vl va o L s w' := by
  refine (key_any h.wk).mono ?_
  rintro e w' ⟨he, hb⟩
  exact ⟨he, h.below hb⟩
theorem WkS.rkey (h : WkS w b xx vx vl va o L s wr) : Calls Try.prog 26 #[wV o.r3 vl va s.bh] wr fun e w' => e = .returned (.tuple #[.int .i64 (wKey s).1, .bool (wKey s).2]) ∧ WkS w b xx vx vl va o L s w' := by
  refine (rKey_any h.d h.wk.ok.len).mono ?_
  rintro e w' ⟨he, hb⟩
  exact ⟨he, h.below hb⟩
theorem WkS.depth (h : WkS w b xx vx vl va o L s wr) : Calls Try.prog 27 #[.pointer (some ⟨b, 0, none⟩)] wr fun e w' => e = .returned (.int .i64 (s.p.length : Int)) ∧ WkS w b xx vx vl va o L s w' := by
  refine (depthS_any h.wk).mono ?_
  rintro e w' ⟨he, hw⟩
  rw [hw]
  exact ⟨he, h⟩
end
end Go.Proofs.Ytfocpjplokabgaa
