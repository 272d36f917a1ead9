/- A call on both sides; arguments that are slices of calls. -/
import Derived.Test.YtnepednomejniaaJMB
import Derived.Test.YtnepednomejniaaWOpen
namespace Go.Proofs.Ytnepednomejniaa
open Go.RowKit

/-- A call as data. -/
structure OpD where
  kind : Int
  keep : Int
  n : NoteD
  all : List NoteD
/-- A call in memory. -/
def OpAt (w : World) (v : Value) (o : OpD) : Prop :=
  ∃ x1 x2 x3 vl, v = .agg #[.int .i64 o.kind, .int .i64 o.keep, .int .i64 o.n.kind, x1, x2, x3, vl] ∧ NoteAt w (.agg #[.int .i64 o.n.kind, x1, x2, x3]) o.n ∧ o.n.sane ∧ NotesAt w vl o.all ∧ ∀ n ∈ o.all, n.sane

/-- Both journals hold the same. -/
structure Both (w0 : World) (S : Nat → Prop) (w : World) (p room : Nat) (vn ve : Value) (ns : List NoteD) (s : Nat) : Prop where
  j : J S w p room ns s
  q : QAt w0 S w vn ve ns
  low : Low S w
  args : ∀ k, k < w0.heap.size → S k
  bel : Below w0.heap.size w0 w
theorem Both.plus {w0 : World} {S : Nat → Prop} {w w' : World} {p room : Nat} {vn ve : Value} {ns : List NoteD} {s : Nat} (h : Both w0 S w p room vn ve ns s) (hb : Below w.heap.size w w') : Both w0 (Plus S w.heap.size w'.heap.size) w' p room vn ve ns s :=
  ⟨h.j.plus hb, h.q.keep (fun k _ h1 h2 => ⟨.inl h1, (hb.block k (lt_of_block h2)).trans h2⟩), h.low.plus hb.size, fun k hk => .inl (h.args k hk), h.bel.trans (hb.mono h.bel.size)⟩
theorem Both.below {w0 : World} {S : Nat → Prop} {w w' : World} {p room : Nat} {vn ve : Value} {ns : List NoteD} {s : Nat} (h : Both w0 S w p room vn ve ns s) (hb : Below w.heap.size w w') : Both w0 S w' p room vn ve ns s :=
  ⟨h.j.below hb, h.q.below hb, h.low.below hb, h.args, h.bel.trans (hb.mono h.bel.size)⟩

/-- What a call on both sides ends with. -/
def DEnd (w0 : World) (S : Nat → Prop) (w : World) (p room : Nat) (e : Ending) (w' : World) : Prop :=
  ∃ (S' : Nat → Prop) (vn' ve' : Value) (ns' : List NoteD) (s' : Nat), e = .returned (.tuple #[qV room (seals (ns'.take s')).length vn' ve', .bool true]) ∧ (∀ k, S k → S' k) ∧ Both w0 S' w' p room vn' ve' ns' s' ∧ Fr S w w'

theorem JAt.keepOut {T : Nat → Prop} {w w' : World} {b room : Nat} {vb ve : Value} {ns : List NoteD} {sure : Nat} (h : JAt T w b room vb ve ns sure) (key : ∀ k (o : Obj), ¬ T k → w.heap[k]? = some o → w'.heap[k]? = some o) : JAt T w' b room vb ve ns sure := by
  refine { h with blk := key b _ h.out h.blk, ob := ?_, oe := ?_ }
  · refine ⟨h.ob.1, ?_⟩
    rcases h.ob.2 with h0 | ⟨g, cap, cur, e1, e2, e3, e4⟩
    · exact .inl h0
    · exact .inr ⟨g, cap, cur, e1, e2, key g _ (h.outb g (by rw [e1]; rfl)) e3, e4⟩
  · refine ⟨h.oe.1, ?_⟩
    rcases h.oe.2 with h0 | ⟨g, cap, cur, e1, e2, e3, e4⟩
    · exact .inl h0
    · exact .inr ⟨g, cap, cur, e1, e2, key g _ (h.oute g (by rw [e1]; rfl)) e3, e4⟩
theorem Both.set {w0 : World} {S : Nat → Prop} {w : World} {p room : Nat} {vn ve : Value} {ns : List NoteD} {s c i : Nat} {u : Value} {cs : Array Value} {fz : Nat × Nat} (h : Both w0 S w p room vn ve ns s) (hb : w.heap[c]? = some (.cells cs 30 fz)) (hc : S c) (hc0 : w0.heap.size ≤ c) : Both w0 S (w.setCell ⟨c, i, none⟩ u) p room vn ve ns s := by
  refine ⟨?_, h.q.set hb, h.low.size (by simp), h.args, h.bel.setCell (p := ⟨c, i, none⟩) hc0 u⟩
  obtain ⟨hs, vb, ve, hj⟩ := h.j
  exact ⟨hs, vb, ve, hj.keepOut (fun k o hk ho => (Below.heap_setCell w ⟨c, i, none⟩ u k (fun e => hk (by rw [show k = c from e]; exact hc))).trans ho)⟩
theorem Both.set4 {w0 : World} {S : Nat → Prop} {w : World} {p room : Nat} {vn ve : Value} {ns : List NoteD} {s c : Nat} {c0 c1 c2 c3 : Value} (h : Both w0 S w p room vn ve ns s) (hb : w.heap[c]? = some (.cells #[c0, c1, c2, c3] 30 (0, 0))) (hc : S c) (hc0 : w0.heap.size ≤ c) (u0 u1 u2 u3 : Value) : Both w0 S (Go.Proofs.Ytnepednomejniaa.set4 w c u0 u1 u2 u3) p room vn ve ns s :=
  (((h.set hb hc hc0).set (four_set0 hb) hc hc0).set (four_set1 (four_set0 hb)) hc hc0).set (four_set2 (four_set1 (four_set0 hb))) hc hc0
theorem fr_set4 {S : Nat → Prop} {w w' : World} {c : Nat} (h : Fr S w w') (hc : ¬ S c) (u0 u1 u2 u3 : Value) : Fr S w (set4 w' c u0 u1 u2 u3) := (((h.setCell hc u0).setCell hc u1).setCell hc u2).setCell hc u3
theorem dEnd_of {w0 : World} {S S1 : Nat → Prop} {w w3 : World} {p room : Nat} {vn ve : Value} {ns : List NoteD} {s c X : Nat} {c0 c1 c2 c3 : Value} (hB : Both w0 S1 w3 p room vn ve ns s) (hF : Fr S w w3) (hsub : ∀ k, S k → S1 k) (hb : w3.heap[c]? = some (.cells #[c0, c1, c2, c3] 30 (0, 0))) (hc : S1 c) (hnc : ¬ S c) (hc0 : w0.heap.size ≤ c) (hX : X = (seals (ns.take s)).length) :
    DEnd w0 S w p room (.returned (.tuple #[qV room X vn ve, .bool true])) (set4 w3 c (.int .i64 room) (.int .i64 X) vn ve) :=
  ⟨S1, vn, ve, ns, s, by rw [hX], hsub, hB.set4 hb hc hc0 _ _ _ _, fr_set4 hF hnc _ _ _ _⟩

theorem seven_cells {w : World} {b : Nat} {c0 c1 c2 c3 c4 c5 c6 : Value} {t : TypeId} (h : w.heap[b]? = some (.cells #[c0, c1, c2, c3, c4, c5, c6] t (0, 0))) :
    w.cell? ⟨b, 0, none⟩ = some c0 ∧ w.cell? ⟨b, 1, none⟩ = some c1 ∧ w.cell? ⟨b, 2, none⟩ = some c2 ∧ w.cell? ⟨b, 3, none⟩ = some c3 ∧ w.cell? ⟨b, 4, none⟩ = some c4 ∧ w.cell? ⟨b, 5, none⟩ = some c5 ∧ w.cell? ⟨b, 6, none⟩ = some c6 := by
  simp [World.cell?, h]

/-- What Begin answers of the document's journal: the number x, and the journal. -/
def RB2 (w0 : World) (S : Nat → Prop) (w : World) (room su : Nat) (vn ve : Value) (l : List NoteD) (x : Int) (sx : Nat) (vn' ve' : Value) (w' : World) : Prop :=
  (x = 1 ∧ ¬ (∀ n ∈ l, n.may) ∧ sx = su ∧ vn' = vn ∧ ve' = ve) ∨ (x = 40 ∧ (∀ n ∈ l, n.may) ∧ room < (seals l).length ∧ sx = su ∧ vn' = vn ∧ ve' = ve) ∨
  (x = 0 ∧ (∀ n ∈ l, n.may) ∧ (seals l).length ≤ room ∧ sx = (seals l).length ∧ QAt w0 (Plus S w.heap.size w'.heap.size) w' vn' ve' l)
theorem rBegin2 {w0 : World} {S : Nat → Prop} {w : World} {vn ve : Value} {ns : List NoteD} (h : QAt w0 S w vn ve ns) (room su : Nat) (hrm : room ≤ 67108864) (hw0 : Below w0.heap.size w0 w) (vl : Value) (l : List NoteD) (hvl : NotesAt w0 vl l) :
    Calls Try.prog 26 #[qV room su vn ve, vl] w fun e w' => ∃ (x : Int) (sx : Nat) (b1 : Option Addr) (l1 d1 : Nat) (b2 : Option Addr) (l2 d2 : Nat), e = .returned (.tuple #[qV room sx (.slice b1 l1 d1) (.slice b2 l2 d2), .int .i64 x]) ∧ RB2 w0 S w room su vn ve l x sx (.slice b1 l1 d1) (.slice b2 l2 d2) w' ∧ Below w.heap.size w w' := by
  obtain ⟨a1, k1, a2, k2, ev1, ev2, _, _⟩ := h.slices
  refine (rBegin_any h room su hrm hw0 vl l hvl).mono ?_
  rintro e w' ⟨hb, h1 | h1 | ⟨h1, h2, vn', ve', h3, h4⟩⟩
  · subst ev1 ev2
    exact ⟨1, su, _, _, _, _, _, _, h1.2, .inl ⟨rfl, h1.1, rfl, rfl, rfl⟩, hb⟩
  · subst ev1 ev2
    exact ⟨40, su, _, _, _, _, _, _, h1.2.2, .inr (.inl ⟨rfl, h1.1, h1.2.1, rfl, rfl, rfl⟩), hb⟩
  · obtain ⟨b1, d1, b2, d2, e1, e2, _, _⟩ := h4.slices
    subst e1 e2
    exact ⟨0, _, _, _, _, _, _, _, h3, .inr (.inr ⟨rfl, h1, h2, rfl, h4⟩), hb⟩

set_option maxHeartbeats 8000000 in
set_option maxRecDepth 100000 in
theorem does_any {w0 : World} {S : Nat → Prop} {w : World} {p room : Nat} {vn ve : Value} {ns : List NoteD} {s : Nat} (h : Both w0 S w p room vn ve ns s) (vo : Value) (o : OpD) (ho : OpAt w0 vo o) :
    Calls Try.prog 13 #[.pointer (some ⟨p, 0, none⟩), qV room (seals (ns.take s)).length vn ve, vo] w fun e w' => DEnd w0 S w p room e w' := by
  obtain ⟨x1, x2, x3, vl, rfl, hon, hos, hol, hoa⟩ := ho
  obtain ⟨y1, y2, y3, y4, y5, y6, y7, y8, y9, ec1, ec2, ec3⟩ := note_slices hon
  subst ec1 ec2 ec3
  have HON := Hid.mk hon
  have HOL := Hid.mk hol
  have HOS := Hid.mk hos
  have HOA := Hid.mk hoa
  obtain ⟨_, lo, lc, hvl, _⟩ := hol
  subst hvl
  obtain ⟨a1, k1, a2, k2, ev1, ev2, hk1, hk2⟩ := h.q.slices
  subst ev1 ev2
  have hsn := h.j.1
  obtain ⟨su, hsu⟩ : ∃ x, x = (seals (ns.take s)).length := ⟨_, rfl⟩
  have hsul : su ≤ (seals ns).length := by rw [hsu]; exact seals_le ns s
  have hfit := h.j.fits
  have hmay := h.j.may
  have hcnt := seals_count13 hmay
  obtain ⟨t0, t1, t2, t3⟩ := three_blocks w (.cells #[.int .i64 room, .int .i64 su, .slice a1 ns.length k1, .slice a2 ns.length k2] 30) (.cells #[.int .i64 o.kind, .int .i64 o.keep, .int .i64 o.n.kind, .slice y1 y2 y3, .slice y4 y5 y6, .slice y7 y8 y9, .slice lo o.all.length lc] 39) (.cells #[.int .i64 0, .int .i64 0, .slice none 0 0, .slice none 0 0] 30)
  obtain ⟨W0, hW0⟩ : ∃ W0, W0 = ((w.alloc (.cells #[.int .i64 room, .int .i64 su, .slice a1 ns.length k1, .slice a2 ns.length k2] 30)).alloc (.cells #[.int .i64 o.kind, .int .i64 o.keep, .int .i64 o.n.kind, .slice y1 y2 y3, .slice y4 y5 y6, .slice y7 y8 y9, .slice lo o.all.length lc] 39)).alloc (.cells #[.int .i64 0, .int .i64 0, .slice none 0 0, .slice none 0 0] 30) := ⟨_, rfl⟩
  rw [← hW0] at t0 t1 t2 t3
  obtain ⟨S1, hS1⟩ : ∃ S1, S1 = Plus S w.heap.size W0.heap.size := ⟨_, rfl⟩
  have b1 := h.plus t3
  rw [← hS1] at b1
  have HB1 := Hid.mk b1
  have HSUB : Hid (∀ k, S k → S1 k) := Hid.mk (fun k hk => by rw [hS1]; exact .inl hk)
  have F0 := Hid.mk (fr_below h.low t3)
  have HIN : Hid (S1 w.heap.size ∧ S1 (w.heap.size + 1) ∧ S1 (w.heap.size + 2)) := Hid.mk (by
    rw [hS1]
    exact ⟨.inr ⟨Nat.le_refl _, lt_of_block t0⟩, .inr ⟨by omega, lt_of_block t1⟩, .inr ⟨by omega, lt_of_block t2⟩⟩)
  have HNC : Hid (¬ S (w.heap.size + 2) ∧ w0.heap.size ≤ w.heap.size + 2) := Hid.mk ⟨fun hk => by have := h.low _ hk; omega, by have := h.bel.size; omega⟩
  have T0 := Hid.mk t0
  have T1 := Hid.mk t1
  have T2 := Hid.mk t2
  have HW0 := Hid.mk hW0
  have HSU := Hid.mk hsu
  have CELLS : Hid (∀ wr, Fr S1 W0 wr → (wr.heap[w.heap.size]? = some (.cells #[.int .i64 room, .int .i64 su, .slice a1 ns.length k1, .slice a2 ns.length k2] 30 (0, 0))) ∧ (wr.heap[w.heap.size + 1]? = some (.cells #[.int .i64 o.kind, .int .i64 o.keep, .int .i64 o.n.kind, .slice y1 y2 y3, .slice y4 y5 y6, .slice y7 y8 y9, .slice lo o.all.length lc] 39 (0, 0))) ∧ (wr.heap[w.heap.size + 2]? = some (.cells #[.int .i64 0, .int .i64 0, .slice none 0 0, .slice none 0 0] 30 (0, 0)))) := Hid.mk (fun wr hf => ⟨(hf.block _ HIN.out.1).trans T0.out, (hf.block _ HIN.out.2.1).trans T1.out, (hf.block _ HIN.out.2.2).trans T2.out⟩)
  rw [← hsu]
  clear h t0 t1 t2 t3 hW0 hS1 b1 hon hos hoa hsu
  obtain ⟨e0, e1, e2⟩ := CELLS.out _ (Fr.refl _ _)
  obtain ⟨⟨r0, r1, r2, r3⟩, _⟩ := four_cells e0
  obtain ⟨o0, o1, o2, o3, o4, o5, o6⟩ := seven_cells e1
  clear e0 e1 e2
  by_cases hk1 : o.kind = 1
  · have hk1I : (o.kind == 1) = true := by simp [hk1]
    have CQ := Hid.mk (rWrite2 HB1.out.q room su hfit.1 hfit.2 (by omega) HB1.out.bel _ o.n HON.out)
    clear hk1
    go_enter Try.func13, Try.ntmps13
    go_wp2_with fail
    rw [← HW0.out]
    go_wp2_with fail
    refine CQ.out.mono ?_
    rintro e w2 ⟨x, b1, l1, d1, b2, l2, d2, rfl, hrw, hb2⟩
    have al2 : Below w2.heap.size w2 (w2.alloc (.cells #[.int .i64 room, .int .i64 su, .slice b1 l1 d1, .slice b2 l2 d2] 30)) := (Below.refl _ _).alloc (Nat.le_refl _) _
    have b02 := keepB hb2 al2 (Nat.le_refl _)
    obtain ⟨W2, hW2⟩ : ∃ W, W = w2.alloc (.cells #[.int .i64 room, .int .i64 su, .slice b1 l1 d1, .slice b2 l2 d2] 30) := ⟨_, rfl⟩
    have hnext : W2.heap[w2.heap.size]? = some (.cells #[.int .i64 room, .int .i64 su, .slice b1 l1 d1, .slice b2 l2 d2] 30 (0, 0)) := by rw [hW2]; exact box_at w2 _
    rw [← hW2] at al2 b02
    obtain ⟨S3, hS3⟩ : ∃ S3, S3 = Plus S1 W0.heap.size W2.heap.size := ⟨_, rfl⟩
    have B3 := HB1.out.plus b02
    rw [← hS3] at B3
    have HSUB3 : Hid (∀ k, S1 k → S3 k) := Hid.mk (fun k hk => by rw [hS3]; exact .inl hk)
    have hinn : S3 w2.heap.size := by rw [hS3]; exact .inr ⟨hb2.size, lt_of_block hnext⟩
    have hpl : ∀ vv uu nn, QAt w0 (Plus S1 W0.heap.size w2.heap.size) w2 vv uu nn → QAt w0 S3 W2 vv uu nn := fun vv uu nn hq => hq.keep (fun k _ hk ho => ⟨by
      rw [hS3]
      rcases hk with hk | hk
      · exact .inl hk
      · exact .inr ⟨hk.1, Nat.lt_of_lt_of_le hk.2 al2.size⟩, (al2.block k (lt_of_block ho)).trans ho⟩)
    have CJ : Hid (∃ ns' s', QAt w0 S3 W2 (.slice b1 l1 d1) (.slice b2 l2 d2) ns' ∧ su = (seals (ns'.take s')).length ∧ ∀ w3, Below W2.heap.size W2 w3 → Calls Try.prog 18 #[.pointer (some ⟨p, 0, none⟩), .agg #[.int .i64 o.n.kind, .slice y1 y2 y3, .slice y4 y5 y6, .slice y7 y8 y9]] w3 fun e w' => e = .returned (.int .i64 x) ∧ J S3 w' p room ns' s' ∧ Fr S3 w3 w') := Hid.mk (by
      have HON3 : ∀ w3, Below W2.heap.size W2 w3 → NoteAt w3 (.agg #[.int .i64 o.n.kind, .slice y1 y2 y3, .slice y4 y5 y6, .slice y7 y8 y9]) o.n := fun w3 h3 => HON.out.below (B3.bel.trans (h3.mono B3.bel.size))
      rcases hrw with ⟨hx, h1, h3, h4⟩ | ⟨hx, h1, h2, h4, h5⟩ | ⟨hx, h1, h2, h4⟩
      · refine ⟨ns, s, by rw [h3, h4]; exact B3.q, HSU.out, fun w3 h5 => (write_any (B3.j.below h5) (B3.low.below h5) _ o.n (HON3 w3 h5) HOS.out).mono ?_⟩
        rintro e w' ⟨g1, g2 | g2 | g2⟩
        · exact ⟨by rw [hx]; exact g2.2.1, g2.2.2, g1⟩
        · exact absurd g2.1 h1
        · exact absurd g2.1 h1
      · refine ⟨ns, s, by rw [h4, h5]; exact B3.q, HSU.out, fun w3 h6 => (write_any (B3.j.below h6) (B3.low.below h6) _ o.n (HON3 w3 h6) HOS.out).mono ?_⟩
        rintro e w' ⟨g1, g2 | g2 | g2⟩
        · exact absurd h1 g2.1
        · exact ⟨by rw [hx]; exact g2.2.2.1, g2.2.2.2, g1⟩
        · exfalso
          have := g2.2.1
          rw [seals_snoc, List.length_append] at this
          omega
      · refine ⟨ns ++ [o.n], s, hpl _ _ _ h4, by rw [List.take_append_of_le_length hsn]; exact HSU.out, fun w3 h6 => (write_any (B3.j.below h6) (B3.low.below h6) _ o.n (HON3 w3 h6) HOS.out).mono ?_⟩
        rintro e w' ⟨g1, g2 | g2 | g2⟩
        · exact absurd h1 g2.1
        · exfalso
          rw [seals_snoc, List.length_append] at h2
          have := g2.2.1
          omega
        · exact ⟨by rw [hx]; exact g2.2.2.1, g2.2.2.2, g1⟩)
    obtain ⟨ns', s', hq3, hsx, hcj⟩ := CJ.out
    have CJJ := Hid.mk hcj
    have HQ3 := Hid.mk hq3
    have HSX := Hid.mk hsx
    have HB3 := Hid.mk B3
    have HNX := Hid.mk hnext
    have HINN := Hid.mk hinn
    have HW2 := Hid.mk hW2
    have hf02 := fr_below HB1.out.low b02
    have HF2 := Hid.mk hf02
    obtain ⟨_, u1, u2⟩ := CELLS.out _ hf02
    clear CJ hcj hq3 hsx B3 hinn hpl hrw hb2 al2 hW2 b02 hf02 hS3 CQ r0 r1 r2 r3 o0 o1 o2 o3 o4 o5 o6
    obtain ⟨o0, o1, o2, o3, o4, o5, o6⟩ := seven_cells u1
    obtain ⟨⟨r0, r1, r2, r3⟩, _⟩ := four_cells hnext
    clear u1 u2 hnext
    go_wp2_with fail
    rw [← HW2.out]
    have hD2 : Below W2.heap.size W2 W2.drew := (Below.refl _ _).drew
    go_wp2_with fail
    go_region_law (go_simp; refine (CJJ.out W2.drew hD2).mono ?_; rintro e w3 ⟨rfl, hj3, hf3⟩; have hf23 := (HF2.out.trans ((fr_below HB3.out.low hD2).sub HSUB3.out)).trans (hf3.sub HSUB3.out); obtain ⟨_, v1, v2⟩ := CELLS.out _ hf23; obtain ⟨⟨m0, m1, m2c, m3⟩, ⟨n0, n1, n2, n3⟩⟩ := four_cells v2; have v4 := (hf3.block _ HINN.out).trans HNX.out; obtain ⟨⟨j0, j1, j2, j3⟩, _⟩ := four_cells v4; obtain ⟨i0, i1, i2, i3, i4, i5, i6⟩ := seven_cells v1)
    all_goals (
      have HB4 : Both w0 S3 w3 p room (.slice b1 l1 d1) (.slice b2 l2 d2) ns' s' := ⟨hj3, (HQ3.out.below hD2).fr hf3, (HB3.out.low.below hD2).fr hf3, HB3.out.args, (HB3.out.below hD2).bel.trans (hf3.below (fun k hk => HB3.out.args k hk))⟩
      obtain ⟨⟨z0, z1, z2, z3⟩, _⟩ := four_cells (set4_block v2 (.int .i64 room) (.int .i64 su) (.slice b1 l1 d1) (.slice b2 l2 d2))
      have Z0 := Hid.mk z0
      have Z1 := Hid.mk z1
      have Z2 := Hid.mk z2
      have Z3 := Hid.mk z3
      have HE := Hid.mk (dEnd_of HB4 (F0.out.trans (hf23.sub HSUB.out)) (fun k hk => HSUB3.out k (HSUB.out k hk)) v2 (HSUB3.out _ HIN.out.2.2) HNC.out.1 HNC.out.2 HSX.out)
      clear z0 z1 z2 z3 v1 v2 v4 hf3 hf23 hj3 HB4 m0 m1 m2c m3 n0 n1 n2 n3 i0 i1 i2 i3 i4 i5 i6 j0 j1 j2 j3 r0 r1 r2 r3 o0 o1 o2 o3 o4 o5 o6
      go_wp2
      refine bodyPost_ret (v := .tuple #[qV room su (.slice b1 l1 d1) (.slice b2 l2 d2), .bool true]) ?_ rfl HE.out
      simp [results, Try.results13, go_sem, Z0.out, Z1.out, Z2.out, Z3.out])
  · by_cases hk2 : o.kind = 2
    · have hk2I : (o.kind == 2) = true := by simp [hk2]
      have hk1I : (o.kind == 1) = false := by simp [hk1]
      have CQ := Hid.mk (rSure_any HB1.out.q room su (by omega))
      obtain ⟨X, hX⟩ : ∃ X, X = (seals ns).length := ⟨_, rfl⟩
      rw [← hX] at CQ
      have HX := Hid.mk hX
      clear hX hk1 hk2
      go_enter Try.func13, Try.ntmps13
      go_wp2_with fail
      rw [← HW0.out]
      go_wp2_with fail
      refine CQ.out.mono ?_
      rintro e w2 ⟨rfl, hb2⟩
      have H2 := Hid.mk (HB1.out.below hb2)
      have F2 := Hid.mk (fr_below HB1.out.low hb2)
      clear hb2 CQ r0 r1 r2 r3 o0 o1 o2 o3 o4 o5 o6
      go_wp2_with fail
      refine (jsure_any H2.out.j).mono ?_
      rintro e w3 ⟨rfl, hj3, hf3⟩
      have F3 := Hid.mk (F2.out.trans hf3)
      have H3 : Hid (Both w0 S1 w3 p room (.slice a1 ns.length k1) (.slice a2 ns.length k2) ns ns.length) := Hid.mk ⟨hj3, H2.out.q.fr hf3, H2.out.low.fr hf3, H2.out.args, H2.out.bel.trans (hf3.below (fun k hk => H2.out.args k hk))⟩
      clear hj3 hf3 H2 F2
      obtain ⟨_, _, e2⟩ := CELLS.out _ F3.out
      obtain ⟨⟨m0, m1, m2, m3⟩, ⟨n0, n1, n2, n3⟩⟩ := four_cells e2
      obtain ⟨⟨z0, z1, z2, z3⟩, _⟩ := four_cells (set4_block e2 (.int .i64 room) (.int .i64 X) (.slice a1 ns.length k1) (.slice a2 ns.length k2))
      have Z0 := Hid.mk z0
      have Z1 := Hid.mk z1
      have Z2 := Hid.mk z2
      have Z3 := Hid.mk z3
      have HE : Hid (DEnd w0 S w p room (.returned (.tuple #[qV room X (.slice a1 ns.length k1) (.slice a2 ns.length k2), .bool true])) (set4 w3 (w.heap.size + 2) (.int .i64 room) (.int .i64 X) (.slice a1 ns.length k1) (.slice a2 ns.length k2))) := Hid.mk (dEnd_of H3.out (F0.out.trans (F3.out.sub HSUB.out)) HSUB.out e2 HIN.out.2.2 HNC.out.1 HNC.out.2 (by rw [List.take_of_length_le (Nat.le_refl _), ← HX.out]))
      clear z0 z1 z2 z3 e2
      go_wp2
      refine bodyPost_ret (v := .tuple #[qV room X (.slice a1 ns.length k1) (.slice a2 ns.length k2), .bool true]) ?_ rfl HE.out
      simp [results, Try.results13, go_sem, Z0.out, Z1.out, Z2.out, Z3.out]
    · by_cases hk3 : o.kind = 3
      · have hk1I : (o.kind == 1) = false := by simp [hk1]
        have hk2I : (o.kind == 2) = false := by simp [hk2]
        have hk3I : (o.kind == 3) = true := by simp [hk3]
        have CQ : Hid (∀ w3, Below W0.heap.size W0 w3 → Calls Try.prog 25 #[qV room su (.slice a1 ns.length k1) (.slice a2 ns.length k2), .int .i64 o.keep] w3 fun e w' => ∃ (m : Nat) (b1 : Option Addr) (l1 d1 : Nat) (b2 : Option Addr) (l2 d2 : Nat), e = .returned (qV room (seals (ns.take m)).length (.slice b1 l1 d1) (.slice b2 l2 d2)) ∧ Whole ns (thereOf (seals ns).length su o.keep) m ∧ QAt w0 S1 w' (.slice b1 l1 d1) (.slice b2 l2 d2) (ns.take m) ∧ Below w3.heap.size w3 w') := Hid.mk (fun w3 h3 => by
          refine (rFail_any (HB1.out.q.below h3) room su hsul (by omega) (by omega) o.keep).mono ?_
          rintro e w' ⟨m, vn', ve', rfl, hw, hq, hb⟩
          obtain ⟨b1, d1, b2, d2, ee1, ee2, _, _⟩ := hq.slices
          subst ee1 ee2
          exact ⟨m, _, _, _, _, _, _, rfl, hw, hq, hb⟩)
        have CJ : Hid (∀ w3, Below W0.heap.size W0 w3 → Calls Try.prog 20 #[.pointer (some ⟨p, 0, none⟩), .int .i64 o.keep] w3 fun e w' => e = .returned (.int .i64 0) ∧ Fr S1 w3 w' ∧ ∃ m, s ≤ m ∧ Whole ns (thereOf (seals ns).length su o.keep) m ∧ J S1 w' p room (ns.take m) m) := Hid.mk (fun w3 h3 => by
          rw [HSU.out]; exact fail_any (HB1.out.j.below h3) (HB1.out.low.below h3) o.keep)
        clear hk1 hk2 hk3
        go_enter Try.func13, Try.ntmps13
        go_wp2_with fail
        rw [← HW0.out]
        have hD0 : Below W0.heap.size W0 W0.drew := (Below.refl _ _).drew
        go_wp2_with fail
        go_region_law (go_simp; first
          | (refine (CQ.out W0.drew hD0).mono ?_; rintro e w2 ⟨m, b1, l1, d1, b2, l2, d2, rfl, hwh, hq2, hb2⟩; have hf2 := fr_below HB1.out.low (hD0.trans hb2); obtain ⟨_, u1, u2⟩ := CELLS.out _ hf2; obtain ⟨g0, g1, g2, g3, g4, g5, g6⟩ := seven_cells u1)
          | (refine (CJ.out w2 (hD0.trans hb2)).mono ?_; rintro e w3 ⟨rfl, hf3, m2, hsm2, hwh2, hj3⟩; have hf23 := hf2.trans hf3; obtain ⟨_, v1, v2⟩ := CELLS.out _ hf23; obtain ⟨⟨m0, m1, m2c, m3⟩, ⟨n0, n1, n2, n3⟩⟩ := four_cells v2; obtain ⟨i0, i1, i2, i3, i4, i5, i6⟩ := seven_cells v1))
        all_goals (
          have hme : m = m2 := hwh.one hwh2
          subst hme
          have HB3 : Both w0 S1 w3 p room (.slice b1 l1 d1) (.slice b2 l2 d2) (ns.take m) m := ⟨hj3, hq2.fr hf3, HB1.out.low.fr hf23, HB1.out.args, HB1.out.bel.trans (hf23.below (fun k hk => HB1.out.args k hk))⟩
          obtain ⟨X, hX⟩ : ∃ X, X = (seals (ns.take m)).length := ⟨_, rfl⟩
          rw [← hX]
          obtain ⟨⟨z0, z1, z2, z3⟩, _⟩ := four_cells (set4_block v2 (.int .i64 room) (.int .i64 X) (.slice b1 l1 d1) (.slice b2 l2 d2))
          have Z0 := Hid.mk z0
          have Z1 := Hid.mk z1
          have Z2 := Hid.mk z2
          have Z3 := Hid.mk z3
          have HE := Hid.mk (dEnd_of HB3 (F0.out.trans (hf23.sub HSUB.out)) HSUB.out v2 HIN.out.2.2 HNC.out.1 HNC.out.2 (show X = (seals ((ns.take m).take m)).length by rw [List.take_take, Nat.min_self, hX]))
          clear z0 z1 z2 z3 v1 v2 u1 u2 hf2 hf3 hf23 hj3 hq2 hwh hwh2 hb2 HB3 hX m0 m1 m2c m3 n0 n1 n2 n3 g0 g1 g2 g3 g4 g5 g6 i0 i1 i2 i3 i4 i5 i6 r0 r1 r2 r3 o0 o1 o2 o3 o4 o5 o6
          go_wp2
          refine bodyPost_ret (v := .tuple #[qV room X (.slice b1 l1 d1) (.slice b2 l2 d2), .bool true]) ?_ rfl HE.out
          simp [results, Try.results13, go_sem, Z0.out, Z1.out, Z2.out, Z3.out])
      · by_cases hk4 : o.kind = 4
        · have hk1I : (o.kind == 1) = false := by simp [hk1]
          have hk2I : (o.kind == 2) = false := by simp [hk2]
          have hk3I : (o.kind == 3) = false := by simp [hk3]
          have hk4I : (o.kind == 4) = true := by simp [hk4]
          have CQ := Hid.mk (rBegin2 HB1.out.q room su hfit.2 HB1.out.bel _ o.all HOL.out)
          clear hk1 hk2 hk3 hk4
          go_enter Try.func13, Try.ntmps13
          go_wp2_with fail
          rw [← HW0.out]
          go_wp2_with fail
          refine CQ.out.mono ?_
          rintro e w2 ⟨x, sx, b1, l1, d1, b2, l2, d2, rfl, hrw, hb2⟩
          have al2 : Below w2.heap.size w2 (w2.alloc (.cells #[.int .i64 room, .int .i64 sx, .slice b1 l1 d1, .slice b2 l2 d2] 30)) := (Below.refl _ _).alloc (Nat.le_refl _) _
          have b02 := keepB hb2 al2 (Nat.le_refl _)
          obtain ⟨W2, hW2⟩ : ∃ W, W = w2.alloc (.cells #[.int .i64 room, .int .i64 sx, .slice b1 l1 d1, .slice b2 l2 d2] 30) := ⟨_, rfl⟩
          have hnext : W2.heap[w2.heap.size]? = some (.cells #[.int .i64 room, .int .i64 sx, .slice b1 l1 d1, .slice b2 l2 d2] 30 (0, 0)) := by rw [hW2]; exact box_at w2 _
          rw [← hW2] at al2 b02
          obtain ⟨S3, hS3⟩ : ∃ S3, S3 = Plus S1 W0.heap.size W2.heap.size := ⟨_, rfl⟩
          have B3 := HB1.out.plus b02
          rw [← hS3] at B3
          have HSUB3 : Hid (∀ k, S1 k → S3 k) := Hid.mk (fun k hk => by rw [hS3]; exact .inl hk)
          have hinn : S3 w2.heap.size := by rw [hS3]; exact .inr ⟨hb2.size, lt_of_block hnext⟩
          have hpl : ∀ vv uu nn, QAt w0 (Plus S1 W0.heap.size w2.heap.size) w2 vv uu nn → QAt w0 S3 W2 vv uu nn := fun vv uu nn hq => hq.keep (fun k _ hk ho => ⟨by
            rw [hS3]
            rcases hk with hk | hk
            · exact .inl hk
            · exact .inr ⟨hk.1, Nat.lt_of_lt_of_le hk.2 al2.size⟩, (al2.block k (lt_of_block ho)).trans ho⟩)
          have CJ : Hid (∃ ns' s', QAt w0 S3 W2 (.slice b1 l1 d1) (.slice b2 l2 d2) ns' ∧ sx = (seals (ns'.take s')).length ∧ ∀ w3, Below W2.heap.size W2 w3 → Calls Try.prog 21 #[.pointer (some ⟨p, 0, none⟩), .slice lo o.all.length lc] w3 fun e w' => e = .returned (.int .i64 x) ∧ J S3 w' p room ns' s' ∧ Fr S3 w3 w') := Hid.mk (by
            have HOL3 : ∀ w3, Below W2.heap.size W2 w3 → NotesAt w3 (.slice lo o.all.length lc) o.all := fun w3 h3 => HOL.out.below (B3.bel.trans (h3.mono B3.bel.size))
            rcases hrw with ⟨hx, h1, h2, h3, h4⟩ | ⟨hx, h1, h2, h3, h4, h5⟩ | ⟨hx, h1, h2, h3, h4⟩
            · refine ⟨ns, s, by rw [h3, h4]; exact B3.q, by rw [h2]; exact HSU.out, fun w3 h5 => (begin_any (B3.j.below h5) (B3.low.below h5) _ o.all (HOL3 w3 h5) HOA.out).mono ?_⟩
              rintro e w' ⟨g1, g2 | g2 | g2⟩
              · exact ⟨by rw [hx]; exact g2.2.1, g2.2.2, g1⟩
              · exact absurd g2.1 h1
              · exact absurd g2.1 h1
            · refine ⟨ns, s, by rw [h4, h5]; exact B3.q, by rw [h3]; exact HSU.out, fun w3 h6 => (begin_any (B3.j.below h6) (B3.low.below h6) _ o.all (HOL3 w3 h6) HOA.out).mono ?_⟩
              rintro e w' ⟨g1, g2 | g2 | g2⟩
              · exact absurd h1 g2.1
              · exact ⟨by rw [hx]; exact g2.2.2.1, g2.2.2.2, g1⟩
              · exact absurd g2.2.1 (by omega)
            · refine ⟨o.all, o.all.length, hpl _ _ _ h4, by rw [h3, List.take_of_length_le (Nat.le_refl _)], fun w3 h6 => (begin_any (B3.j.below h6) (B3.low.below h6) _ o.all (HOL3 w3 h6) HOA.out).mono ?_⟩
              rintro e w' ⟨g1, g2 | g2 | g2⟩
              · exact absurd h1 g2.1
              · exact absurd g2.2.1 (by omega)
              · exact ⟨by rw [hx]; exact g2.2.2.1, g2.2.2.2, g1⟩)
          obtain ⟨ns', s', hq3, hsx, hcj⟩ := CJ.out
          have CJJ := Hid.mk hcj
          have HQ3 := Hid.mk hq3
          have HSX := Hid.mk hsx
          have HB3 := Hid.mk B3
          have HNX := Hid.mk hnext
          have HINN := Hid.mk hinn
          have HW2 := Hid.mk hW2
          have hf02 := fr_below HB1.out.low b02
          have HF2 := Hid.mk hf02
          obtain ⟨_, u1, u2⟩ := CELLS.out _ hf02
          clear CJ hcj hq3 hsx B3 hinn hpl hrw hb2 al2 hW2 b02 hf02 hS3 CQ r0 r1 r2 r3 o0 o1 o2 o3 o4 o5 o6
          obtain ⟨o0, o1, o2, o3, o4, o5, o6⟩ := seven_cells u1
          obtain ⟨⟨r0, r1, r2, r3⟩, _⟩ := four_cells hnext
          clear u1 u2 hnext
          go_wp2_with fail
          rw [← HW2.out]
          have hD2 : Below W2.heap.size W2 W2.drew := (Below.refl _ _).drew
          go_wp2_with fail
          go_region_law (go_simp; refine (CJJ.out W2.drew hD2).mono ?_; rintro e w3 ⟨rfl, hj3, hf3⟩; have hf23 := (HF2.out.trans ((fr_below HB3.out.low hD2).sub HSUB3.out)).trans (hf3.sub HSUB3.out); obtain ⟨_, v1, v2⟩ := CELLS.out _ hf23; obtain ⟨⟨m0, m1, m2c, m3⟩, ⟨n0, n1, n2, n3⟩⟩ := four_cells v2; have v4 := (hf3.block _ HINN.out).trans HNX.out; obtain ⟨⟨j0, j1, j2, j3⟩, _⟩ := four_cells v4; obtain ⟨i0, i1, i2, i3, i4, i5, i6⟩ := seven_cells v1)
          all_goals (
            have HB4 : Both w0 S3 w3 p room (.slice b1 l1 d1) (.slice b2 l2 d2) ns' s' := ⟨hj3, (HQ3.out.below hD2).fr hf3, (HB3.out.low.below hD2).fr hf3, HB3.out.args, (HB3.out.below hD2).bel.trans (hf3.below (fun k hk => HB3.out.args k hk))⟩
            obtain ⟨⟨z0, z1, z2, z3⟩, _⟩ := four_cells (set4_block v2 (.int .i64 room) (.int .i64 sx) (.slice b1 l1 d1) (.slice b2 l2 d2))
            have Z0 := Hid.mk z0
            have Z1 := Hid.mk z1
            have Z2 := Hid.mk z2
            have Z3 := Hid.mk z3
            have HE := Hid.mk (dEnd_of HB4 (F0.out.trans (hf23.sub HSUB.out)) (fun k hk => HSUB3.out k (HSUB.out k hk)) v2 (HSUB3.out _ HIN.out.2.2) HNC.out.1 HNC.out.2 HSX.out)
            clear z0 z1 z2 z3 v1 v2 v4 hf3 hf23 hj3 HB4 m0 m1 m2c m3 n0 n1 n2 n3 i0 i1 i2 i3 i4 i5 i6 j0 j1 j2 j3 r0 r1 r2 r3 o0 o1 o2 o3 o4 o5 o6
            go_wp2
            refine bodyPost_ret (v := .tuple #[qV room sx (.slice b1 l1 d1) (.slice b2 l2 d2), .bool true]) ?_ rfl HE.out
            simp [results, Try.results13, go_sem, Z0.out, Z1.out, Z2.out, Z3.out])
        · have hk1I : (o.kind == 1) = false := by simp [hk1]
          have hk2I : (o.kind == 2) = false := by simp [hk2]
          have hk3I : (o.kind == 3) = false := by simp [hk3]
          have hk4I : (o.kind == 4) = false := by simp [hk4]
          obtain ⟨X, hX⟩ : ∃ X, X = (seals ns).length := ⟨_, rfl⟩
          have CZ := Hid.mk (jsize_any HB1.out.j)
          rw [← hX, ← HSU.out] at CZ
          have CB : Hid (∀ w3, Below W0.heap.size W0 w3 → Calls Try.prog 17 #[qV room su (.slice a1 ns.length k1) (.slice a2 ns.length k2)] w3 fun e w' => e = .returned (.int .i64 (X : Int)) ∧ Below w3.heap.size w3 w') := Hid.mk (fun w3 h3 => by
            rw [hX]; exact rBytes_any (HB1.out.q.below h3) room su (by omega))
          clear hX hk1 hk2 hk3 hk4
          go_enter Try.func13, Try.ntmps13
          go_wp2_with fail
          rw [← HW0.out]
          go_wp2_with fail
          refine CZ.out.mono ?_
          rintro e w2 ⟨rfl, hb2⟩
          obtain ⟨u0, u1, u2⟩ := CELLS.out _ (fr_below HB1.out.low hb2)
          clear CZ r0 r1 r2 r3 o0 o1 o2 o3 o4 o5 o6
          obtain ⟨⟨r0, r1, r2, r3⟩, _⟩ := four_cells u0
          have hD2 : Below W0.heap.size W0 w2.drew := hb2.drew
          clear u0 u1 u2
          go_wp2_with fail
          go_region_law (go_simp; refine (CB.out w2.drew hD2).mono ?_; rintro e w3 ⟨rfl, hb3⟩; have b03 := keepB hD2 hb3 (Nat.le_refl _); have hf03 := fr_below HB1.out.low b03; obtain ⟨v0, v1, v2⟩ := CELLS.out _ hf03; obtain ⟨⟨q0, q1, q2, q3⟩, _⟩ := four_cells v0; obtain ⟨⟨m0, m1, m2c, m3⟩, ⟨n0, n1, n2, n3⟩⟩ := four_cells v2)
          all_goals (
            have HB4 := HB1.out.below b03
            obtain ⟨⟨z0, z1, z2, z3⟩, _⟩ := four_cells (set4_block v2 (.int .i64 room) (.int .i64 su) (.slice a1 ns.length k1) (.slice a2 ns.length k2))
            have Z0 := Hid.mk z0
            have Z1 := Hid.mk z1
            have Z2 := Hid.mk z2
            have Z3 := Hid.mk z3
            have HE := Hid.mk (dEnd_of HB4 (F0.out.trans (hf03.sub HSUB.out)) HSUB.out v2 HIN.out.2.2 HNC.out.1 HNC.out.2 HSU.out)
            clear z0 z1 z2 z3 v0 v1 v2 hf03 b03 hb3 HB4 m0 m1 m2c m3 n0 n1 n2 n3 q0 q1 q2 q3 r0 r1 r2 r3
            go_wp2
            refine bodyPost_ret (v := .tuple #[qV room su (.slice a1 ns.length k1) (.slice a2 ns.length k2), .bool true]) ?_ rfl HE.out
            simp [results, Try.results13, go_sem, Z0.out, Z1.out, Z2.out, Z3.out])
end Go.Proofs.Ytnepednomejniaa

namespace Go.Proofs.Ytnepednomejniaa
open Go.RowKit Go.Joins

set_option maxRecDepth 100000 in
theorem open_notes {H : Type} {enc : TypeId × Value → H} {W : World} {fuel : Nat} {v : Value} {x : DataW H × List MemPlace}
    (hf : DataW.trod enc Try.prog W 0 (fun _ => true) true fuel 27 [v] = some x) (hw : ∀ m ∈ x.1.weights Try.prog 27, m ≤ reachBytes) :
    ∃ ns, NotesAt W v ns ∧ ∀ n ∈ ns, n.sane := by
  have e4 : Try.prog.cellsOf 37 = 4 := by kernel_rfl
  rcases Go.Deep.open_slice Try.underlying27 hf with ⟨hcs, _⟩ | ⟨a, len, cap, m, n, D, Pl, hcs, _, hl, hm, hmm, hx, hcell⟩
  · simp only [List.cons.injEq, and_true] at hcs
    subst hcs
    exact ⟨[], ⟨by simp, none, 0, rfl, .inl rfl⟩, by simp⟩
  · simp only [List.cons.injEq, and_true] at hcs
    subst hcs
    simp only [if_true] at hmm
    rw [e4] at hcell
    have key : ∀ i, i < len → ∃ nd c1 c2 c3, W.cells? 0 (a.add (i * 4)) 4 = some [.int .i64 nd.kind, c1, c2, c3] ∧ NoteAt W (.agg #[.int .i64 nd.kind, c1, c2, c3]) nd ∧ nd.sane := by
      intro i hi
      obtain ⟨cs, h1, h2⟩ := hcell i (by omega)
      obtain ⟨nd, c1, c2, c3, rfl, h3, h4⟩ := open_note h2 (fun q hq => hw q (by
        rw [hx]
        simp only [DataW.weights, Try.underlying27]
        exact List.mem_cons_of_mem _ (List.mem_append_left _ (weights_mem_all (List.mem_map.2 ⟨i, List.mem_range.2 hi, rfl⟩) q hq))))
      exact ⟨nd, c1, c2, c3, h1, h3, h4⟩
    obtain ⟨F, hF⟩ : ∃ F : Nat → NoteD, ∀ i, i < len → ∃ c1 c2 c3, W.cells? 0 (a.add (i * 4)) 4 = some [.int .i64 (F i).kind, c1, c2, c3] ∧ NoteAt W (.agg #[.int .i64 (F i).kind, c1, c2, c3]) (F i) ∧ (F i).sane :=
      ⟨fun i => if h : i < len then Classical.choose (key i h) else .none, fun i hi => by simp only [hi, dif_pos]; exact Classical.choose_spec (key i hi)⟩
    have hvl : ((List.range len).map F).length = len := by simp
    refine ⟨(List.range len).map F, ⟨by rw [hvl]; unfold maxLen at hm; omega, some a, cap, by rw [hvl], ?_⟩, ?_⟩
    · by_cases h0 : len = 0
      · left; rw [h0]; rfl
      · right
        obtain ⟨b, off, spot⟩ := a
        obtain ⟨d1, d2, d3, g1, _, _⟩ := hF 0 (by omega)
        have g2 := (World.cells?_some g1).2.2 0 (by omega)
        have hspot : spot = none := by simpa [Addr.add] using World.cell?_spot g2
        subst hspot
        have hlt := World.block_lt_of_cell? W _ g2
        simp only [Go.WideShapes.add_plain] at hlt
        refine ⟨b, off, rfl, hlt, fun j nd hj => ?_⟩
        have hj1 : j < len := by have := (List.getElem?_eq_some_iff.1 hj).1; rwa [hvl] at this
        rw [List.getElem?_map, List.getElem?_range hj1] at hj
        simp only [Option.map_some, Option.some.injEq] at hj
        subst hj
        obtain ⟨c1, c2, c3, k1, k2, _⟩ := hF j hj1
        have k4 := (World.cells?_some k1).2.2
        have q0 := k4 0 (by omega)
        have q1 := k4 1 (by omega)
        have q2 := k4 2 (by omega)
        have q3 := k4 3 (by omega)
        simp only [Go.WideShapes.add_plain, Nat.add_zero] at q0 q1 q2 q3
        exact ⟨c1, c2, c3, q0, q1, q2, q3, k2⟩
    · intro nd hn
      obtain ⟨i, hi, rfl⟩ := List.mem_map.1 hn
      obtain ⟨_, _, _, _, _, h⟩ := hF i (List.mem_range.1 hi)
      exact h
end Go.Proofs.Ytnepednomejniaa

namespace Go.Proofs.Ytnepednomejniaa
open Go.RowKit Go.Joins

/-- A slice of calls in memory, read-only. -/
def OpsAt (w : World) (v : Value) (os : List OpD) : Prop :=
  os.length ≤ 9223372036854775807 ∧ ∃ ao cap, v = .slice ao os.length cap ∧ (os = [] ∨ ∃ b o, ao = some ⟨b, o, none⟩ ∧ b < w.heap.size ∧ ∀ (j : Nat) p, os[j]? = some p → ∃ c3 c4 c5 c6,
    w.cell? ⟨b, o + j * 7, none⟩ = some (.int .i64 p.kind) ∧ w.cell? ⟨b, o + j * 7 + 1, none⟩ = some (.int .i64 p.keep) ∧ w.cell? ⟨b, o + j * 7 + 2, none⟩ = some (.int .i64 p.n.kind) ∧ w.cell? ⟨b, o + j * 7 + 3, none⟩ = some c3 ∧ w.cell? ⟨b, o + j * 7 + 4, none⟩ = some c4 ∧ w.cell? ⟨b, o + j * 7 + 5, none⟩ = some c5 ∧ w.cell? ⟨b, o + j * 7 + 6, none⟩ = some c6 ∧
    OpAt w (.agg #[.int .i64 p.kind, .int .i64 p.keep, .int .i64 p.n.kind, c3, c4, c5, c6]) p)

set_option maxRecDepth 100000 in
theorem open_op {H : Type} {enc : TypeId × Value → H} {W : World} {fuel : Nat} {cs : List Value} {x : DataW H × List MemPlace}
    (hf : DataW.trod enc Try.prog W 0 (fun _ => true) true fuel 39 cs = some x) (hw : ∀ m ∈ x.1.weights Try.prog 39, m ≤ reachBytes) :
    ∃ p c3 c4 c5 c6, cs = [.int .i64 p.kind, .int .i64 p.keep, .int .i64 p.n.kind, c3, c4, c5, c6] ∧ OpAt W (.agg #[.int .i64 p.kind, .int .i64 p.keep, .int .i64 p.n.kind, c3, c4, c5, c6]) p := by
  obtain ⟨y0, y1, y2, y3, n, hx, hlen, h0, h1, h2, h3⟩ := trod_struct4 Try.underlying39 hf
  have e7 : Try.prog.cellsOf 39 = 7 := by kernel_rfl
  have e0 : Try.prog.cellsOf 3 = 1 := by kernel_rfl
  have e1 : Try.prog.cellsOf 37 = 4 := by kernel_rfl
  have e2 : Try.prog.cellsOf 27 = 1 := by kernel_rfl
  rw [e7] at hlen
  obtain ⟨c0, c1, c2, c3, c4, c5, c6, rfl⟩ : ∃ c0 c1 c2 c3 c4 c5 c6, cs = [c0, c1, c2, c3, c4, c5, c6] := by
    match cs, hlen with
    | [c0, c1, c2, c3, c4, c5, c6], _ => exact ⟨c0, c1, c2, c3, c4, c5, c6, rfl⟩
  simp only [e0, e1, e2, List.drop_zero, List.drop_succ_cons, List.take_succ_cons, List.take_zero] at h0 h1 h2 h3
  rw [hx] at hw
  simp only [DataW.weights, Try.underlying39, List.map_cons, List.map_nil, DataW.weightsEach, List.append_nil] at hw
  obtain ⟨k0, hk0, _, _⟩ := DataW.trod_int Try.underlying3 h0
  obtain ⟨k1, hk1, _, _⟩ := DataW.trod_int Try.underlying3 h1
  simp only [List.cons.injEq, and_true] at hk0 hk1
  subst hk0 hk1
  obtain ⟨nd, d1, d2, d3, hcs, hnd, hns⟩ := open_note h2 (fun m hm => hw m (by simp [hm]))
  simp only [List.cons.injEq, and_true] at hcs
  obtain ⟨rfl, rfl, rfl, rfl⟩ := hcs
  obtain ⟨l, hl, hls⟩ := open_notes h3 (fun m hm => hw m (by simp [hm]))
  exact ⟨⟨k0, k1, nd, l⟩, c3, c4, c5, c6, rfl, c3, c4, c5, c6, rfl, hnd, hns, hl, hls⟩

set_option maxRecDepth 100000 in
theorem open_ops {H : Type} {enc : TypeId × Value → H} {W : World} {fuel : Nat} {v : Value} {x : DataW H × List MemPlace}
    (hf : DataW.trod enc Try.prog W 0 (fun _ => true) true fuel 22 [v] = some x) (hw : ∀ m ∈ x.1.weights Try.prog 22, m ≤ reachBytes) :
    ∃ os, OpsAt W v os := by
  have e7 : Try.prog.cellsOf 39 = 7 := by kernel_rfl
  rcases Go.Deep.open_slice Try.underlying22 hf with ⟨hcs, _⟩ | ⟨a, len, cap, m, n, D, Pl, hcs, _, hl, hm, hmm, hx, hcell⟩
  · simp only [List.cons.injEq, and_true] at hcs
    subst hcs
    exact ⟨[], by simp, none, 0, rfl, .inl rfl⟩
  · simp only [List.cons.injEq, and_true] at hcs
    subst hcs
    simp only [if_true] at hmm
    rw [e7] at hcell
    have key : ∀ i, i < len → ∃ p c3 c4 c5 c6, W.cells? 0 (a.add (i * 7)) 7 = some [.int .i64 p.kind, .int .i64 p.keep, .int .i64 p.n.kind, c3, c4, c5, c6] ∧ OpAt W (.agg #[.int .i64 p.kind, .int .i64 p.keep, .int .i64 p.n.kind, c3, c4, c5, c6]) p := by
      intro i hi
      obtain ⟨cs, h1, h2⟩ := hcell i (by omega)
      obtain ⟨p, c3, c4, c5, c6, rfl, h3⟩ := open_op h2 (fun q hq => hw q (by
        rw [hx]
        simp only [DataW.weights, Try.underlying22]
        exact List.mem_cons_of_mem _ (List.mem_append_left _ (weights_mem_all (List.mem_map.2 ⟨i, List.mem_range.2 hi, rfl⟩) q hq))))
      exact ⟨p, c3, c4, c5, c6, h1, h3⟩
    obtain ⟨F, hF⟩ : ∃ F : Nat → OpD, ∀ i, i < len → ∃ c3 c4 c5 c6, W.cells? 0 (a.add (i * 7)) 7 = some [.int .i64 (F i).kind, .int .i64 (F i).keep, .int .i64 (F i).n.kind, c3, c4, c5, c6] ∧ OpAt W (.agg #[.int .i64 (F i).kind, .int .i64 (F i).keep, .int .i64 (F i).n.kind, c3, c4, c5, c6]) (F i) :=
      ⟨fun i => if h : i < len then Classical.choose (key i h) else ⟨0, 0, .none, []⟩, fun i hi => by simp only [hi, dif_pos]; exact Classical.choose_spec (key i hi)⟩
    have hvl : ((List.range len).map F).length = len := by simp
    refine ⟨(List.range len).map F, by rw [hvl]; unfold maxLen at hm; omega, some a, cap, by rw [hvl], ?_⟩
    by_cases h0 : len = 0
    · left; rw [h0]; rfl
    · right
      obtain ⟨b, off, spot⟩ := a
      obtain ⟨d1, d2, d3, d4, g1, _⟩ := hF 0 (by omega)
      have g2 := (World.cells?_some g1).2.2 0 (by omega)
      have hspot : spot = none := by simpa [Addr.add] using World.cell?_spot g2
      subst hspot
      have hlt := World.block_lt_of_cell? W _ g2
      simp only [Go.WideShapes.add_plain] at hlt
      refine ⟨b, off, rfl, hlt, fun j p hj => ?_⟩
      have hj1 : j < len := by have := (List.getElem?_eq_some_iff.1 hj).1; rwa [hvl] at this
      rw [List.getElem?_map, List.getElem?_range hj1] at hj
      simp only [Option.map_some, Option.some.injEq] at hj
      subst hj
      obtain ⟨c3, c4, c5, c6, k1, k2⟩ := hF j hj1
      have k4 := (World.cells?_some k1).2.2
      have q0 := k4 0 (by omega)
      have q1 := k4 1 (by omega)
      have q2 := k4 2 (by omega)
      have q3 := k4 3 (by omega)
      have q4 := k4 4 (by omega)
      have q5 := k4 5 (by omega)
      have q6 := k4 6 (by omega)
      simp only [Go.WideShapes.add_plain, Nat.add_zero] at q0 q1 q2 q3 q4 q5 q6
      exact ⟨c3, c4, c5, c6, q0, q1, q2, q3, q4, q5, q6, k2⟩
end Go.Proofs.Ytnepednomejniaa
