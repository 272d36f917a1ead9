/- All shares are told one by one, and the lightest of them is kept: the program's. -/
import Derived.Test.YtojjepkmnifngaaHLoad
import Derived.Test.YtojjepkmnifngaaShelf
import Derived.Deep.DeepAppendRoom
namespace Go.Proofs.Ytojjepkmnifngaa
open Go.RowKit

theorem cloneZ_any {S : Nat → Prop} {w : World} {v : Value} {L : List Int} (h : IntZ S w v L) (hL : L.length ≤ 1000) :
    Calls Try.prog 31 #[v] w fun e w' => (∃ v', e = .returned v' ∧ IntZ (fun k => w.heap.size ≤ k) w' v' L) ∧ Below w.heap.size w w' := by
  obtain ⟨ao, cap, rfl, h⟩ := h
  cases ao with
  | none =>
    rcases h with h | ⟨g, off, e, _⟩
    · subst h
      refine (Try.slices_Clone_int_nil 0 cap w).mono ?_
      rintro e w' ⟨rfl, rfl⟩
      exact ⟨⟨_, rfl, SlS.nil _ _⟩, Below.refl _ _⟩
    · cases e
  | some ad =>
    by_cases h0 : L = []
    · subst h0
      refine (Try.slices_Clone_int_zero ad cap w).mono ?_
      rintro e w' ⟨v', rfl, h1, _, h2⟩
      refine ⟨⟨_, rfl, (own_int (L := []) (by simpa using h1) rfl).sub (fun b hb _ => (h1.lt b hb).1)⟩, h2⟩
    · rcases h with h | ⟨g, off, e, _, _, hc⟩
      · exact absurd h h0
      · injection e with e
        subst e
        refine (Try.slices_Clone_int g off L.length cap L w (Nat.le_refl _) (by omega) (fun j hj => ?_)).mono ?_
        · have := getZ (hc j (L[j]'hj) (List.getElem?_eq_getElem hj))
          rw [Nat.mul_one] at this
          rw [this, List.getD_eq_getElem?_getD, List.getElem?_eq_getElem hj]
          rfl
        · rintro e w' ⟨v', rfl, h1, _, h2⟩
          rw [List.take_of_length_le (Nat.le_refl _), ← flat_Z] at h1
          exact ⟨⟨_, rfl, (own_int h1 rfl).sub (fun b hb _ => (h1.lt b hb).1)⟩, h2⟩

/-- Three blocks of the call's own: the atoms' box, the least load's, the best shares'; what lies below a base is theirs, or elder. -/
structure Bx (base ab lb bb : Nat) : Prop where
  a : ab < base
  l : lb < base
  b : bb < base
  al : ab ≠ lb
  ab : ab ≠ bb
  lb : lb ≠ bb
abbrev TK (base lb bb : Nat) : Nat → Prop := fun k => k < base ∧ k ≠ lb ∧ k ≠ bb
abbrev fA (A : List At) (L : List Int) : Int := loadP L (A.map At.pr)
/-- What was told is l: the least load and the shares that have it are kept; S: rows that others write. -/
structure LI (base ab lb bb : Nat) (av : Value) (A : List At) (S : Nat → Prop) (w : World) (l : List (List Int)) : Prop where
  low : ∀ k, S k → base ≤ k ∧ k < w.heap.size
  bs : base ≤ w.heap.size
  cab : w.cell? ⟨ab, 0, none⟩ = some av
  ats : LoadS (TK base lb bb) w av A
  rl : VRow w lb 3 [.int .i64 (bst (fA A) l).2]
  rb : ∃ bv, VRow w bb 24 [bv] ∧ IntZ (fun k => base ≤ k ∧ ¬ S k) w bv (bst (fA A) l).1
theorem LI.grow {base ab lb bb : Nat} {av : Value} {A : List At} {S S' : Nat → Prop} {w w' : World} {l : List (List Int)} (hx : Bx base ab lb bb) (h : LI base ab lb bb av A S w l) (hz : w.heap.size ≤ w'.heap.size)
    (hk : ∀ k, k < w.heap.size → ¬ S k → w'.heap[k]? = w.heap[k]?) (hS : ∀ k, S' k → (S k ∧ base ≤ k) ∨ (w.heap.size ≤ k ∧ k < w'.heap.size)) : LI base ab lb bb av A S' w' l := by
  have hn : ∀ k, k < base → ¬ S k := fun k hk hs => by have := (h.low k hs).1; omega
  have hbs := h.bs
  refine ⟨fun k hs => ?_, Nat.le_trans h.bs hz, ?_, ?_, ?_, ?_⟩
  · rcases hS k hs with ⟨h1, h2⟩ | h1
    · have := h.low k h1; omega
    · omega
  · have := h.cab
    have e := hk ab (by have := hx.a; omega) (hn _ hx.a)
    simpa only [World.cell?, e] using this
  · have hq : ∀ b, TK base lb bb b → b < w.heap.size → TK base lb bb b ∧ w'.heap[b]? = w.heap[b]? := fun b hb hl => ⟨hb, hk b hl (hn b hb.1)⟩
    exact ⟨h.ats.sl.keep hz hq, fun a ha => (h.ats.el a ha).keep hz hq⟩
  · exact (hk lb (by have := hx.l; omega) (hn _ hx.l)).trans h.rl
  · obtain ⟨bv, h1, h2⟩ := h.rb
    refine ⟨bv, (hk bb (by have := hx.b; omega) (hn _ hx.b)).trans h1, h2.keep hz (fun b hb hl => ⟨⟨hb.1, fun hs => ?_⟩, hk b hl hb.2⟩)⟩
    rcases hS b hs with ⟨h3, _⟩ | h3
    · exact hb.2 h3
    · omega
theorem LI.sub {base ab lb bb : Nat} {av : Value} {A : List At} {S S' : Nat → Prop} {w : World} {l : List (List Int)} (h : LI base ab lb bb av A S w l) (hS : ∀ k, S' k → S k) : LI base ab lb bb av A S' w l :=
  ⟨fun k hs => h.low k (hS k hs), h.bs, h.cab, h.ats, h.rl, by
    obtain ⟨bv, h1, h2⟩ := h.rb
    exact ⟨bv, h1, h2.sub (fun b hb _ => ⟨hb.1, fun hs => hb.2 (hS b hs)⟩)⟩⟩
/-- What stays while shares are told. -/
abbrev KP (base lb bb : Nat) (S : Nat → Prop) : Nat → Prop := fun k => TK base lb bb k ∨ S k
theorem VRow.other {w : World} {g b i : Nat} {t : TypeId} {l : List Value} (h : VRow w g t l) (hne : g ≠ b) (v : Value) : VRow (w.setCell ⟨b, i, none⟩ v) g t l := (Below.heap_setCell w ⟨b, i, none⟩ v g hne).trans h
theorem VRow.put {w : World} {g : Nat} {t : TypeId} {x : Value} (h : VRow w g t [x]) (v : Value) : VRow (w.setCell ⟨g, 0, none⟩ v) g t [v] := h.set 0 v
theorem VRow.one {w : World} {g : Nat} {t : TypeId} {x : Value} (h : VRow w g t [x]) : w.cell? ⟨g, 0, none⟩ = some x ∧ w.frozen? ⟨g, 0, none⟩ = false := h.cell rfl
theorem LI.store {base ab lb bb : Nat} {av : Value} {A : List At} {S : Nat → Prop} {w w2 : World} {l : List (List Int)} (hx : Bx base ab lb bb) (h : LI base ab lb bb av A S w l) (hb : Below w.heap.size w w2) {v' : Value} {B : List Int} (hv : IntZ (fun k => w.heap.size ≤ k) w2 v' B) (he : bst (fA A) (l ++ [B]) = (B, fA A B)) :
    LI base ab lb bb av A S ((w2.setCell ⟨bb, 0, none⟩ v').setCell ⟨lb, 0, none⟩ (.int .i64 (fA A B))) (l ++ [B]) ∧ Fr (KP base lb bb S) w ((w2.setCell ⟨bb, 0, none⟩ v').setCell ⟨lb, 0, none⟩ (.int .i64 (fA A B))) := by
  have hn : ∀ k, k < base → ¬ S k := fun k hk hs => by have := (h.low k hs).1; omega
  have hbs := h.bs
  have hK : ∀ k, k < w.heap.size → k ≠ lb → k ≠ bb → ((w2.setCell ⟨bb, 0, none⟩ v').setCell ⟨lb, 0, none⟩ (.int .i64 (fA A B))).heap[k]? = w.heap[k]? := fun k hk h1 h2 => by
    rw [Below.heap_setCell _ ⟨lb, 0, none⟩ _ k h1, Below.heap_setCell _ ⟨bb, 0, none⟩ _ k h2]
    exact hb.block k hk
  have hK2 : ∀ k, k ≠ lb → k ≠ bb → ((w2.setCell ⟨bb, 0, none⟩ v').setCell ⟨lb, 0, none⟩ (.int .i64 (fA A B))).heap[k]? = w2.heap[k]? := fun k h1 h2 => by
    rw [Below.heap_setCell _ ⟨lb, 0, none⟩ _ k h1, Below.heap_setCell _ ⟨bb, 0, none⟩ _ k h2]
  have hz : w2.heap.size ≤ ((w2.setCell ⟨bb, 0, none⟩ v').setCell ⟨lb, 0, none⟩ (.int .i64 (fA A B))).heap.size := by simp
  have hzz := hb.size
  have hxl := hx.l
  have hxb := hx.b
  have hxa := hx.a
  constructor
  · refine ⟨fun k hs => ?_, by omega, ?_, ?_, ?_, ?_⟩
    · have := h.low k hs; omega
    · have := h.cab
      have e := hK ab (by omega) hx.al hx.ab
      simpa only [World.cell?, e] using this
    · have hq : ∀ b, TK base lb bb b → b < w.heap.size → TK base lb bb b ∧ ((w2.setCell ⟨bb, 0, none⟩ v').setCell ⟨lb, 0, none⟩ (.int .i64 (fA A B))).heap[b]? = w.heap[b]? := fun b hb hl => ⟨hb, hK b hl hb.2.1 hb.2.2⟩
      exact ⟨h.ats.sl.keep (by omega) hq, fun a ha => (h.ats.el a ha).keep (by omega) hq⟩
    · rw [he]
      have h1 : VRow w2 lb 3 [.int .i64 (bst (fA A) l).2] := h.rl.below hb
      exact (h1.other hx.lb v').put _
    · obtain ⟨bv, h1, _⟩ := h.rb
      rw [he]
      have h2 : VRow w2 bb 24 [bv] := h1.below hb
      refine ⟨v', (h2.put v').other (fun e => hx.lb e.symm) _, hv.keep hz (fun b hb2 hl => ⟨⟨by omega, fun hs => ?_⟩, hK2 b (by omega) (by omega)⟩)⟩
      have := (h.low b hs).2
      omega
  · refine ⟨hb.os, hb.tape, hb.output, by omega, fun k hk => ?_⟩
    rcases hk with hk | hk
    · exact hK k (by have := hk.1; omega) hk.2.1 hk.2.2
    · have := h.low k hk
      exact hK k this.2 (by omega) (by omega)
set_option maxHeartbeats 4000000 in
set_option maxRecDepth 100000 in
theorem tell_any {base ab lb bb : Nat} {av : Value} {A : List At} {S T : Nat → Prop} {w : World} {l : List (List Int)} (hx : Bx base ab lb bb) (h : LI base ab lb bb av A S w l) {v : Value} {B : List Int} (hv : IntZ T w v B) (hB : okL B = true) (hA : FitD B.length A) :
    Calls Try.prog 29 #[v, .pointer (some ⟨ab, 0, none⟩), .pointer (some ⟨lb, 0, none⟩), .pointer (some ⟨bb, 0, none⟩)] w fun e w' => e = .returned (.tuple #[]) ∧ LI base ab lb bb av A S w' (l ++ [B]) ∧ Fr (KP base lb bb S) w w' := by
  obtain ⟨ao, cap, rfl⟩ := hv.slice
  have HCA : Hid (∀ W, Below w.heap.size w W → Calls Try.prog 30 #[.slice ao B.length cap, av] W fun e w' => e = .returned (.int .i64 (fA A B)) ∧ Below W.heap.size W w') := Hid.mk (fun W hW => load_any (hv.below hW) (h.ats.below hW) hB hA)
  have HCC : Hid (∀ W, Below w.heap.size w W → Calls Try.prog 31 #[.slice ao B.length cap] W fun e w' => (∃ v', e = .returned v' ∧ IntZ (fun k => W.heap.size ≤ k) w' v' B) ∧ Below W.heap.size W w') := Hid.mk (fun W hW => cloneZ_any (hv.below hW) (by have := (okL_iff.1 hB).1; omega))
  have hf := loadD_range hB hA.2
  have hf2 : fA A B ≤ 1048576 * 12 := by
    have h1 := hf.2
    have h2 := hA.1
    show loadP B (A.map At.pr) ≤ _
    omega
  have hf1 : 0 ≤ fA A B := hf.1
  have H := Hid.mk h
  have c1 := h.cab
  obtain ⟨xa0, xc0, hav⟩ := h.ats.sl.slice
  obtain ⟨na, hna⟩ : ∃ na, na = A.length := ⟨_, rfl⟩
  rw [← hna] at hav
  clear hna
  subst hav
  obtain ⟨n, hn⟩ : ∃ n, n = B.length := ⟨_, rfl⟩
  rw [← hn] at HCA HCC ⊢
  obtain ⟨y, hy⟩ : ∃ y, y = fA A B := ⟨_, rfl⟩
  rw [← hy] at HCA hf1 hf2
  obtain ⟨z, hz⟩ : ∃ z, z = (bst (fA A) l).2 := ⟨_, rfl⟩

  have HY := Hid.mk hy
  have HZ := Hid.mk hz
  have HCL : Hid (∀ W, Below w.heap.size w W → W.cell? ⟨lb, 0, none⟩ = some (.int .i64 z)) := Hid.mk (fun W hW => by rw [hz]; exact (h.rl.below hW).one.1)
  clear h hv hB hA hf hn hy hz
  go_enter Try.func29, Try.ntmps29
  go_wp2_with fail
  refine (HCA.out w (Below.refl _ _)).mono ?_
  rintro e w1 ⟨rfl, hb1⟩
  have q1 := HCL.out w1 hb1
  have HB1 := Hid.mk hb1
  clear hb1 c1
  by_cases hneg : z < 0
  · have HE : Hid (bst (fA A) (l ++ [B]) = (B, fA A B)) := Hid.mk (by rw [bst_snoc, bstF, if_pos (.inl (by rw [← HZ.out]; exact hneg))])
    go_wp2_with fail
    refine (HCC.out w1 HB1.out).mono ?_
    rintro e w2 ⟨⟨v', rfl, hv'⟩, hb2⟩
    have HFIN : Hid (LI base ab lb bb (.slice xa0 na xc0) A S ((w2.setCell ⟨bb, 0, none⟩ v').setCell ⟨lb, 0, none⟩ (.int .i64 y)) (l ++ [B]) ∧ Fr (KP base lb bb S) w ((w2.setCell ⟨bb, 0, none⟩ v').setCell ⟨lb, 0, none⟩ (.int .i64 y))) := Hid.mk (by
      rw [HY.out]
      exact H.out.store hx (HB1.out.trans (hb2.mono HB1.out.size)) (hv'.sub (fun b hb _ => by have := HB1.out.size; omega)) HE.out)
    obtain ⟨bv, hbv, _⟩ := H.out.rb
    have hb2w : Below w.heap.size w w2 := HB1.out.trans (hb2.mono HB1.out.size)
    have hrb2 := hbv.below hb2w
    have hrl2 := H.out.rl.below hb2w
    obtain ⟨q2, q3⟩ := hrb2.one
    obtain ⟨q4, q5⟩ := (hrl2.other (i := 0) hx.lb v').one
    obtain ⟨xa, xn, xc, rfl⟩ : ∃ a n c, v' = .slice a n c := by
      obtain ⟨a, c, e⟩ := hv'.slice
      exact ⟨a, _, c, e⟩
    have hbl := hx.lb
    clear hbv hb2w hrb2 hrl2 hv' hb2 q1 hneg
    go_wp2
    go_end0
    exact ⟨rfl, HFIN.out⟩
  · by_cases hlt : y < z
    · have HE : Hid (bst (fA A) (l ++ [B]) = (B, fA A B)) := Hid.mk (by rw [bst_snoc, bstF, if_pos (.inr (by rw [← HZ.out, ← HY.out]; exact hlt))])
      go_wp2_with fail
      refine (HCC.out w1 HB1.out).mono ?_
      rintro e w2 ⟨⟨v', rfl, hv'⟩, hb2⟩
      have HFIN : Hid (LI base ab lb bb (.slice xa0 na xc0) A S ((w2.setCell ⟨bb, 0, none⟩ v').setCell ⟨lb, 0, none⟩ (.int .i64 y)) (l ++ [B]) ∧ Fr (KP base lb bb S) w ((w2.setCell ⟨bb, 0, none⟩ v').setCell ⟨lb, 0, none⟩ (.int .i64 y))) := Hid.mk (by
        rw [HY.out]
        exact H.out.store hx (HB1.out.trans (hb2.mono HB1.out.size)) (hv'.sub (fun b hb _ => by have := HB1.out.size; omega)) HE.out)
      obtain ⟨bv, hbv, _⟩ := H.out.rb
      have hb2w : Below w.heap.size w w2 := HB1.out.trans (hb2.mono HB1.out.size)
      have hrb2 := hbv.below hb2w
      have hrl2 := H.out.rl.below hb2w
      obtain ⟨q2, q3⟩ := hrb2.one
      obtain ⟨q4, q5⟩ := (hrl2.other (i := 0) hx.lb v').one
      obtain ⟨xa, xn, xc, rfl⟩ : ∃ a n c, v' = .slice a n c := by
        obtain ⟨a, c, e⟩ := hv'.slice
        exact ⟨a, _, c, e⟩
      have hbl := hx.lb
      clear hbv hb2w hrb2 hrl2 hv' hb2 q1 hneg
      go_wp2
      go_end0
      exact ⟨rfl, HFIN.out⟩
    · have HE : Hid (bst (fA A) (l ++ [B]) = bst (fA A) l) := Hid.mk (by
        rw [bst_snoc, bstF, if_neg]
        rw [← HZ.out, ← HY.out]
        omega)
      have HL2 : Hid (LI base ab lb bb (.slice xa0 na xc0) A S w1 (l ++ [B]) ∧ Fr (KP base lb bb S) w w1) := Hid.mk (by
        refine ⟨?_, ⟨HB1.out.os, HB1.out.tape, HB1.out.output, HB1.out.size, fun k hk => HB1.out.block k ?_⟩⟩
        · have h := (H.out.grow (S' := S) hx HB1.out.size (fun k hk _ => HB1.out.block k hk) (fun k hs => .inl ⟨hs, (H.out.low k hs).1⟩))
          exact ⟨h.low, h.bs, h.cab, h.ats, by rw [HE.out]; exact h.rl, by rw [HE.out]; exact h.rb⟩
        · have := H.out.bs
          rcases hk with hk | hk
          · have := hk.1; omega
          · exact (H.out.low k hk).2)
      go_wp2
      go_end0
      exact ⟨rfl, HL2.out⟩
end Go.Proofs.Ytojjepkmnifngaa
