/- Open, Up, Key of a walk. -/
import Derived.Test.YtfocpjplokabgaaPBeh2
namespace Go.Proofs.Ytfocpjplokabgaa
open Go.RowKit Go.Shelf

/-- One range is another. -/
def setLv (lv : Nat → Int × Int) (k : Nat) (x : Int × Int) : Nat → Int × Int := fun i => if i = k then x else lv i
theorem KAt.setAt {S : Nat → Prop} {w : World} {b xb d : Nat} {lv : Nat → Int × Int} (h : KAt S w b xb d lv) {k : Nat} (hk : k < 4) (a : Int) : KAt S (w.setCell ⟨b, 3 + k * 2, none⟩ (.int .i64 a)) b xb d (setLv lv k (a, (lv k).2)) := by
  refine ⟨?_, h.out⟩
  have := h.blk
  match k, hk with
  | 0, _ => simp [World.setCell, Array.getElem?_modify, this, setLv]
  | 1, _ => simp [World.setCell, Array.getElem?_modify, this, setLv]
  | 2, _ => simp [World.setCell, Array.getElem?_modify, this, setLv]
  | 3, _ => simp [World.setCell, Array.getElem?_modify, this, setLv]
theorem KAt.setEnd {S : Nat → Prop} {w : World} {b xb d : Nat} {lv : Nat → Int × Int} (h : KAt S w b xb d lv) {k : Nat} (hk : k < 4) (a : Int) : KAt S (w.setCell ⟨b, 3 + k * 2 + 1, none⟩ (.int .i64 a)) b xb d (setLv lv k ((lv k).1, a)) := by
  refine ⟨?_, h.out⟩
  have := h.blk
  match k, hk with
  | 0, _ => simp [World.setCell, Array.getElem?_modify, this, setLv]
  | 1, _ => simp [World.setCell, Array.getElem?_modify, this, setLv]
  | 2, _ => simp [World.setCell, Array.getElem?_modify, this, setLv]
  | 3, _ => simp [World.setCell, Array.getElem?_modify, this, setLv]
theorem KAt.setBoth {S : Nat → Prop} {w : World} {b xb d : Nat} {lv : Nat → Int × Int} (h : KAt S w b xb d lv) {k : Nat} (hk : k < 4) (a e : Int) : KAt S ((w.setCell ⟨b, 3 + k * 2, none⟩ (.int .i64 a)).setCell ⟨b, 3 + k * 2 + 1, none⟩ (.int .i64 e)) b xb d (setLv lv k (a, e)) := by
  have := (h.setAt hk a).setEnd hk e
  have e1 : setLv (setLv lv k (a, (lv k).2)) k ((setLv lv k (a, (lv k).2) k).1, e) = setLv lv k (a, e) := by
    funext i
    unfold setLv
    by_cases h : i = k
    · simp [h]
    · simp [h]
  rw [e1] at this
  exact this
theorem KAt.setDepth {S : Nat → Prop} {w : World} {b xb d : Nat} {lv : Nat → Int × Int} (h : KAt S w b xb d lv) (d' : Nat) : KAt S (w.setCell ⟨b, 2, none⟩ (.int .i64 (d' : Int))) b xb d' lv := by
  refine ⟨?_, h.out⟩
  have := h.blk
  simp [World.setCell, Array.getElem?_modify, this]
theorem KAt.frz {S : Nat → Prop} {w : World} {b xb d : Nat} {lv : Nat → Int × Int} (h : KAt S w b xb d lv) : w.frozen? ⟨b, 2, none⟩ = false := by
  simp [World.frozen?, h.blk]
theorem XAt.setCell {S : Nat → Prop} {w : World} {xb b i : Nat} {v : Value} {o : Od} {L : List R3} (h : XAt S w xb v o L) (hb : ¬ S b) (x : Value) : XAt S (w.setCell ⟨b, i, none⟩ x) xb v o L :=
  h.fr ((Fr.refl S w).setCell hb x)

theorem keepOpen {w : World} {b D D1 : Nat} {x y z u : Value} (hD : D1 = D + 1) (h1 : w.cell? ⟨b, 2, none⟩ = some x) (h2 : w.cell? ⟨b, 3 + D * 2, none⟩ = some y) : ((w.setCell ⟨b, 3 + D1 * 2, none⟩ z).setCell ⟨b, 3 + D1 * 2 + 1, none⟩ u).cell? ⟨b, 2, none⟩ = some x ∧ ((w.setCell ⟨b, 3 + D1 * 2, none⟩ z).setCell ⟨b, 3 + D1 * 2 + 1, none⟩ u).cell? ⟨b, 3 + D * 2, none⟩ = some y := by
  refine ⟨?_, ?_⟩
  · rw [World.cell?_setCell_other _ _ _ _ (by intro e; simp only [Addr.mk.injEq] at e; omega), World.cell?_setCell_other _ _ _ _ (by intro e; simp only [Addr.mk.injEq] at e; omega)]
    exact h1
  · rw [World.cell?_setCell_other _ _ _ _ (by intro e; simp only [Addr.mk.injEq] at e; omega), World.cell?_setCell_other _ _ _ _ (by intro e; simp only [Addr.mk.injEq] at e; omega)]
    exact h2
section
variable {S : Nat → Prop} {w : World} {b xb : Nat} {v : Value} {o : Od} {L : List R3} {s : Wk}

/-- What a call of a walk leaves. -/
def WEnd (S : Nat → Prop) (w : World) (b xb : Nat) (v : Value) (o : Od) (L : List R3) (r : Wk × Nat) (e : Ending) (w' : World) : Prop :=
  e = .returned (.int .i64 (r.2 : Int)) ∧ WAt S w' b xb v o L r.1 ∧ Fr S w w'

theorem WAt.ended (h : WAt S w b xb v o L s) : Calls Try.prog 37 #[.pointer (some ⟨b, 0, none⟩)] w fun e w' => e = .returned (.bool (decide (s.bh = true ∨ (s.p = [] ∧ L = [])))) ∧ Below w.heap.size w w' := by
  obtain ⟨lv, hk, hl⟩ := h.k
  have hd := h.ok.len
  refine (ended_any hk (by omega)).mono ?_
  rintro e w' ⟨rfl, hb⟩
  refine ⟨?_, hb⟩
  rw [hl _ (Nat.le_refl _)]
  have := ended_iff h.ok h.x.strict
  congr 2
  by_cases h1 : s.bh = true ∨ (s.p = [] ∧ L = [])
  · rw [decide_eq_true h1]
    simp only [beq_iff_eq]
    exact congrArg _ (this.2 h1)
  · rw [decide_eq_false h1]
    simp only [beq_eq_false_iff_ne]
    intro h2
    have h3 : ((atOf o L s s.p.length : Nat) : Int) = ((endOf o L s.p s.p.length : Nat) : Int) := h2
    exact h1 (this.1 (by omega))

theorem open_cond (h : WkOk o L s) (hs : s.p.length < 3) : (s.p.length = 3 ∨ s.bh = true ∨ L = []) ↔ (s.bh = true ∨ (s.p = [] ∧ L = [])) := by
  constructor
  · rintro (h1 | h1 | h1)
    · omega
    · exact .inl h1
    · by_cases hb : s.bh = true
      · exact .inl hb
      · refine .inr ⟨?_, h1⟩
        by_cases hp : s.p = []
        · exact hp
        · exact absurd h1 (h.at_ (by simpa using hb) hp).ne
  · rintro (h1 | ⟨_, h1⟩)
    · exact .inr (.inl h1)
    · exact .inr (.inr h1)

/-- The ranges behind Open. -/
theorem WAt.opened {w' : World} {p : List Int} {lv : Nat → Int × Int} (h : WAt S w b xb v o L ⟨p, false⟩) (hp : p.length < 3) (hL : L ≠ []) (hx : XAt S w' xb v o L) (hl : ∀ k, k ≤ p.length → lv k = ((atOf o L ⟨p, false⟩ k : Int), (endOf o L p k : Int)))
    (hk : KAt S w' b xb (p.length + 1) (setLv lv (p.length + 1) ((lo o L p : Int), (hi o L p : Int)))) : WAt S w' b xb v o L ⟨p ++ [num o (L.getD (lo o L p) default) p.length], false⟩ := by
  have hh : Has o L p := h.ok.has h.x.strict rfl hL
  obtain ⟨r, hr, _⟩ := hh.row h.x.strict
  have er : L.getD (lo o L p) default = r := by rw [List.getD, hr]; rfl
  rw [er]
  obtain ⟨e1, e2⟩ := open_lo h.x.strict hp hh hr
  refine ⟨hx, ⟨_, by simpa using hk, fun k hk2 => ?_⟩, ⟨by simp; omega, fun _ _ => e2, fun h => by cases h⟩⟩
  simp only [List.length_append, List.length_singleton] at hk2
  unfold setLv
  by_cases hk3 : k = p.length + 1
  · subst hk3
    rw [if_pos rfl]
    have e3 := atOf_here (o := o) (L := L) (p := p ++ [num o r p.length])
    have e4 := endOf_snoc (o := o) (L := L) (q := p) (x := num o r p.length)
    simp only [List.length_append, List.length_singleton] at e3 e4
    rw [e3, e4, e1]
  · rw [if_neg hk3, hl k (by omega)]
    have e5 : atOf o L ⟨p ++ [num o r p.length], false⟩ k = atOf o L ⟨p, false⟩ k := by
      unfold atOf
      rw [if_neg (by simp), if_neg (by simp)]
      simp only
      rw [List.take_append_of_le_length (by omega)]
    have e6 : endOf o L (p ++ [num o r p.length]) k = endOf o L p k := by
      unfold endOf
      rw [List.take_append_of_le_length (by omega)]
    rw [e5, e6]

set_option maxRecDepth 100000 in
set_option maxHeartbeats 2000000 in
theorem open_any (h : WAt S w b xb v o L s) (hS : Low S w) :
    Calls Try.prog 17 #[.pointer (some ⟨b, 0, none⟩)] w (WEnd S w b xb v o L (wOpen o L s)) := by
  obtain ⟨lv, hk, hl⟩ := h.k
  obtain ⟨g0, g1, g2⟩ := hk.cells
  have C := Hid.mk (givenW_any b w g0)
  have hlen := h.ok.len
  by_cases h3 : s.p.length = 3
  · rw [h3] at g2
    have e : wOpen o L s = (s, 3) := by unfold wOpen; rw [if_pos (.inl h3)]
    rw [e]
    have H := Hid.mk h
    clear h hk hl e h3
    go_enter Try.func17, Try.ntmps17
    go_wp2_with fail
    refine C.out.mono ?_
    rintro e w1 ⟨rfl, hw⟩
    subst hw
    go_wp2
    go_ret
    exact ⟨rfl, H.out, Fr.refl _ _⟩
  · have hlt : s.p.length < 3 := by omega
    have CE := Hid.mk h.ended
    obtain ⟨D, hD⟩ : ∃ D, D = s.p.length := ⟨_, rfl⟩
    rw [← hD] at g2 h3
    have h3I : ¬ (D : Int) = 3 := by omega
    have h3b : ((D : Int) == 3) = false := beq_eq_false_iff_ne.2 h3I
    by_cases he : s.bh = true ∨ (s.p = [] ∧ L = [])
    · rw [decide_eq_true he] at CE
      have e : wOpen o L s = (s, 3) := by unfold wOpen; rw [if_pos ((open_cond h.ok hlt).2 he)]
      rw [e]
      have H := Hid.mk h
      have HS := Hid.mk hS
      clear h hk hl e he hS
      go_enter Try.func17, Try.ntmps17
      go_wp2_with fail
      refine C.out.mono ?_
      rintro e w1 ⟨rfl, hw⟩
      subst hw
      go_wp2_with fail
      refine CE.out.mono ?_
      rintro e w2 ⟨rfl, hb2⟩
      have HB2 := Hid.mk hb2
      clear hb2
      go_wp2
      go_ret
      exact ⟨rfl, H.out.below HB2.out, fr_below HS.out HB2.out⟩
    · rw [decide_eq_false he] at CE
      have hc : ¬ (s.p.length = 3 ∨ s.bh = true ∨ L = []) := fun hc => he ((open_cond h.ok hlt).1 hc)
      have e : wOpen o L s = (⟨s.p ++ [num o (L.getD (lo o L s.p) default) s.p.length], false⟩, 0) := by unfold wOpen; rw [if_neg hc]
      rw [e]
      obtain ⟨p, bh⟩ := s
      obtain rfl : bh = false := by cases bh with | false => rfl | true => exact absurd (.inl rfl) he
      have hL : L ≠ [] := fun hL => hc (.inr (.inr hL))
      simp only at *
      have H := Hid.mk h
      have HS := Hid.mk hS
      have hb := lt_of_block hk.blk
      obtain ⟨⟨l1, _⟩, _⟩ := hk.lev (k := D) (by omega)
      rw [hl D (by omega)] at l1
      simp only at l1
      rw [hD, atOf_here, ← hD] at l1
      obtain ⟨⟨_, _⟩, f1, f2⟩ := hk.lev (k := D + 1) (by omega)
      obtain ⟨A, hA⟩ : ∃ A, A = lo o L p := ⟨_, rfl⟩
      obtain ⟨E, hE⟩ : ∃ E, E = hi o L p := ⟨_, rfl⟩
      have CB : Hid (∀ w2, Below w.heap.size w w2 → Calls Try.prog 38 #[.pointer (some ⟨b, 0, none⟩)] w2 fun e w' => e = .returned (.int .i64 (E : Int)) ∧ Below w2.heap.size w2 w') := Hid.mk (fun w2 hb2 => by
        have := behind_any (h.below hb2)
        rw [← hE] at this
        exact this)
      have HK := Hid.mk hk
      have HL := Hid.mk hl
      have HD := Hid.mk hD
      have HA := Hid.mk hA
      have HE := Hid.mk hE
      have HLT := Hid.mk hlt
      have HLL := Hid.mk hL
      rw [← hA] at l1
      have hd2 : (D : Int) < 3 := by omega
      have hd4 : (D : Int) < 4 := by omega
      obtain ⟨D1, hD1⟩ : ∃ D1, D1 = D + 1 := ⟨_, rfl⟩
      have HD1 := Hid.mk hD1
      have hD1I : (D : Int) + 1 = (D1 : Int) := by omega
      have hd5 : (D1 : Int) < 4 := by omega
      have hw1 : IntKind.i64.wrap (D1 : Int) = (D1 : Int) := by rw [IntKind.wrap_i64]; omega
      have HC : Hid (∀ w2, Below w.heap.size w w2 → (w2.cell? ⟨b, 2, none⟩ = some (.int .i64 (D : Int)) ∧ w2.cell? ⟨b, 3 + D * 2, none⟩ = some (.int .i64 (A : Int)) ∧ w2.frozen? ⟨b, 2, none⟩ = false ∧ w2.frozen? ⟨b, 3 + D1 * 2, none⟩ = false ∧ w2.frozen? ⟨b, 3 + D1 * 2 + 1, none⟩ = false ∧ (∃ x, w2.cell? ⟨b, 3 + D1 * 2, none⟩ = some x) ∧ ∃ x, w2.cell? ⟨b, 3 + D1 * 2 + 1, none⟩ = some x)) := Hid.mk (fun w2 hb2 => by
        have hk2 := hk.below hb2
        obtain ⟨⟨l3, l4⟩, f3, f4⟩ := hk2.lev (k := D1) (by omega)
        exact ⟨(hb2.cell (p := ⟨b, 2, none⟩) hb).trans g2, (hb2.cell (p := ⟨b, 3 + D * 2, none⟩) hb).trans l1, hk2.frz, f3, f4, ⟨_, l3⟩, ⟨_, l4⟩⟩)
      clear h hk hl hS e hc hD hA hE hlt hL he h3 l1 f1 f2 hD1
      go_enter Try.func17, Try.ntmps17
      go_wp2_with fail
      refine C.out.mono ?_
      rintro e w1 ⟨rfl, hw⟩
      subst hw
      go_wp2_with fail
      refine CE.out.mono ?_
      rintro e w2 ⟨rfl, hb2⟩
      obtain ⟨k2, k3, k4, k5, k6, ⟨x5, k7⟩, ⟨x6, k8⟩⟩ := HC.out w2 hb2
      have CB2 := Hid.mk (CB.out w2.drew hb2.drew)
      have HC2 : Hid (∀ w3, Below w2.drew.heap.size w2.drew w3 → (w3.cell? ⟨b, 2, none⟩ = some (.int .i64 (D : Int)) ∧ w3.cell? ⟨b, 3 + D * 2, none⟩ = some (.int .i64 (A : Int)) ∧ w3.frozen? ⟨b, 2, none⟩ = false ∧ w3.frozen? ⟨b, 3 + D1 * 2, none⟩ = false ∧ w3.frozen? ⟨b, 3 + D1 * 2 + 1, none⟩ = false ∧ (∃ x, w3.cell? ⟨b, 3 + D1 * 2, none⟩ = some x) ∧ ∃ x, w3.cell? ⟨b, 3 + D1 * 2 + 1, none⟩ = some x)) := Hid.mk (fun w3 hb3 => HC.out w3 (hb2.drew.trans (hb3.mono hb2.size)))
      have HB2 := Hid.mk hb2
      clear hb2
      go_wp2_with fail
      go_region_held3 (fun w' => w'.cell? ⟨b, 2, none⟩ = some (.int .i64 (D : Int)) ∧ w'.cell? ⟨b, 3 + D * 2, none⟩ = some (.int .i64 (A : Int)))
        (first | exact ⟨k2, k3⟩ | (exact ⟨by assumption, by assumption⟩) | (exact keepOpen HD1.out (by assumption) (by assumption)))
        (first | (go_at_call 38; refine CB2.out.mono ?_; rintro e w3 ⟨rfl, hb3⟩; obtain ⟨m2, m3, m4, m5, m6, ⟨x7, m7⟩, ⟨x8, m8⟩⟩ := HC2.out w3 hb3))
      have HB3 : Hid (Below w1.heap.size w1 w3) := Hid.mk (HB2.out.drew.trans (hb3.mono HB2.out.size))
      obtain ⟨W4, hW4⟩ : ∃ W4, W4 = (w3.setCell ⟨b, 3 + D1 * 2, none⟩ (.int .i64 (A : Int))).setCell ⟨b, 3 + D1 * 2 + 1, none⟩ (.int .i64 (E : Int)) := ⟨_, rfl⟩
      have c4 : W4.cell? ⟨b, 2, none⟩ = some (.int .i64 (D : Int)) := by rw [hW4]; exact (keepOpen HD1.out m2 m3).1
      have f4 : W4.frozen? ⟨b, 2, none⟩ = false := by rw [hW4]; simpa using m4
      rw [← hW4]
      have HW4 := Hid.mk hW4
      clear hb3 hW4 m2 m3 m4 m5 m6 m7 m8 k2 k3 k4 k5 k6 k7 k8
      go_wp2
      go_ret
      have hk3 := HK.out.below HB3.out
      have hk4 := (hk3.setBoth (k := D1) (by omega) (A : Int) (E : Int)).setDepth D1
      have hx4 := (((H.out.x.below HB3.out).setCell (i := 3 + D1 * 2) HK.out.out (.int .i64 (A : Int))).setCell (i := 3 + D1 * 2 + 1) HK.out.out (.int .i64 (E : Int))).setCell (i := 2) HK.out.out (.int .i64 (D1 : Int))
      rw [← HW4.out] at hk4 hx4
      have e1 : D1 = p.length + 1 := by rw [HD1.out, HD.out]
      refine ⟨rfl, H.out.opened HLT.out HLL.out hx4 HL.out ?_, ?_⟩
      · rw [← e1, ← HA.out, ← HE.out]
        exact hk4
      · have hf := (((fr_below HS.out HB3.out).setCell (i := 3 + D1 * 2) HK.out.out (.int .i64 (A : Int))).setCell (i := 3 + D1 * 2 + 1) HK.out.out (.int .i64 (E : Int))).setCell (i := 2) HK.out.out (.int .i64 (D1 : Int))
        rw [← HW4.out] at hf
        exact hf

set_option maxRecDepth 100000 in
set_option maxHeartbeats 1000000 in
theorem up_any (h : WAt S w b xb v o L s) (hS : Low S w) :
    Calls Try.prog 19 #[.pointer (some ⟨b, 0, none⟩)] w (WEnd S w b xb v o L (wUp s)) := by
  obtain ⟨lv, hk, hl⟩ := h.k
  obtain ⟨g0, g1, g2⟩ := hk.cells
  have C := Hid.mk (givenW_any b w g0)
  have hlen := h.ok.len
  by_cases h0 : s.p = []
  · have e : wUp s = (s, 3) := by unfold wUp; rw [if_pos h0]
    rw [e]
    rw [h0] at g2
    have H := Hid.mk h
    clear h hk hl e h0
    simp only [List.length_nil] at g2
    go_enter Try.func19, Try.ntmps19
    go_wp2_with fail
    refine C.out.mono ?_
    rintro e w1 ⟨rfl, hw⟩
    subst hw
    go_wp2
    go_ret
    exact ⟨rfl, H.out, Fr.refl _ _⟩
  · have e : wUp s = (⟨s.p.dropLast, false⟩, 0) := by unfold wUp; rw [if_neg h0]
    rw [e]
    obtain ⟨p, bh⟩ := s
    obtain ⟨q, x, rfl⟩ := snoc_of h0
    simp only [List.dropLast_concat, List.length_append, List.length_singleton] at *
    have hq : q.length < 3 := by omega
    have hN : WAt S (w.setCell ⟨b, 2, none⟩ (.int .i64 (q.length : Int))) b xb v o L ⟨q, false⟩ := by
      refine ⟨h.x.setCell hk.out _, ⟨lv, hk.setDepth q.length, fun k hk2 => ?_⟩, ⟨by simp only; omega, fun _ _ => ?_, fun h => by cases h⟩⟩
      · simp only at hk2
        rw [hl k (by omega)]
        have e5 : atOf o L ⟨q ++ [x], bh⟩ k = atOf o L ⟨q, false⟩ k := by
          unfold atOf
          rw [if_neg (by simp; omega), if_neg (by simp)]
          simp only
          rw [List.take_append_of_le_length (by omega)]
        have e6 : endOf o L (q ++ [x]) k = endOf o L q k := by
          unfold endOf
          rw [List.take_append_of_le_length (by omega)]
        rw [e5, e6]
      · cases bh with
        | false => exact (h.ok.at_ rfl h0).up h.x.strict hq
        | true => have := (h.ok.past rfl).2; simpa using this
    have hF : Fr S w (w.setCell ⟨b, 2, none⟩ (.int .i64 (q.length : Int))) := (Fr.refl S w).setCell hk.out _
    have HN := Hid.mk hN
    have HF := Hid.mk hF
    have f2 := hk.frz
    obtain ⟨D, hD⟩ : ∃ D, D = q.length := ⟨_, rfl⟩
    rw [← hD] at g2 HN HF hq
    have hD1 : ((D + 1 : Nat) : Int) - 1 = (D : Int) := by omega
    have hD0 : ¬ ((D + 1 : Nat) : Int) = 0 := by omega
    have hwr : IntKind.i64.wrap (D : Int) = (D : Int) := by rw [IntKind.wrap_i64]; omega
    clear h hk hl hN hF hlen h0 e hD
    go_enter Try.func19, Try.ntmps19
    go_wp2_with fail
    refine C.out.mono ?_
    rintro e w1 ⟨rfl, hw⟩
    subst hw
    go_wp2
    go_ret
    exact ⟨rfl, HN.out, HF.out⟩

set_option maxRecDepth 100000 in
set_option maxHeartbeats 2000000 in
theorem key_any (h : WAt S w b xb v o L s) :
    Calls Try.prog 25 #[.pointer (some ⟨b, 0, none⟩)] w fun e w' => e = .returned (.tuple #[.int .i64 (wKey s).1, .bool (wKey s).2]) ∧ Below w.heap.size w w' := by
  obtain ⟨lv, hk, hl⟩ := h.k
  obtain ⟨g0, g1, g2⟩ := hk.cells
  have C := Hid.mk (givenW_any b w g0)
  have hlen := h.ok.len
  by_cases h0 : s.p = []
  · have e : wKey s = (0, false) := by unfold wKey; rw [if_pos (.inl h0)]
    rw [e]
    rw [h0] at g2
    clear h hk hl e h0
    simp only [List.length_nil] at g2
    go_enter Try.func25, Try.ntmps25
    go_wp2_with fail
    refine C.out.mono ?_
    rintro e w1 ⟨rfl, hw⟩
    subst hw
    go_wp2
    go_ret2
    exact ⟨rfl, Below.refl _ _⟩
  · have CE := Hid.mk h.ended
    obtain ⟨p, bh⟩ := s
    cases bh with
    | true =>
      have e : wKey ⟨p, true⟩ = (0, false) := by unfold wKey; rw [if_pos (.inr rfl)]
      rw [e]
      rw [decide_eq_true (.inl rfl)] at CE
      obtain ⟨D, hD⟩ : ∃ D, D = p.length := ⟨_, rfl⟩
      simp only at g2 h0
      rw [← hD] at g2
      have hD0 : ¬ (D : Int) = 0 := by
        intro h1
        exact h0 (List.length_eq_zero_iff.1 (by omega))
      have hDb : ((D : Int) == 0) = false := beq_eq_false_iff_ne.2 hD0
      clear h hk hl e h0 hD
      go_enter Try.func25, Try.ntmps25
      go_wp2_with fail
      refine C.out.mono ?_
      rintro e w1 ⟨rfl, hw⟩
      subst hw
      go_wp2_with fail
      refine CE.out.mono ?_
      rintro e w2 ⟨rfl, hb2⟩
      have HB2 := Hid.mk hb2
      clear hb2
      go_wp2
      go_ret2
      exact ⟨rfl, HB2.out⟩
    | false =>
      obtain ⟨q, x, rfl⟩ := snoc_of h0
      have e : wKey ⟨q ++ [x], false⟩ = (x, true) := by unfold wKey; rw [if_neg (by simp), lastN_snoc]
      rw [e]
      rw [decide_eq_false (by simp)] at CE
      simp only [List.length_append, List.length_singleton] at *
      have hq : q.length < 3 := by omega
      have hs := h.x.strict
      have hh : Has o L (q ++ [x]) := h.ok.at_ rfl h0
      obtain ⟨r, hr, hm⟩ := hh.row hs
      have hrx : num o r q.length = x := ((mt_snoc hq).1 hm).2
      obtain ⟨⟨l1, _⟩, _⟩ := hk.lev (k := q.length + 1) (by omega)
      have e1 := atOf_here (o := o) (L := L) (p := q ++ [x])
      simp only [List.length_append, List.length_singleton] at e1
      rw [hl _ (Nat.le_refl _)] at l1
      simp only at l1
      rw [e1] at l1
      have hb := lt_of_block hk.blk
      obtain ⟨A, hA⟩ : ∃ A, A = lo o L (q ++ [x]) := ⟨_, rfl⟩
      have CN : Hid (∀ w', Below w.heap.size w w' → Calls Try.prog 43 #[.pointer (some ⟨b, 0, none⟩), .int .i64 (A : Int)] w' fun e w'' => e = .returned (.int .i64 x) ∧ ∃ q, w'' = w'.drewN q) := Hid.mk (fun w' hb => by
        have := number_any (hk.below hb) (h.x.below hb) hq hr
        rw [hrx, ← hA] at this
        exact this)
      rw [← hA] at l1
      obtain ⟨D, hD⟩ : ∃ D, D = q.length + 1 := ⟨_, rfl⟩
      rw [← hD] at g2 l1
      have hd4 : (D : Int) < 4 := by omega
      have hD0 : ¬ (D : Int) = 0 := by omega
      have hDb : ((D : Int) == 0) = false := beq_eq_false_iff_ne.2 hD0
      have HC : Hid (∀ w2, Below w.heap.size w w2 → w2.cell? ⟨b, 2, none⟩ = some (.int .i64 (D : Int)) ∧ w2.cell? ⟨b, 3 + D * 2, none⟩ = some (.int .i64 (A : Int))) := Hid.mk (fun w2 hb2 => ⟨(hb2.cell (p := ⟨b, 2, none⟩) hb).trans g2, (hb2.cell (p := ⟨b, 3 + D * 2, none⟩) hb).trans l1⟩)
      clear h hk hl h0 e hA hD e1 hlen hs hr hm hrx hh l1
      go_enter Try.func25, Try.ntmps25
      go_wp2_with fail
      refine C.out.mono ?_
      rintro e w1 ⟨rfl, hw⟩
      subst hw
      go_wp2_with fail
      refine CE.out.mono ?_
      rintro e w2 ⟨rfl, hb2⟩
      obtain ⟨k2, k3⟩ := HC.out w2 hb2
      have CN2 : Hid (∀ n, Calls Try.prog 43 #[.pointer (some ⟨b, 0, none⟩), .int .i64 (A : Int)] (w2.drewN n) fun e w'' => e = .returned (.int .i64 x) ∧ ∃ q, w'' = (w2.drewN n).drewN q) := Hid.mk (fun n => CN.out _ (below_drewN hb2 n))
      have HB2 := Hid.mk hb2
      clear hb2
      go_wp2_with fail
      go_quiet ((go_at_call 43; refine Calls.quiet_of (CN2.out _)))
      have hbq := below_drewN HB2.out nq
      go_wp2
      go_ret2
      exact ⟨rfl, hbq⟩
end
end Go.Proofs.Ytfocpjplokabgaa
