/- What each kind of path adds: addMaybe, addPlus, addStar of the program. -/
import Derived.Test.YthdnpddfdlhlaaaBMk
import Derived.Test.YthdnpddfdlhlaaaACut
namespace Go.Proofs.Ythdnpddfdlhlaaa
open Go.RowKit

theorem three_cells {w : World} {b : Nat} {c0 c1 c2 : Value} {t : TypeId} (h : w.heap[b]? = some (.cells #[c0, c1, c2] t (0, 0))) :
    (w.cell? ⟨b, 0, none⟩ = some c0 ∧ w.cell? ⟨b, 1, none⟩ = some c1 ∧ w.cell? ⟨b, 2, none⟩ = some c2) ∧ (w.frozen? ⟨b, 0, none⟩ = false ∧ w.frozen? ⟨b, 1, none⟩ = false ∧ w.frozen? ⟨b, 2, none⟩ = false) := by
  simp [World.cell?, World.frozen?, h]
def set3P (w : World) (b : Nat) (c0 c1 c2 : Value) : World := ((w.setCell ⟨b, 0, none⟩ c0).setCell ⟨b, 1, none⟩ c1).setCell ⟨b, 2, none⟩ c2
theorem set3P_at {w : World} {b : Nat} {x y z c0 c1 c2 : Value} {t : TypeId} (h : w.heap[b]? = some (.cells #[x, y, z] t (0, 0))) : (set3P w b c0 c1 c2).heap[b]? = some (.cells #[c0, c1, c2] t (0, 0)) := by
  simp [set3P, World.setCell, Array.getElem?_modify, h]
theorem Fr.set3P {S : Nat → Prop} {w w' : World} {b : Nat} (h : Fr S w w') (hb : ¬ S b) (c0 c1 c2 : Value) : Fr S w (set3P w' b c0 c1 c2) := ((h.setCell hb c0).setCell hb c1).setCell hb c2
theorem MkAt.set3P {S : Nat → Prop} {w : World} {mb kb : Nat} {ws : List Wd} {F : Nat → Nat} {wv : Value} (h : MkAt S w mb kb ws F wv) {b : Nat} (hs : S b) (hk : b ≠ kb) (c0 c1 c2 : Value) : MkAt S (set3P w b c0 c1 c2) mb kb ws F wv := ((h.setS hs hk c0).setS hs hk c1).setS hs hk c2
theorem Fr.alloc {S : Nat → Prop} {w w' : World} (h : Fr S w w') (hS : Low S w) (o : Obj) : Fr S w (w'.alloc o) := h.next hS ((Below.refl _ _).alloc (Nat.le_refl _) o)

/-- A part, as the program answers it. -/
abbrev ptV (f l : Nat) (e : Bool) : Value := .agg #[.int .u32 (f : Int), .int .u32 (l : Int), .bool e]
/-- What is left behind a call that adds a part. -/
def AddE (S : Nat → Prop) (w : World) (mb kb : Nat) (ws : List Wd) (ps : List (Nat × Nat)) (x : Prt) (e : Ending) (w' : World) : Prop :=
  ∃ f l F wv, e = .returned (ptV f l x.empty) ∧ BitsOf f (up ws.length x.first) ∧ BitsOf l (up ws.length x.last) ∧ MkAt S w' mb kb (ws ++ x.words) F wv ∧ FolOf F (ps ++ upP ws.length x.pairs) ∧ Fr S w w'
/-- A call that adds a part for a path. -/
def AddG (fn : FuncId) (t : Vt) (X : Prt) (need : Nat) : Prop := ∀ (S : Nat → Prop) (w : World) (mb kb : Nat) (ws : List Wd) (ps : List (Nat × Nat)) (F : Nat → Nat) (wv : Value), Low S w → MkAt S w mb kb ws F wv → FolOf F ps → VOk S w t → ws.length + need ≤ 24 →
  Calls Try.prog fn #[.pointer (some ⟨mb, 0, none⟩), encN t] w (AddE S w mb kb ws ps X)
def AddF (fn : FuncId) (t : Vt) : Prop := AddG fn t (prtOf t.pt) (leaves t.pt)
/-- How a method ends: what it made stays, its result is laid. -/
theorem add_end {S : Nat → Prop} {w W1 w1 : World} {mb kb b hi : Nat} {ws : List Wd} {F : Nat → Nat} {wv c0 c1 c2 : Value} (o : Obj) (hS : Low S w) (hsz : W1.heap.size = hi) (hFW : Fr S w W1) (hfr : Fr (Plus S w.heap.size hi) W1 w1) (hm : MkAt (Plus S w.heap.size hi) w1 mb kb ws F wv) (hkb : S kb) (h1 : w.heap.size ≤ b) (h2 : b < hi) :
    MkAt S ((set3P w1 b c0 c1 c2).alloc o) mb kb ws F wv ∧ Fr S w ((set3P w1 b c0 c1 c2).alloc o) := by
  have hk := hS kb hkb
  have hLow : Low (Plus S w.heap.size hi) w1 := Low.fr (w := W1) (fun k hk => by
    rcases hk with hk | hk
    · have := hS k hk; have := hFW.size; omega
    · omega) hfr
  have hm2 := hm.set3P (b := b) (.inr ⟨h1, h2⟩) (by omega) c0 c1 c2
  have hz : (set3P w1 b c0 c1 c2).heap.size = w1.heap.size := by simp [Go.Proofs.Ythdnpddfdlhlaaa.set3P]
  refine ⟨(hm2.below (fun k hk => by rw [hz]; exact hLow k hk) ((Below.refl _ _).alloc (Nat.le_refl _) o)).sub (fun k hk => .inl hk) hkb, ?_⟩
  exact Fr.alloc (Fr.set3P (hFW.trans (hfr.sub (fun k hk => .inl hk))) (fun h => by have := hS _ h; omega) c0 c1 c2) hS o
theorem add_end2 {S : Nat → Prop} {w W1 w1 : World} {mb kb b hi : Nat} {ws : List Wd} {F : Nat → Nat} {wv c0 c1 c2 : Value} (hS : Low S w) (hFW : Fr S w W1) (hfr : Fr (Plus S w.heap.size hi) W1 w1) (hm : MkAt (Plus S w.heap.size hi) w1 mb kb ws F wv) (hkb : S kb) (h1 : w.heap.size ≤ b) (h2 : b < hi) :
    MkAt S (set3P w1 b c0 c1 c2) mb kb ws F wv ∧ Fr S w (set3P w1 b c0 c1 c2) := by
  have hk := hS kb hkb
  exact ⟨(hm.set3P (b := b) (.inr ⟨h1, h2⟩) (by omega) c0 c1 c2).sub (fun k hk => .inl hk) hkb, Fr.set3P (hFW.trans (hfr.sub (fun k hk => .inl hk))) (fun h => by have := hS _ h; omega) c0 c1 c2⟩
theorem end_cells {w1 : World} {b : Nat} {x y z c0 c1 c2 : Value} {t : TypeId} (o : Obj) (h : w1.heap[b]? = some (.cells #[x, y, z] t (0, 0))) :
    (((set3P w1 b c0 c1 c2).alloc o).cell? ⟨b, 0, none⟩ = some c0 ∧ ((set3P w1 b c0 c1 c2).alloc o).cell? ⟨b, 1, none⟩ = some c1 ∧ ((set3P w1 b c0 c1 c2).alloc o).cell? ⟨b, 2, none⟩ = some c2) := by
  have hz : (set3P w1 b c0 c1 c2).heap.size = w1.heap.size := by simp [Go.Proofs.Ythdnpddfdlhlaaa.set3P]
  have h2 : ((set3P w1 b c0 c1 c2).alloc o).heap[b]? = some (.cells #[c0, c1, c2] t (0, 0)) := by
    rw [heap_alloc_old _ _ (by rw [hz]; exact lt_of_block h)]
    exact set3P_at h
  exact (three_cells h2).1
theorem foldl_alt_one (x : Prt) : [x].foldl altC (prt0 false) = x := by
  simp [altC, prt0, up, upP]
theorem foldl_seq_one (x : Prt) : [x].foldl seqC (prt0 true) = x := by
  simp [seqC, prt0, up, upP, cross]
theorem prt_one {k : Int} {wd : Wd} {v : Value} {x : Vt} (h : k = 4 ∨ k = 5 ∨ k = 6) : prtOf (Vt.pt ⟨k, wd, v, [x]⟩) = if k = 4 then mayC2 (loopC (prtOf x.pt)) else if k = 5 then loopC (prtOf x.pt) else mayC2 (prtOf x.pt) := by
  rw [Vt.pt_mk, prtOf_mk, List.map_cons, List.map_cons, List.map_nil, List.map_nil, kindC]
  rcases h with rfl | rfl | rfl <;> simp [altC, prt0, up, upP]
theorem leaves_one {k : Int} {wd : Wd} {v : Value} {x : Vt} (h : k ≠ 1) : leaves (Vt.pt ⟨k, wd, v, [x]⟩) = leaves x.pt := by
  rw [Vt.pt_mk, leaves_mk, if_neg h]
  simp
theorem prt_words_len (t : Pt) : (prtOf t).words.length = leaves t := (prt_words t).2
theorem bits_lt {n : Nat} {t : Pt} (h : n + leaves t ≤ 24) : ∀ k ∈ up n (prtOf t).first, k < 24 := by
  intro k hk
  obtain ⟨y, hy, rfl⟩ := mem_up.1 hk
  have := (prtOf_reads t).1.first y hy
  rw [prt_words_len] at this
  omega

set_option maxHeartbeats 2000000 in
set_option maxRecDepth 100000 in
theorem addMaybe_any {k : Int} {wd : Wd} {v : Value} {x : Vt} (hx : AddF 31 x) : AddG 56 ⟨k, wd, v, [x]⟩ (mayC2 (prtOf x.pt)) (leaves x.pt) := by
  intro S w mb kb ws ps F wv hS hm hf hv hl
  obtain ⟨ao, cap, hvv⟩ := hv.parts.1.slice
  obtain ⟨X, hX⟩ : ∃ X, X = prtOf x.pt := ⟨_, rfl⟩
  rw [← hX]
  dsimp only at hvv
  subst hvv
  have HV := Hid.mk hv
  obtain ⟨g, off, rfl, hgS, hgl, hcell⟩ := hv.parts.1.get (j := 0) (x := x) rfl
  obtain ⟨q0, q1, q2⟩ := getN hcell
  rw [Nat.zero_mul, Nat.add_zero] at q0 q1 q2
  have hxv := hv.parts.2.2.2 x (by simp)
  obtain ⟨xa, xc, hxs⟩ := hxv.parts.1.slice
  have HX := Hid.mk hx
  obtain ⟨kk, kw, kv, kl⟩ := x
  dsimp only at hxs q0 q1 q2
  subst hxs
  have hkl := hxv.parts.2.2.1
  dsimp only at hkl
  obtain ⟨W1, hW1⟩ : ∃ W, W = (w.alloc (.cells #[.int .i64 k, .string ⟨wd.toArray⟩, .slice (some ⟨g, off, none⟩) 1 cap] 24)).alloc (.cells #[.int .u32 0, .int .u32 0, .bool false] 63) := ⟨_, rfl⟩
  have hbW : Below w.heap.size w W1 := by rw [hW1]; exact ((Below.refl _ _).alloc (Nat.le_refl _) _).alloc (by simp) _
  have hsz : W1.heap.size = w.heap.size + 2 := by rw [hW1]; simp
  have hcb : W1.heap[w.heap.size + 1]? = some (.cells #[.int .u32 0, .int .u32 0, .bool false] 63 (0, 0)) := by rw [hW1]; exact (by simpa using heap_alloc_new (w.alloc (.cells #[.int .i64 k, .string ⟨wd.toArray⟩, .slice (some ⟨g, off, none⟩) 1 cap] 24)) _)
  have hLowP : Low (Plus S w.heap.size (w.heap.size + 2)) W1 := by have := hS.plus hbW.size; rw [hsz] at this; exact this
  have HM1 := Hid.mk (hm.plus hS hbW (w.heap.size + 2))
  have hFrW : Fr S w W1 := fr_below hS hbW
  have hkS : S kb := hm.sk
  have hkl2 : kb < w.heap.size := hS _ hkS
  have C := Hid.mk (HX.out (Plus S w.heap.size (w.heap.size + 2)) W1 mb kb ws ps F wv hLowP HM1.out hf ((hxv.below hbW).sub (fun b hb _ => .inl hb)) hl)
  have HW1 := Hid.mk hW1
  have HFW := Hid.mk hFrW
  have HCB := Hid.mk hcb
  have HSZ := Hid.mk hsz
  have HXX := Hid.mk hX
  have HLOW := Hid.mk hS
  have HSK := Hid.mk hkS
  rw [← hX] at C
  clear hv hm hf hl hxv hx hcell hbW hsz hcb hLowP hFrW hkS hkl2 hW1 hX HX hS
  show Calls Try.prog _ #[_, .agg #[.int .i64 k, .string ⟨wd.toArray⟩, .slice (some ⟨g, off, none⟩) 1 cap]] w _
  go_enter Try.func56, Try.ntmps56
  go_wp2_with fail
  rw [← HW1.out]
  refine C.out.mono ?_
  rintro e w1 ⟨f, l, F2, wv2, rfl, hb1, hb2, hm2, hf2, hfr2⟩
  have e1 := (hfr2.block (w.heap.size + 1) (.inr ⟨by omega, by omega⟩)).trans HCB.out
  have hlt1 : w.heap.size + 1 < w1.heap.size := lt_of_block e1
  obtain ⟨⟨r0, r1, r2⟩, ⟨f0, f1, f2⟩⟩ := three_cells e1
  obtain ⟨hmF, hfF⟩ := add_end (b := w.heap.size + 1) (c0 := .int .u32 (f : Int)) (c1 := .int .u32 (l : Int)) (c2 := .bool true) (.cells #[.int .u32 (f : Int), .int .u32 (l : Int), .bool true] 63) HLOW.out HSZ.out HFW.out hfr2 hm2 HSK.out (by omega) (by omega)
  have hE : AddE S w mb kb ws ps (mayC2 X) (.returned (ptV f l true)) _ := ⟨f, l, F2, wv2, rfl, hb1, hb2, hmF, hf2, hfF⟩
  obtain ⟨z0, z1, z2⟩ := end_cells (c0 := .int .u32 (f : Int)) (c1 := .int .u32 (l : Int)) (c2 := .bool true) (.cells #[.int .u32 (f : Int), .int .u32 (l : Int), .bool true] 63) e1
  have HE := Hid.mk hE
  have Z0 := Hid.mk z0
  have Z1 := Hid.mk z1
  have Z2 := Hid.mk z2
  clear hE z0 z1 z2 hb1 hb2 hm2 hf2 hfr2 e1 hmF hfF
  unfold set3P at HE Z0 Z1 Z2
  go_wp2
  refine bodyPost_ret (v := ptV f l true) ?_ rfl HE.out
  simp [results, Try.results56, go_sem, Z0.out, Z1.out, Z2.out]
set_option maxHeartbeats 2000000 in
set_option maxRecDepth 100000 in
theorem addPlus_any {k : Int} {wd : Wd} {v : Value} {x : Vt} (hx : AddF 31 x) : AddG 55 ⟨k, wd, v, [x]⟩ (loopC (prtOf x.pt)) (leaves x.pt) := by
  intro S w mb kb ws ps F wv hS hm hf hv hl
  obtain ⟨ao, cap, hvv⟩ := hv.parts.1.slice
  obtain ⟨X, hX⟩ : ∃ X, X = prtOf x.pt := ⟨_, rfl⟩
  rw [← hX]
  dsimp only at hvv
  subst hvv
  have HV := Hid.mk hv
  obtain ⟨g, off, rfl, hgS, hgl, hcell⟩ := hv.parts.1.get (j := 0) (x := x) rfl
  obtain ⟨q0, q1, q2⟩ := getN hcell
  rw [Nat.zero_mul, Nat.add_zero] at q0 q1 q2
  have hxv := hv.parts.2.2.2 x (by simp)
  obtain ⟨xa, xc, hxs⟩ := hxv.parts.1.slice
  have HX := Hid.mk hx
  obtain ⟨kk, kw, kv, kl⟩ := x
  dsimp only at hxs q0 q1 q2
  subst hxs
  have hkl := hxv.parts.2.2.1
  dsimp only at hkl
  obtain ⟨W1, hW1⟩ : ∃ W, W = (w.alloc (.cells #[.int .i64 k, .string ⟨wd.toArray⟩, .slice (some ⟨g, off, none⟩) 1 cap] 24)).alloc (.cells #[.int .u32 0, .int .u32 0, .bool false] 63) := ⟨_, rfl⟩
  have hbW : Below w.heap.size w W1 := by rw [hW1]; exact ((Below.refl _ _).alloc (Nat.le_refl _) _).alloc (by simp) _
  have hsz : W1.heap.size = w.heap.size + 2 := by rw [hW1]; simp
  have hcb : W1.heap[w.heap.size + 1]? = some (.cells #[.int .u32 0, .int .u32 0, .bool false] 63 (0, 0)) := by rw [hW1]; exact (by simpa using heap_alloc_new (w.alloc (.cells #[.int .i64 k, .string ⟨wd.toArray⟩, .slice (some ⟨g, off, none⟩) 1 cap] 24)) _)
  have hLowP : Low (Plus S w.heap.size (w.heap.size + 2)) W1 := by have := hS.plus hbW.size; rw [hsz] at this; exact this
  have HM1 := Hid.mk (hm.plus hS hbW (w.heap.size + 2))
  have hFrW : Fr S w W1 := fr_below hS hbW
  have hkS : S kb := hm.sk
  have hkl2 : kb < w.heap.size := hS _ hkS
  have C := Hid.mk (HX.out (Plus S w.heap.size (w.heap.size + 2)) W1 mb kb ws ps F wv hLowP HM1.out hf ((hxv.below hbW).sub (fun b hb _ => .inl hb)) hl)
  have HW1 := Hid.mk hW1
  have HFW := Hid.mk hFrW
  have HCB := Hid.mk hcb
  have HSZ := Hid.mk hsz
  have HXX := Hid.mk hX
  have HLOW := Hid.mk hS
  have HSK := Hid.mk hkS
  rw [← hX] at C
  clear hv hm hf hl hxv hx hcell hbW hsz hcb hLowP hFrW hkS hkl2 hW1 hX HX hS
  show Calls Try.prog _ #[_, .agg #[.int .i64 k, .string ⟨wd.toArray⟩, .slice (some ⟨g, off, none⟩) 1 cap]] w _
  go_enter Try.func55, Try.ntmps55
  go_wp2_with fail
  rw [← HW1.out]
  refine C.out.mono ?_
  rintro e w1 ⟨f, l, F2, wv2, rfl, hb1, hb2, hm2, hf2, hfr2⟩
  have e1 := (hfr2.block (w.heap.size + 1) (.inr ⟨by omega, by omega⟩)).trans HCB.out
  have hlt1 : w.heap.size + 1 < w1.heap.size := lt_of_block e1
  have hLow1 : Low (Plus S w.heap.size (w.heap.size + 2)) w1 := Low.fr (w := W1) (fun k hk => by
    rcases hk with hk | hk
    · have := HLOW.out k hk; have := HFW.out.size; omega
    · have := HSZ.out; omega) hfr2
  obtain ⟨o3, ho3⟩ : ∃ o, o = Obj.cells #[.int .u32 (f : Int), .int .u32 (l : Int), .bool X.empty] 63 := ⟨_, rfl⟩
  have hm3 := (hm2.below hLow1 ((Below.refl _ _).alloc (Nat.le_refl _) o3)).drew
  have hfr3 := (hfr2.alloc (fun k hk => by
    rcases hk with hk | hk
    · have := HLOW.out k hk; have := HFW.out.size; omega
    · have := HSZ.out; omega) o3).drew
  have hb3 : (w1.alloc o3).drew.heap[w1.heap.size]? = some o3 := heap_alloc_new w1 o3
  have hmbn : mb ≠ w1.heap.size := by have := hm2.lt; omega
  have e3 : (w1.alloc o3).drew.heap[w.heap.size + 1]? = some (.cells #[.int .u32 0, .int .u32 0, .bool false] 63 (0, 0)) := by
    show (w1.alloc o3).heap[w.heap.size + 1]? = _
    rw [heap_alloc_old _ _ hlt1]; exact e1
  have hmb1 : mb ≠ w.heap.size + 1 := fun e => hm2.no (.inr ⟨by omega, by omega⟩)
  have CL := Hid.mk (link_any hm3.fol (fun i hi => (hf2 i hi).1) l f hb2.1 hb1.1)
  have HM3 := Hid.mk hm3
  have HFR3 := Hid.mk hfr3
  have HB3 := Hid.mk hb3
  have HB1 := Hid.mk hb1
  have HB2 := Hid.mk hb2
  have HF2 := Hid.mk hf2
  have HE3 := Hid.mk e3
  have HMN := Hid.mk hmbn
  have HMN1 := Hid.mk hmb1
  have HO3 := Hid.mk ho3
  have HLT1 := Hid.mk hlt1
  obtain ⟨em, hem⟩ : ∃ b, b = X.empty := ⟨_, rfl⟩
  rw [← hem] at HO3 ⊢
  have HEM := Hid.mk hem
  rw [HO3.out] at CL
  clear hem hm3 hfr3 hb3 hb1 hb2 hf2 e3 hmbn ho3 hm2 hfr2 hLow1 e1 hmb1 hlt1
  go_wp2_with fail
  go_region_law (go_simp; refine CL.out.mono ?_; rintro e w4 ⟨rfl, hfol4, hlk4⟩)
  all_goals (
    rw [← HO3.out] at hlk4
    have hm4 := HM3.out.link hlk4 hfol4
    have hfr4 := HFR3.out.link hlk4 HM3.out.no
    have hb4 := (hlk4.block w1.heap.size HMN.out.symm).trans HB3.out
    have e4 := (hlk4.block (w.heap.size + 1) HMN1.out.symm).trans HE3.out
    rw [HO3.out] at hb4
    obtain ⟨⟨r0, r1, r2⟩, ⟨f0, f1, f2⟩⟩ := three_cells e4
    obtain ⟨⟨s0, s1, s2⟩, _⟩ := three_cells hb4
    obtain ⟨hmF, hfF⟩ := add_end2 (b := w.heap.size + 1) (c0 := .int .u32 (f : Int)) (c1 := .int .u32 (l : Int)) (c2 := .bool em) HLOW.out HFW.out hfr4 hm4 HSK.out (by omega) (by omega)
    have hE : AddE S w mb kb ws ps (loopC X) (.returned (ptV f l em)) _ := ⟨f, l, _, wv2, by rw [HEM.out]; rfl, HB1.out, HB2.out, hmF, FolOf.congr (HF2.out.link HB2.out HB1.out) (fun p => by rw [loopC, upP_append, cross_up, List.append_assoc]), hfF⟩
    obtain ⟨⟨z0, z1, z2⟩, _⟩ := three_cells (set3P_at (c0 := .int .u32 (f : Int)) (c1 := .int .u32 (l : Int)) (c2 := .bool em) e4)
    have HE := Hid.mk hE
    have Z0 := Hid.mk z0
    have Z1 := Hid.mk z1
    have Z2 := Hid.mk z2
    clear hE z0 z1 z2 hmF hfF hm4 hfr4 hb4 e4 hfol4 hlk4
    unfold set3P at HE Z0 Z1 Z2
    go_wp2
    refine bodyPost_ret (v := ptV f l em) ?_ rfl HE.out
    simp [results, Try.results55, go_sem, Z0.out, Z1.out, Z2.out])

set_option maxHeartbeats 2000000 in
set_option maxRecDepth 100000 in
theorem addStar_any {k : Int} {wd : Wd} {v : Value} {x : Vt} (hx : AddF 31 x) : AddG 54 ⟨k, wd, v, [x]⟩ (mayC2 (loopC (prtOf x.pt))) (leaves x.pt) := by
  intro S w mb kb ws ps F wv hS hm hf hv hl
  obtain ⟨ao, cap, hvv⟩ := hv.parts.1.slice
  have hpl := addPlus_any (k := k) (wd := wd) (v := v) hx
  obtain ⟨X, hX⟩ : ∃ X, X = loopC (prtOf x.pt) := ⟨_, rfl⟩
  rw [← hX] at hpl ⊢
  dsimp only at hvv
  subst hvv
  simp only [List.length_cons, List.length_nil, Nat.zero_add] at hpl hv ⊢
  obtain ⟨W1, hW1⟩ : ∃ W, W = (w.alloc (.cells #[.int .i64 k, .string ⟨wd.toArray⟩, .slice ao 1 cap] 24)).alloc (.cells #[.int .u32 0, .int .u32 0, .bool false] 63) := ⟨_, rfl⟩
  have hbW : Below w.heap.size w W1 := by rw [hW1]; exact ((Below.refl _ _).alloc (Nat.le_refl _) _).alloc (by simp) _
  have hsz : W1.heap.size = w.heap.size + 2 := by rw [hW1]; simp
  have hcb : W1.heap[w.heap.size + 1]? = some (.cells #[.int .u32 0, .int .u32 0, .bool false] 63 (0, 0)) := by rw [hW1]; exact (by simpa using heap_alloc_new (w.alloc (.cells #[.int .i64 k, .string ⟨wd.toArray⟩, .slice ao 1 cap] 24)) _)
  have hLowP : Low (Plus S w.heap.size (w.heap.size + 2)) W1 := by have := hS.plus hbW.size; rw [hsz] at this; exact this
  have HM1 := Hid.mk (hm.plus hS hbW (w.heap.size + 2))
  have hFrW : Fr S w W1 := fr_below hS hbW
  have hkS : S kb := hm.sk
  have C := Hid.mk (hpl (Plus S w.heap.size (w.heap.size + 2)) W1 mb kb ws ps F wv hLowP HM1.out hf ((hv.below hbW).sub (fun b hb _ => .inl hb)) hl)
  have HW1 := Hid.mk hW1
  have HFW := Hid.mk hFrW
  have HCB := Hid.mk hcb
  have HSZ := Hid.mk hsz
  have HLOW := Hid.mk hS
  have HSK := Hid.mk hkS
  clear hv hm hf hl hx hbW hsz hcb hLowP hFrW hkS hW1 hX hS hpl
  show Calls Try.prog _ #[_, .agg #[.int .i64 k, .string ⟨wd.toArray⟩, .slice ao 1 cap]] w _
  go_enter Try.func54, Try.ntmps54
  go_wp2_with fail
  rw [← HW1.out]
  refine C.out.mono ?_
  rintro e w1 ⟨f, l, F2, wv2, rfl, hb1, hb2, hm2, hf2, hfr2⟩
  have e1 := (hfr2.block (w.heap.size + 1) (.inr ⟨by omega, by omega⟩)).trans HCB.out
  have hlt1 : w.heap.size + 1 < w1.heap.size := lt_of_block e1
  obtain ⟨⟨r0, r1, r2⟩, ⟨f0, f1, f2⟩⟩ := three_cells e1
  obtain ⟨hmF, hfF⟩ := add_end (b := w.heap.size + 1) (c0 := .int .u32 (f : Int)) (c1 := .int .u32 (l : Int)) (c2 := .bool true) (.cells #[.int .u32 (f : Int), .int .u32 (l : Int), .bool true] 63) HLOW.out HSZ.out HFW.out hfr2 hm2 HSK.out (by omega) (by omega)
  have hE : AddE S w mb kb ws ps (mayC2 X) (.returned (ptV f l true)) _ := ⟨f, l, F2, wv2, rfl, hb1, hb2, hmF, hf2, hfF⟩
  obtain ⟨z0, z1, z2⟩ := end_cells (c0 := .int .u32 (f : Int)) (c1 := .int .u32 (l : Int)) (c2 := .bool true) (.cells #[.int .u32 (f : Int), .int .u32 (l : Int), .bool true] 63) e1
  have HE := Hid.mk hE
  have Z0 := Hid.mk z0
  have Z1 := Hid.mk z1
  have Z2 := Hid.mk z2
  clear hE z0 z1 z2 hb1 hb2 hm2 hf2 hfr2 e1 hmF hfF
  unfold set3P at HE Z0 Z1 Z2
  go_wp2
  refine bodyPost_ret (v := ptV f l true) ?_ rfl HE.out
  simp [results, Try.results54, go_sem, Z0.out, Z1.out, Z2.out]
end Go.Proofs.Ythdnpddfdlhlaaa
