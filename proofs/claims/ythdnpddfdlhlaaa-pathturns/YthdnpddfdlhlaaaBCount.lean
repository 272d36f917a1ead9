/- Flat of the document, flat of the statements: which answer. -/
import Derived.Test.YthdnpddfdlhlaaaBFlat
import Derived.Test.YthdnpddfdlhlaaaAMath4
namespace Go.Proofs.Ythdnpddfdlhlaaa
open Go.RowKit

/-- How many parts a path has; many, if it is deeper than so much. -/
def cntP : Nat → Pt → Nat
  | 0, _ => 1000
  | d + 1, ⟨_, _, l⟩ => l.foldl (fun n x => if n < 1000 then n + cntP d x else n) 1
theorem cnt_le : ∀ (d : Nat) (t : Pt), cntP d t ≤ 1000 * (d + 1)
  | 0, _ => by simp [cntP]
  | d + 1, ⟨k, w, l⟩ => by
    rw [cntP]
    have key : ∀ (l : List Pt) (n : Nat), n ≤ 1000 * (d + 1 + 1) → l.foldl (fun n x => if n < 1000 then n + cntP d x else n) n ≤ 1000 * (d + 1 + 1) := by
      intro l
      induction l with
      | nil => intro n h; exact h
      | cons x l ih =>
        intro n h
        rw [List.foldl_cons]
        refine ih _ ?_
        have := cnt_le d x
        split <;> omega
    exact key l 1 (by omega)
set_option maxRecDepth 100000 in
set_option maxHeartbeats 4000000 in
theorem rCountV_any {S : Nat → Prop} : ∀ (t : Vt) (d : Nat) (w : World), d ≤ 1000 → VOk S w t →
    Calls Try.prog 49 #[encN t, .int .i64 (d : Int)] w fun e w' => e = .returned (.int .i64 (cntP d t.pt : Int)) ∧ Below w.heap.size w w' := by
  refine Vt.ind (fun k wd v l ih => ?_)
  intro d w hd1000 hok
  obtain ⟨h1, h2, h3, h4⟩ := vok_mk.1 hok
  obtain ⟨ao, cap, hv⟩ := h1.slice
  subst hv
  have H1 := Hid.mk h1
  have H4 := Hid.mk h4
  have IH := Hid.mk ih
  rw [Vt.pt_mk]
  obtain ⟨n, hn⟩ : ∃ n, n = l.length := ⟨_, rfl⟩
  rw [← hn] at h3 H1 ⊢
  have HN := Hid.mk hn
  obtain ⟨o, ho⟩ : ∃ o, o = Obj.cells #[.int .i64 k, .string ⟨wd.toArray⟩, .slice ao n cap] 24 := ⟨_, rfl⟩
  have HO := Hid.mk ho
  have HC : Hid (∀ wr, Below (w.alloc o).heap.size (w.alloc o) wr → wr.cell? ⟨w.heap.size, 2, none⟩ = some (.slice ao n cap)) := Hid.mk (fun wr hb => by
    have h := box_keptQ hb
    rw [HO.out] at h
    simp [World.cell?, h])
  clear h1 h4 ih hok hn ho
  cases d with
  | zero =>
    have HB : Hid (∀ a : Obj, Below w.heap.size w (w.alloc a)) := Hid.mk (fun a => (Below.refl _ _).alloc (Nat.le_refl _) _)
    go_enter Try.func49, Try.ntmps49
    go_wp2
    go_ret
    exact ⟨rfl, HB.out _⟩
  | succ d =>
    obtain ⟨R, hR⟩ : ∃ R, R = cntP (d + 1) ⟨k, wd, l.map Vt.pt⟩ := ⟨_, rfl⟩
    rw [← hR]
    have HR : Hid (R = (l.map Vt.pt).foldl (fun n x => if n < 1000 then n + cntP d x else n) 1) := Hid.mk (by rw [hR, cntP])
    clear hR
    have HLE : Hid (∀ i, ((l.map Vt.pt).take i).foldl (fun n x => if n < 1000 then n + cntP d x else n) 1 ≤ 10000000) := Hid.mk (fun i => by
      have := cnt_le (d + 1) ⟨k, wd, (l.map Vt.pt).take i⟩
      rw [cntP] at this
      omega)
    obtain ⟨dd, hdd⟩ : ∃ z : Int, z = ((d + 1 : Nat) : Int) := ⟨_, rfl⟩
    have hdm : dd - 1 = (d : Int) := by omega
    have hd0 : 0 < dd := by omega
    have hdu : dd ≤ 1000 := by omega
    rw [← hdd]
    obtain ⟨d1, d2⟩ := not_both (a := dd) (b := 0) (by omega)
    have HDM : Hid (IntKind.i64.wrap (dd - 1) = (d : Int)) := Hid.mk (by rw [hdm, IntKind.wrap_i64]; omega)
    have hw := HDM.out
    have hdN : d ≤ 999 := by omega
    clear hdd hdm hd1000
    go_enter Try.func49, Try.ntmps49
    go_wp2_with fail
    go_loopw [5, 6] (fun s c wr => ∃ (i z : Nat), i ≤ n ∧ c = .int .i64 i ∧ s = .int .i64 (z : Int) ∧ ((l.map Vt.pt).take i).foldl (fun n x => if n < 1000 then n + cntP d x else n) 1 = z ∧ Below (w.alloc o).heap.size (w.alloc o) wr) (fun _ c _ => n - (intOf c).toNat)
    case atStart => exact ⟨0, 1, Nat.zero_le _, rfl, rfl, rfl, by rw [HO.out]; exact Below.refl _ _⟩
    case round =>
      obtain ⟨i, z, hi, rfl, rfl, hzz, hbq⟩ := hrel
      have hzle : z ≤ 10000000 := by rw [← hzz]; exact HLE.out i
      have HZ := Hid.mk hzz
      have HBQ := Hid.mk hbq
      have c2 := HC.out _ hbq
      clear hbq hzz
      by_cases hlt : i < n
      · have hltI : (i : Int) < (n : Int) := by omega
        obtain ⟨x, hx⟩ : ∃ x, l[i]? = some x := ⟨_, List.getElem?_eq_getElem (by rw [← HN.out]; exact hlt)⟩
        have HS : Hid (((l.map Vt.pt).take (i + 1)).foldl (fun n x => if n < 1000 then n + cntP d x else n) 1 = if z < 1000 then z + cntP d x.pt else z) := Hid.mk (by
          rw [foldl_take (f := fun n x => if n < 1000 then n + cntP d x else n) (show (l.map Vt.pt)[i]? = some x.pt by rw [List.getElem?_map, hx]; rfl), HZ.out])
        by_cases hz : z < 1000
        · have hzI : (z : Int) < 1000 := by omega
          obtain ⟨g, off, rfl, _, _, hcell⟩ := (H1.out.below (below_boxQ HBQ.out)).get hx
          obtain ⟨q0, q1, q2⟩ := getN hcell
          have hxm := List.mem_of_getElem? hx
          have C := Hid.mk (IH.out x hxm d wr (by omega) ((H4.out x hxm).below (below_boxQ HBQ.out)))
          have hcl := cnt_le d x.pt
          obtain ⟨xa, xc, hxv⟩ := (H4.out x hxm).parts.1.slice
          obtain ⟨xn, hxn⟩ : ∃ n, n = x.kids.length := ⟨_, rfl⟩
          rw [← hxn] at hxv
          rw [if_pos hz] at HS
          obtain ⟨cv, hcv⟩ : ∃ c, c = cntP d x.pt := ⟨_, rfl⟩
          rw [← hcv] at C HS hcl
          obtain ⟨xk, xw, xv, xl⟩ := x
          dsimp only at q0 q1 q2 hxv
          subst hxv
          clear hxn hx hcell hxm hcv
          have hcl2 : cv ≤ 2000000 := by omega
          clear hcl
          go_wp2_with fail
          refine C.out.mono ?_
          rintro e w2 ⟨rfl, hb2⟩
          have HB2 := Hid.mk (HBQ.out.trans (hb2.mono HBQ.out.size))
          clear hb2
          go_wp2
          go_roundw
          case rel => exact ⟨i + 1, z + cv, by omega, by go_num, by go_num, HS.out, HB2.out⟩
          case measure => simp [intOf]; omega
        · have hzI : ¬ (z : Int) < 1000 := by omega
          have HX : Hid (R = z) := Hid.mk (by
            rw [HR.out]
            have key : ∀ (l2 : List Pt) (m : Nat), ¬ m < 1000 → l2.foldl (fun n x => if n < 1000 then n + cntP d x else n) m = m := by
              intro l2
              induction l2 with
              | nil => intro m _; rfl
              | cons y l2 ih => intro m hm; rw [List.foldl_cons, if_neg hm]; exact ih m hm
            rw [← List.take_append_drop i (l.map Vt.pt), List.foldl_append, HZ.out]
            exact key _ z hz)
          clear HS hx
          go_wp2
          go_ret
          exact ⟨by rw [HX.out]; rfl, below_boxQ HBQ.out⟩
      · have hltI : ¬ (i : Int) < (n : Int) := by omega
        have HX : Hid (R = z) := Hid.mk (by rw [HR.out, ← HZ.out, List.take_of_length_le (by rw [List.length_map, ← HN.out]; omega)])
        go_wp2
        go_ret
        exact ⟨by rw [HX.out]; rfl, below_boxQ HBQ.out⟩

/-- Is a path flat? -/
def flatB (t : Pt) : Bool := decide (cntP 40 t ≤ 400)
set_option maxRecDepth 100000 in
set_option maxHeartbeats 2000000 in
theorem rFlatV_any {S : Nat → Prop} {w : World} {t : Vt} (h : VOk S w t) {g : Nat} (hc2 : w.cell? ⟨g, 2, none⟩ = some (.int .i64 t.kind)) (hc3 : w.cell? ⟨g, 3, none⟩ = some (.string ⟨t.word.toArray⟩)) (hc4 : w.cell? ⟨g, 4, none⟩ = some t.val) (hg : g < w.heap.size) :
    Calls Try.prog 28 #[.agg #[.int .i64 0, .slice none 0 0, .slice (some ⟨g, 0, none⟩) 1 1, .slice none 0 0]] w fun e w' => e = .returned (.bool (flatB t.pt)) ∧ Below w.heap.size w w' := by
  obtain ⟨ao, cap, hv⟩ := h.parts.1.slice
  have hkl := h.parts.2.2.1
  have CC := Hid.mk (fun u (hu : Below w.heap.size w u) => rCountV_any t 40 u (by omega) (h.below hu))
  obtain ⟨z, hz⟩ : ∃ z, z = cntP 40 t.pt := ⟨_, rfl⟩
  obtain ⟨R, hR⟩ : ∃ R, R = flatB t.pt := ⟨_, rfl⟩
  have HR : Hid (R = decide (z ≤ 400)) := Hid.mk (by rw [hR, hz]; rfl)
  rw [← hz] at CC
  rw [← hR]
  clear hz hR
  obtain ⟨k, wd, v, l⟩ := t
  dsimp only at hv hkl hc2 hc3 hc4
  subst hv
  obtain ⟨n, hn⟩ : ∃ n, n = l.length := ⟨_, rfl⟩
  rw [← hn] at hc4 CC hkl
  clear h hn
  obtain ⟨o, ho⟩ : ∃ o, o = Obj.cells #[.int .i64 0, .slice none 0 0, .slice (some ⟨g, 0, none⟩) 1 1, .slice none 0 0] 57 := ⟨_, rfl⟩
  have HO := Hid.mk ho
  have HC : Hid (∀ wr, Below (w.alloc o).heap.size (w.alloc o) wr → (wr.cell? ⟨w.heap.size, 1, none⟩ = some (.slice none 0 0) ∧ wr.cell? ⟨w.heap.size, 2, none⟩ = some (.slice (some ⟨g, 0, none⟩) 1 1) ∧ wr.cell? ⟨w.heap.size, 3, none⟩ = some (.slice none 0 0)) ∧ wr.cell? ⟨g, 2, none⟩ = some (.int .i64 k) ∧ wr.cell? ⟨g, 3, none⟩ = some (.string ⟨wd.toArray⟩) ∧ wr.cell? ⟨g, 4, none⟩ = some (.slice ao n cap)) := Hid.mk (fun wr hb => by
    have h := box_keptQ hb
    rw [HO.out] at h
    have hb2 := below_boxQ hb
    exact ⟨by simp [World.cell?, h], (hb2.cell (p := ⟨g, 2, none⟩) hg).trans hc2, (hb2.cell (p := ⟨g, 3, none⟩) hg).trans hc3, (hb2.cell (p := ⟨g, 4, none⟩) hg).trans hc4⟩)
  have HB0 : Hid (Below (w.alloc o).heap.size (w.alloc o) (w.alloc (.cells #[.int .i64 0, .slice none 0 0, .slice (some ⟨g, 0, none⟩) 1 1, .slice none 0 0] 57))) := Hid.mk (by rw [HO.out]; exact Below.refl _ _)
  clear ho hc2 hc3 hc4
  go_enter Try.func28, Try.ntmps28
  go_wp2_with fail
  go_loopw [3] (fun c wr => ∃ i : Nat, i ≤ 1 ∧ c = .int .i64 i ∧ (i = 1 → z ≤ 400) ∧ Below (w.alloc o).heap.size (w.alloc o) wr) (fun c _ => 1 - (intOf c).toNat)
  case atStart => exact ⟨0, Nat.zero_le _, rfl, fun h => absurd h (by omega), HB0.out⟩
  case round =>
    obtain ⟨i, hi, rfl, hz1, hbq⟩ := hrel
    have HBQ := Hid.mk hbq
    have HZ1 := Hid.mk hz1
    obtain ⟨⟨c1, c2, c3⟩, p2, p3, p4⟩ := HC.out _ hbq
    clear hbq hz1
    by_cases hlt : i = 0
    · subst hlt
      go_wp2_with fail
      refine (CC.out _ (below_boxQ HBQ.out)).mono ?_
      rintro e w2 ⟨rfl, hb2⟩
      have HB2 := Hid.mk (HBQ.out.trans (hb2.mono HBQ.out.size))
      clear hb2 c1 c2 c3 p2 p3 p4
      by_cases hz : (400 : Int) < (z : Int)
      · have hd : decide ((400 : Int) < (z : Int)) = true := decide_eq_true hz
        have HX : Hid (R = false) := Hid.mk (by rw [HR.out]; exact decide_eq_false (by omega))
        go_wp2
        go_ret
        exact ⟨by rw [HX.out]; rfl, below_boxQ HB2.out⟩
      · have hd : decide ((400 : Int) < (z : Int)) = false := decide_eq_false hz
        have HX : Hid (z ≤ 400) := Hid.mk (by omega)
        go_wp2
        go_roundw
        case rel => exact ⟨1, by omega, by go_num, fun _ => HX.out, HB2.out⟩
        case measure => simp [intOf]
    · have hi1 : i = 1 := by omega
      subst hi1
      have HX : Hid (R = true) := Hid.mk (by rw [HR.out]; exact decide_eq_true (HZ1.out rfl))
      go_wp2
      go_ret
      exact ⟨by rw [HX.out]; rfl, below_boxQ HBQ.out⟩

set_option maxRecDepth 100000 in
set_option maxHeartbeats 2000000 in
theorem flatV_any {S : Nat → Prop} {w : World} {t : Vt} (h : VOk S w t) :
    Calls Try.prog 9 #[encN t] w fun e w' => e = .returned (.bool (flatB t.pt)) ∧ Below w.heap.size w w' := by
  obtain ⟨ao, cap, hv⟩ := h.parts.1.slice
  have hkl := h.parts.2.2.1
  have CC : Hid (∀ u g, Below w.heap.size w u → g < u.heap.size → u.cell? ⟨g, 2, none⟩ = some (.int .i64 t.kind) → u.cell? ⟨g, 3, none⟩ = some (.string ⟨t.word.toArray⟩) → u.cell? ⟨g, 4, none⟩ = some t.val → Calls Try.prog 28 #[.agg #[.int .i64 0, .slice none 0 0, .slice (some ⟨g, 0, none⟩) 1 1, .slice none 0 0]] u fun e w' => e = .returned (.bool (flatB t.pt)) ∧ Below u.heap.size u w') := Hid.mk (fun u g hu hsz h2 h3 h4 => rFlatV_any (h.below hu) h2 h3 h4 hsz)
  obtain ⟨R, hR⟩ : ∃ R, R = flatB t.pt := ⟨_, rfl⟩
  rw [← hR] at CC ⊢
  obtain ⟨k, wd, v, l⟩ := t
  dsimp only at hv hkl CC
  subst hv
  clear h hR
  show Calls Try.prog _ #[.agg #[.int .i64 k, .string ⟨wd.toArray⟩, .slice ao l.length cap]] w _
  obtain ⟨n, hn⟩ : ∃ n, n = l.length := ⟨_, rfl⟩
  rw [← hn] at CC hkl ⊢
  clear hn
  go_enter Try.func9, Try.ntmps9
  go_wp2_with fail
  refine (CC.out _ (w.heap.size + 1) ?b1 ?b2 ?b3 ?b4 ?b5).mono ?_
  case b1 => exact ((Below.refl _ _).alloc (Nat.le_refl _) _).alloc (by simp) _
  case b2 => simp
  case b3 => simp [go_sem]
  case b4 => simp [go_sem]
  case b5 => simp [go_sem]
  rintro e w1 ⟨rfl, hb1⟩
  have HB1 := Hid.mk hb1
  clear hb1
  go_wp2
  go_ret
  exact ⟨rfl, (((Below.refl _ _).alloc (Nat.le_refl _) _).alloc (by simp) _).trans (HB1.out.mono (by simp; omega))⟩
end Go.Proofs.Ythdnpddfdlhlaaa
