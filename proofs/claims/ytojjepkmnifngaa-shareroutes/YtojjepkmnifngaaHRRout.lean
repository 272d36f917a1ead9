/- A cell's parts, and Route: the document's. -/
import Derived.Test.YtojjepkmnifngaaHRMay
import Derived.Test.YtojjepkmnifngaaHRoute
namespace Go.Proofs.Ytojjepkmnifngaa
open Go.RowKit

/-- A cell's parts from a place on; nothing ahead of it. -/
def cooL (L : List Int) (c : Int) (p : Nat) : List Int := (List.range L.length).map fun j => if j < p then 0 else coordI L j c
theorem cooL_len (L : List Int) (c : Int) (p : Nat) : (cooL L c p).length = L.length := by simp [cooL]
theorem cooL_all (L : List Int) (c : Int) : cooL L c L.length = List.replicate L.length 0 := by
  unfold cooL
  apply List.ext_getElem (by simp)
  intro i h1 h2
  simp at h1
  simp [h1]
theorem cooL_set (L : List Int) (c : Int) (q : Nat) : (cooL L c (q + 1)).set q (coordI L q c) = cooL L c q := by
  unfold cooL
  apply List.ext_getElem (by simp)
  intro i h1 h2
  simp at h1
  rw [List.getElem_set]
  by_cases e : q = i
  · subst e; simp
  · rw [if_neg e]
    simp only [List.getElem_map, List.getElem_range]
    by_cases h : i < q
    · rw [if_pos (by omega), if_pos h]
    · rw [if_neg (by omega), if_neg h]
theorem cooL_at {L : List Int} {c : Int} {j : Nat} (hj : j < L.length) : (cooL L c 0)[j]? = some (coordI L j c) := by
  unfold cooL
  rw [List.getElem?_map, List.getElem?_range hj]
  simp
theorem drop_prod {L : List Int} {q : Nat} {s : Int} (h : L[q]? = some s) : prodI (L.drop q) = s * prodI (L.drop (q + 1)) := by
  obtain ⟨hq, rfl⟩ := List.getElem?_eq_some_iff.1 h
  rw [List.drop_eq_getElem_cons hq, prodI]
set_option maxRecDepth 100000 in
set_option maxHeartbeats 2000000 in
theorem coords_any {S : Nat → Prop} {w : World} {v : Value} {L : List Int} (h : IntZ S w v L) (hL : okL L = true) (c : Int) (h0 : 0 ≤ c) (h64 : c ≤ 64) :
    Calls Try.prog 23 #[v, .int .i64 c] w fun e w' => e = .returned (.slice (some ⟨w.heap.size, 0, none⟩) L.length L.length) ∧ VRow w' w.heap.size 3 ((cooL L c 0).flatMap csZ) ∧ Below w.heap.size w w' := by
  obtain ⟨i0, hi0, hz0, hz1, hz2⟩ := info_parts infoZ
  obtain ⟨ao, cap, rfl⟩ := h.slice
  have hn16 := (okL_iff.1 hL).1
  have HP : Hid (∀ q, 1 ≤ prodI (L.drop q)) := Hid.mk (fun q => prodI_pos (fun x hx => (okL_iff.1 hL).2.1 x (List.mem_of_mem_drop hx)))
  have HOK := Hid.mk hL
  have H := Hid.mk h
  have HE : Hid (prodI (L.drop L.length) = 1) := Hid.mk (by rw [List.drop_length]; rfl)
  have HC : Hid (cooL L c L.length = List.replicate L.length 0) := Hid.mk (cooL_all L c)
  obtain ⟨n, hn⟩ : ∃ n, n = L.length := ⟨_, rfl⟩
  rw [← hn] at H hn16 HE HC ⊢
  have HN := Hid.mk hn
  clear h hL hn
  have HM := Hid.mk (made_row w (.int .i64 0) n 3)
  have HB0 : Hid (Below w.heap.size w (w.alloc (.cells (madeCells #[.int .i64 0] n) 3))) := Hid.mk ((Below.refl _ _).alloc (Nat.le_refl _) _)
  go_enter Try.func23, Try.ntmps23
  go_wp2_with (at_make; refine wpList_make_row _ rfl _ _ 24 rfl 3 i0 (.int .i64 0) Try.underlying24 hi0 hz0 hz1 rfl _ _ n rfl rfl (by rw [hz2]; omega) (by omega) ?_)
  obtain ⟨W0, hW0⟩ : ∃ W, W = w.alloc (.cells (madeCells #[.int .i64 0] n) 3) := ⟨_, rfl⟩
  rw [← hW0] at HM HB0 ⊢
  clear hW0
  have HM0 : Hid (VRow W0 w.heap.size 3 ((cooL L c n).flatMap csZ)) := Hid.mk (by rw [HC.out, flat_Z, List.map_replicate]; exact HM.out)
  go_wp2_with fail
  go_loopw [1, 6] (fun x y wr => ∃ (p : Nat) (z : Int), p ≤ n ∧ z = c / prodI (L.drop p) ∧ x = .int .i64 z ∧ y = .int .i64 ((p : Int) - 1) ∧ VRow wr w.heap.size 3 ((cooL L c p).flatMap csZ) ∧ Below w.heap.size w wr) (fun _ y _ => (intOf y + 1).toNat)
  case atStart => exact ⟨n, c, Nat.le_refl _, by rw [HE.out, Int.ediv_one], rfl, rfl, HM0.out, HB0.out⟩
  case round =>
    obtain ⟨p, z, hp, hz, rfl, rfl, hrow, hbw⟩ := hrel
    obtain ⟨wx, hwx⟩ : ∃ wx, wx = wr := ⟨_, rfl⟩
    subst hwx
    have HROW := Hid.mk hrow
    have HBW := Hid.mk hbw
    have hz0' : 0 ≤ z := by rw [hz]; exact Int.ediv_nonneg h0 (by have := HP.out p; omega)
    have hz64 : z ≤ 64 := by rw [hz]; exact Int.le_trans (Int.ediv_le_self _ h0) h64
    have HZ := Hid.mk hz
    clear hrow hbw hz
    cases p with
    | zero =>
      obtain ⟨y, hy⟩ : ∃ y : Int, y = ((0 : Nat) : Int) - 1 := ⟨_, rfl⟩
      rw [← hy]
      have hyn : ¬ 0 ≤ y := by omega
      clear hy
      go_wp2
      go_ret
      exact ⟨rfl, HROW.out, HBW.out⟩
    | succ q =>
      obtain ⟨s, hs⟩ : ∃ s, L[q]? = some s := ⟨_, List.getElem?_eq_getElem (by rw [← HN.out]; omega)⟩
      obtain ⟨hs1, hs2⟩ := okL_mem HOK.out (List.mem_of_getElem? hs)
      obtain ⟨g, o, rfl, _, _, hc⟩ := (H.out.below HBW.out).get hs
      have q1 := getZ hc
      rw [Nat.mul_one] at q1
      have hqL : q < L.length := by have := HN.out; omega
      obtain ⟨q2, q3⟩ := HROW.out.getZ (i := q) (z := 0) (by
        unfold cooL
        rw [List.getElem?_map, List.getElem?_range hqL]
        simp)
      obtain ⟨y, hy⟩ : ∃ y : Int, y = ((q + 1 : Nat) : Int) - 1 := ⟨_, rfl⟩
      obtain ⟨yn, hyn⟩ : ∃ yn : Nat, yn = q := ⟨_, rfl⟩
      have hyq : y = (q : Int) := by omega
      rw [← hy, hyq]
      have hqI : (q : Int) < (n : Int) := by omega
      have hs0 : ¬ s = 0 := by omega
      have hs0B : (s == 0) = false := beq_eq_false_iff_ne.2 hs0
      obtain ⟨r, hr⟩ : ∃ r, z.tmod s = r := ⟨_, rfl⟩
      obtain ⟨d, hd⟩ : ∃ d, z.tdiv s = d := ⟨_, rfl⟩
      have HR : Hid (r = coordI L q c) := Hid.mk (by
        rw [← hr, Int.tmod_eq_emod_of_nonneg hz0', HZ.out, coordI]
        congr 1
        rw [List.getD_eq_getElem?_getD, hs]; rfl)
      have HDD : Hid (d = c / prodI (L.drop q)) := Hid.mk (by
        rw [← hd, Int.tdiv_eq_ediv_of_nonneg hz0', HZ.out, drop_prod hs, Int.mul_comm, Int.ediv_ediv_of_nonneg (by have := HP.out (q + 1); omega)])
      have hr1 : 0 ≤ r ∧ r < 64 := by
        rw [← hr, Int.tmod_eq_emod_of_nonneg hz0']
        have h1 := Int.emod_nonneg z hs0
        have h2 := Int.emod_lt_of_pos z (show 0 < s by omega)
        omega
      have hd1 : 0 ≤ d ∧ d ≤ 64 := by
        rw [← hd, Int.tdiv_eq_ediv_of_nonneg hz0']
        exact ⟨Int.ediv_nonneg hz0' (by omega), Int.le_trans (Int.ediv_le_self _ hz0') hz64⟩
      obtain ⟨hr1, hr2⟩ := hr1
      obtain ⟨hd1, hd2⟩ := hd1
      have HROW2 : Hid (VRow (wx.setCell ⟨w.heap.size, q, none⟩ (.int .i64 r)) w.heap.size 3 ((cooL L c q).flatMap csZ)) := Hid.mk (by
        rw [← cooL_set L c q, ← HR.out]
        exact HROW.out.setZ r)
      have HBW2 : Hid (Below w.heap.size w (wx.setCell ⟨w.heap.size, q, none⟩ (.int .i64 r))) := Hid.mk (HBW.out.setCell (p := ⟨w.heap.size, q, none⟩) (Nat.le_refl _) _)
      have hgne : ¬ g = w.heap.size := by
        intro e
        obtain ⟨g', o', e1, _, hl, _⟩ := H.out.get hs
        injection e1 with e1
        injection e1 with e1
        omega
      have hgne2 : ¬ w.heap.size = g := fun e => hgne e.symm
      clear hs hc hy hyn hyq
      go_wp2
      go_roundw
      case rel => exact ⟨q, d, by omega, HDD.out, rfl, by go_num, HROW2.out, HBW2.out⟩
      case measure => simp [intOf]
end Go.Proofs.Ytojjepkmnifngaa
