/- Drop and Match of the document: facts that are left. -/
import Derived.Test.YtiabnjjdeikefaaSRef1
namespace Go.Proofs.Ytiabnjjdeikefaa
open Go.RowKit

theorem filt_snoc_yes {p : Tri → Bool} {L : List Tri} {i : Nat} {x : Tri} (hx : L[i]? = some x) (h : p x = true) : (L.take (i + 1)).filter p = (L.take i).filter p ++ [x] := by
  rw [List.take_add_one, hx, List.filter_append]; simp [h]
theorem filt_snoc_no {p : Tri → Bool} {L : List Tri} {i : Nat} {x : Tri} (hx : L[i]? = some x) (h : p x = false) : (L.take (i + 1)).filter p = (L.take i).filter p := by
  rw [List.take_add_one, hx, List.filter_append]; simp [h]
theorem ownsRow_base {w : World} {B C n k : Nat} {e : TypeId} {v : Value} {xs : List Value} (h : w.ownsRow B e k v n xs) (hC : C ≤ B) : w.ownsRow C e k v n xs := by
  refine ⟨h.1, ?_⟩
  rcases h.2 with h0 | ⟨g, cap, cur, e1, e2, e3⟩
  · exact .inl h0
  · exact .inr ⟨g, cap, cur, e1, Nat.le_trans hC e2, e3⟩
theorem box3_below {w W1 wr : World} {t : Tri} (hW1 : W1 = w.alloc (.cells #[strV t.1, strV t.2.1, strV t.2.2] 25)) (hb : Below W1.heap.size W1 wr) : wr.cell? ⟨w.heap.size, 0, none⟩ = some (strV t.1) ∧ wr.cell? ⟨w.heap.size, 1, none⟩ = some (strV t.2.1) ∧ wr.cell? ⟨w.heap.size, 2, none⟩ = some (strV t.2.2) := by
  have hx : W1.heap[w.heap.size]? = some (.cells #[strV t.1, strV t.2.1, strV t.2.2] 25) := by rw [hW1]; exact box_at w _
  exact (box3 ((hb.block _ (lt_of_block hx)).trans hx)).1
set_option maxHeartbeats 4000000 in
set_option maxRecDepth 100000 in
theorem rDrop_any {S : Nat → Prop} {w : World} {v : Value} {L : List Tri} (h : TrisS S w v L) (hl : L.length ≤ 1000000) (t : Tri) :
    Calls Try.prog 32 #[v, encT t] w fun e w' => ∃ v', e = .returned v' ∧ w'.ownsRow w.heap.size 25 3 v' (dropT L t).length ((dropT L t).flatMap cs3) ∧ Below w.heap.size w w' := by
  obtain ⟨i0, hi0, hz0, hz1, hz2⟩ := info_parts infoT
  obtain ⟨a1, c1, hv1⟩ := h.slice
  subst hv1
  have H1 := Hid.mk h
  obtain ⟨n, hn⟩ : ∃ n, n = L.length := ⟨_, rfl⟩
  rw [← hn] at H1 hl ⊢
  have HN := Hid.mk hn
  clear hn h
  obtain ⟨W1, hW1⟩ : ∃ W1, W1 = w.alloc (.cells #[strV t.1, strV t.2.1, strV t.2.2] 25) := ⟨_, rfl⟩
  have HW1 := Hid.mk hW1
  have HB1 : Hid (Below w.heap.size w W1) := Hid.mk (by rw [hW1]; exact (Below.refl _ _).alloc (Nat.le_refl _) _)
  clear hW1
  go_enter Try.func32, Try.ntmps32
  go_wp2_with fail
  rw [← HW1.out]
  go_loopw [5, 6] (fun s5 c wr => ∃ (i : Nat) (vl : Value), vl = s5 ∧ i ≤ n ∧ c = .int .i64 i ∧ wr.ownsRow W1.heap.size 25 3 vl (dropT (L.take i) t).length ((dropT (L.take i) t).flatMap cs3) ∧ Below W1.heap.size W1 wr) (fun _ c _ => n - (intOf c).toNat)
  case atStart => exact ⟨0, _, rfl, Nat.zero_le _, rfl, ⟨rfl, .inl ⟨rfl, rfl⟩⟩, Below.refl _ _⟩
  case round =>
    obtain ⟨i, vl, rfl, hi, rfl, hr4, hbq⟩ := hrel
    obtain ⟨av, cv, hvl⟩ := own_slice hr4
    subst hvl
    obtain ⟨nl, hnl⟩ : ∃ nl, nl = (dropT (L.take i) t).length := ⟨_, rfl⟩
    have hnll : nl ≤ 1000000 := by
      rw [hnl]
      have h1 := List.length_filter_le (fun x => decide (x ≠ t)) (L.take i)
      rw [List.length_take] at h1
      unfold dropT; omega
    rw [← hnl] at hr4 ⊢
    have HNL := Hid.mk hnl
    have HR4 := Hid.mk hr4
    have HBQ := Hid.mk hbq
    have HBW := Hid.mk (HB1.out.trans (hbq.mono HB1.out.size))
    have hs4 : W1.heap.size ≤ wr.heap.size := hbq.size
    clear hr4 hnl
    by_cases hlt : i < n
    · have hltI : (i : Int) < (n : Int) := by omega
      obtain ⟨x, hx⟩ : ∃ x, L[i]? = some x := ⟨_, List.getElem?_eq_getElem (by rw [← HN.out]; exact hlt)⟩
      obtain ⟨g1, o1, hao, _, _, hc1⟩ := (H1.out.below HBW.out).get hx
      subst hao
      obtain ⟨p0, p1, p2⟩ := get3 hc1
      obtain ⟨b0, b1, b2⟩ := box3_below HW1.out hbq
      have heq := eqT x t
      have HX := Hid.mk hx
      clear hx hbq hc1
      by_cases hxt : x = t
      · rw [decide_eq_true hxt] at heq
        have HR5 : Hid (wr.ownsRow W1.heap.size 25 3 (.slice av nl cv) (dropT (L.take (i + 1)) t).length ((dropT (L.take (i + 1)) t).flatMap cs3)) := Hid.mk (by
          have e : dropT (L.take (i + 1)) t = dropT (L.take i) t := filt_snoc_no HX.out (by simp [hxt])
          rw [e, ← HNL.out]; exact HR4.out)
        clear hxt
        go_wp2_with fail
        go_region
        go_wp2
        go_roundw
        case rel => exact ⟨i + 1, _, rfl, by omega, by go_num, HR5.out.drew, HBQ.out.drew⟩
        case measure => simp [intOf]; omega
      · rw [decide_eq_false hxt] at heq
        have HE : Hid (dropT (L.take (i + 1)) t = dropT (L.take i) t ++ [x]) := Hid.mk (filt_snoc_yes HX.out (by simp [hxt]))
        clear hxt
        go_wp2_with fail
        go_region
        obtain ⟨W2, hW2⟩ : ∃ W2, W2 = wr.drew := ⟨_, rfl⟩
        have q0 : W2.cell? ⟨g1, o1 + i * 3, none⟩ = some (strV x.1) := by rw [hW2]; exact p0
        have q1 : W2.cell? ⟨g1, o1 + i * 3 + 1, none⟩ = some (strV x.2.1) := by rw [hW2]; exact p1
        have q2 : W2.cell? ⟨g1, o1 + i * 3 + 2, none⟩ = some (strV x.2.2) := by rw [hW2]; exact p2
        have HR5 : Hid (W2.ownsRow W1.heap.size 25 3 (.slice av nl cv) nl ((dropT (L.take i) t).flatMap cs3)) := Hid.mk (by rw [hW2]; exact HR4.out.drew)
        have HB5 : Hid (Below W1.heap.size W1 W2) := Hid.mk (by rw [hW2]; exact HBQ.out.drew)
        have hs5 : W1.heap.size ≤ W2.heap.size := HB5.out.size
        rw [← hW2]
        clear hW2 p0 p1 p2 b0 b1 b2 heq
        go_wp2_with (at_builtin; refine wpList_append_lies _ rfl _ _ _ rfl W1.heap.size 25 i0 _ 3 48 Try.underlying34 hi0 hz0 hz1 hz2 rfl (by decide) (.slice av nl cv) _ _ (by rfl) (HR5.out.alloc _) ⟨W2.heap.size, 0, none⟩ 1 1 [strV x.1, strV x.2.1, strV x.2.2] (by rfl) (by rfl) ?d1 ?d2 (by decide) ?d3 ?d4 ?d5 (W2.heap.size + 1) (by simp) ?_)
        case d1 => exact World.news_of_block (cs := #[strV x.1, strV x.2.1, strV x.2.2]) (t := 25) (fr := (0, 0)) (heap_alloc_new W2 _)
        case d2 => simp [Value.oneCell']
        case d3 => unfold maxLen; omega
        case d4 => omega
        case d5 => simp; omega
        intro gg cap2 w9 hown9 hgrow9 hat9 hlt9
        have ba : Below W2.heap.size W2 (W2.alloc (.cells #[strV x.1, strV x.2.1, strV x.2.2] 25)) := (Below.refl _ _).alloc (Nat.le_refl _) _
        have HB9 : Hid (Below W1.heap.size W1 w9) := Hid.mk ((HB5.out.trans (ba.mono HB5.out.size)).grown hgrow9 (by simp; omega) (fun k e => (HR5.out.lt k e).1))
        have HR9 : Hid (w9.ownsRow W1.heap.size 25 3 (.slice (some ⟨gg, 0, none⟩) (nl + 1) cap2) (dropT (L.take (i + 1)) t).length ((dropT (L.take (i + 1)) t).flatMap cs3)) := Hid.mk (by
          rw [HE.out, List.length_append, ← HNL.out, List.flatMap_append]
          have h2 := hown9
          simpa [cs3] using h2)
        clear hown9 hgrow9 hat9 hlt9 ba
        go_wp2
        go_roundw
        case rel => exact ⟨i + 1, _, rfl, by omega, by go_num, HR9.out, HB9.out⟩
        case measure => simp [intOf]; omega
    · have hltI : ¬ (i : Int) < (n : Int) := by omega
      have HF : Hid (wr.ownsRow w.heap.size 25 3 (.slice av nl cv) (dropT L t).length ((dropT L t).flatMap cs3)) := Hid.mk (by
        have e : L.take i = L := List.take_of_length_le (by rw [← HN.out]; omega)
        have h1 := HR4.out
        have h2 := HNL.out
        rw [e] at h1 h2
        rw [← h2]
        exact ownsRow_base h1 HB1.out.size)
      go_wp2
      go_ret
      exact ⟨_, rfl, HF.out, HBW.out⟩
end Go.Proofs.Ytiabnjjdeikefaa
