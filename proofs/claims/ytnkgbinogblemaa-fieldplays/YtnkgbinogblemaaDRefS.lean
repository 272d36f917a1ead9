/- The document's field: Send. -/
import Derived.Test.YtnkgbinogblemaaDRefI
namespace Go.Proofs.Ytnkgbinogblemaa
open Go.RowKit

theorem three_set1 {w : World} {b : Nat} {c0 c1 c2 v : Value} {t : TypeId} (h : w.heap[b]? = some (.cells #[c0, c1, c2] t (0, 0))) : (w.setCell ⟨b, 1, none⟩ v).heap[b]? = some (.cells #[c0, v, c2] t (0, 0)) := by simp [World.setCell, Array.getElem?_modify, h]
theorem three_set2 {w : World} {b : Nat} {c0 c1 c2 v : Value} {t : TypeId} (h : w.heap[b]? = some (.cells #[c0, c1, c2] t (0, 0))) : (w.setCell ⟨b, 2, none⟩ v).heap[b]? = some (.cells #[c0, c1, v] t (0, 0)) := by simp [World.setCell, Array.getElem?_modify, h]
def set3 (w : World) (b : Nat) (u0 u1 u2 : Value) : World := ((w.setCell ⟨b, 0, none⟩ u0).setCell ⟨b, 1, none⟩ u1).setCell ⟨b, 2, none⟩ u2
theorem set3_block {w : World} {b : Nat} {c0 c1 c2 : Value} {t : TypeId} (h : w.heap[b]? = some (.cells #[c0, c1, c2] t (0, 0))) (u0 u1 u2 : Value) : (set3 w b u0 u1 u2).heap[b]? = some (.cells #[u0, u1, u2] t (0, 0)) := by
  simp [set3, World.setCell, Array.getElem?_modify, h]
theorem set3_other {w : World} {b k : Nat} (hk : k ≠ b) (u0 u1 u2 : Value) : (set3 w b u0 u1 u2).heap[k]? = w.heap[k]? := by
  unfold set3
  rw [Below.heap_setCell _ ⟨b, 2, none⟩ _ k hk, Below.heap_setCell _ ⟨b, 1, none⟩ _ k hk, Below.heap_setCell _ ⟨b, 0, none⟩ _ k hk]
theorem set3_below {B b : Nat} {a w : World} (h : Below B a w) (hb : B ≤ b) (u0 u1 u2 : Value) : Below B a (set3 w b u0 u1 u2) :=
  ((h.setCell (p := ⟨b, 0, none⟩) hb _).setCell (p := ⟨b, 1, none⟩) hb _).setCell (p := ⟨b, 2, none⟩) hb _
/-- A list as what is appended. -/
theorem DL.cut {S : Nat → Prop} {w : World} {ao : Option Addr} {n cap : Nat} {l : List Pk} (h : DL S w (.slice ao n cap) l) (hn : n = l.length) : Cut w 4 (l.flatMap csP) ao n cap := by
  subst hn
  refine ⟨flat_len csP_len l, fun e => ?_, fun ad e j u hu => ?_⟩
  · subst e
    rcases h.own.2 with ⟨e, h0⟩ | ⟨g, c2, cur, e, _⟩
    · injection e with _ e2 e3; exact ⟨e2, e3⟩
    · injection e with e; cases e
  · subst e
    rcases h.own.2 with ⟨e, _⟩ | ⟨g, c2, cur, e, _, hg, _⟩
    · injection e with e; cases e
    · injection e with e1 _ e3
      injection e1 with e1
      subst e1 e3
      have hj := (List.getElem?_eq_some_iff.1 hu).1
      rw [addr_add, Nat.zero_add]
      refine ⟨?_, lt_of_block hg⟩
      rw [h.own.cellAt j (by rw [flat_len csP_len] at hj; exact hj)]
      exact hu
section
variable {S : Nat → Prop} {w : World} {v : Value} {f : Fd}
set_option maxRecDepth 100000 in
set_option maxHeartbeats 1000000 in
theorem rSend_bad (h : DL S w v f.l) (fr to : Int) (s : ByteArray) (hno : ¬ (isN fr f.nodes ∧ isN to f.nodes ∧ s.size ≤ 1048640)) :
    Calls Try.prog 11 #[encF f v, .int .i64 fr, .int .i64 to, .string s] w fun e w' => e = .returned (.tuple #[encF f v, .int .i64 0, .int .i64 1]) ∧ Below w.heap.size w w' := by
  obtain ⟨ao, cap, hv⟩ := h.slice
  obtain ⟨m, hm⟩ : ∃ n, n = f.l.length := ⟨_, rfl⟩
  rw [← hm] at hv
  subst hv
  unfold encF
  obtain ⟨nd, hnd⟩ : ∃ x : Int, x = (f.nodes : Int) := ⟨_, rfl⟩
  obtain ⟨la, hla⟩ : ∃ x : Int, x = (f.last : Int) := ⟨_, rfl⟩
  rw [← hnd, ← hla]
  have HB : Hid (∀ o1 o2, Below w.heap.size w ((w.alloc o1).alloc o2)) := Hid.mk (fun o1 o2 => ((Below.refl _ _).alloc (Nat.le_refl _) o1).alloc (by simp) o2)
  have hways : fr < 0 ∨ (¬ fr < 0 ∧ nd ≤ fr) ∨ (¬ fr < 0 ∧ ¬ nd ≤ fr ∧ to < 0) ∨ (¬ fr < 0 ∧ ¬ nd ≤ fr ∧ ¬ to < 0 ∧ nd ≤ to) ∨ (¬ fr < 0 ∧ ¬ nd ≤ fr ∧ ¬ to < 0 ∧ ¬ nd ≤ to ∧ (1048640 : Int) < (s.size : Int)) := by
    unfold isN at hno
    by_cases h1 : fr < 0
    · exact .inl h1
    by_cases h2 : nd ≤ fr
    · exact .inr (.inl ⟨h1, h2⟩)
    by_cases h3 : to < 0
    · exact .inr (.inr (.inl ⟨h1, h2, h3⟩))
    by_cases h4 : nd ≤ to
    · exact .inr (.inr (.inr (.inl ⟨h1, h2, h3, h4⟩)))
    refine .inr (.inr (.inr (.inr ⟨h1, h2, h3, h4, ?_⟩)))
    have h5 : ¬ s.size ≤ 1048640 := fun h5 => hno ⟨⟨by omega, by omega⟩, ⟨by omega, by omega⟩, h5⟩
    omega
  clear h hm hno hnd hla
  rcases hways with h1 | ⟨h1, h2⟩ | ⟨h1, h2, h3⟩ | ⟨h1, h2, h3, h4⟩ | ⟨h1, h2, h3, h4, h5⟩
  all_goals (
    go_enter Try.func11, Try.ntmps11
    go_wp2
    refine bodyPost_ret (v := .tuple #[.agg #[.int .i64 nd, .int .i64 la, .slice ao m cap], .int .i64 0, .int .i64 1]) ?_ rfl ⟨rfl, HB.out _ _⟩
    simp [results, Try.results11, go_sem])
set_option maxRecDepth 100000 in
set_option maxHeartbeats 2000000 in
theorem rSend_any (h : DL S w v f.l) (p : Pk) (hp : PkOk f.nodes p) (hl : f.last < 10000) (hll : f.l.length ≤ f.last) :
    Calls Try.prog 11 #[encF f v, .int .i64 p.fr, .int .i64 p.to, .string ⟨p.bs.toArray⟩] w fun e w' => ∃ v', e = .returned (.tuple #[encF (f.add p) v', .int .i64 ((f.last + 1 : Nat) : Int), .int .i64 0]) ∧ DL (fun k => w.heap.size ≤ k ∧ k < w'.heap.size) w' v' (f.add p).l ∧ Below w.heap.size w w' := by
  obtain ⟨i0, hi0, hz0, hz1, hz2⟩ := info_parts infoP
  obtain ⟨ao, cap, hv⟩ := h.slice
  obtain ⟨m, hm⟩ : ∃ n, n = f.l.length := ⟨_, rfl⟩
  rw [← hm] at hv
  subst hv
  have hmb : m ≤ 10000 := by omega
  have HM := Hid.mk hm
  obtain ⟨s, hs⟩ : ∃ s : ByteArray, s = ⟨p.bs.toArray⟩ := ⟨_, rfl⟩
  have hz : s.size = p.bs.length := by rw [hs]; exact size_list _
  have h5 : ¬ (1048640 : Int) < (s.size : Int) := by have := hp.bs; omega
  have h1 : ¬ p.fr < 0 := by have := hp.fr0; omega
  have h3 : ¬ p.to < 0 := by have := hp.to0; omega
  have h2 : ¬ (f.nodes : Int) ≤ p.fr := by have := hp.fr1; omega
  have h4 : ¬ (f.nodes : Int) ≤ p.to := by have := hp.to1; omega
  have h6 : ¬ (16384 : Int) ≤ (m : Int) := by omega
  obtain ⟨z, hze⟩ : ∃ z, z = f.last + 1 := ⟨_, rfl⟩
  have HZ : Hid ((f.last : Int) + 1 = (z : Int)) := Hid.mk (by omega)
  have hzb : z ≤ 10000 := by omega
  obtain ⟨la, hla⟩ : ∃ x : Int, x = (f.last : Int) := ⟨_, rfl⟩
  have hlab : 0 ≤ la ∧ la ≤ 10000 := by omega
  obtain ⟨hlab1, hlab2⟩ := hlab
  rw [← hla] at HZ
  unfold encF
  rw [← hs, ← hla]
  -- behind the new number
  obtain ⟨W1, hW1⟩ : ∃ W1, W1 = (w.alloc (.cells #[.int .i64 (f.nodes : Int), .int .i64 (z : Int), .slice ao m cap] 29)).alloc zF := ⟨_, rfl⟩
  have hs1 : (w.alloc (.cells #[.int .i64 (f.nodes : Int), .int .i64 (z : Int), .slice ao m cap] 29)).heap.size = w.heap.size + 1 := by simp
  have a1 : Below w.heap.size w (w.alloc (.cells #[.int .i64 (f.nodes : Int), .int .i64 (z : Int), .slice ao m cap] 29)) := (Below.refl _ _).alloc (Nat.le_refl _) _
  have b1 : Below w.heap.size w W1 := by rw [hW1]; exact a1.alloc a1.size _
  have a2 : Below (w.alloc (.cells #[.int .i64 (f.nodes : Int), .int .i64 (z : Int), .slice ao m cap] 29)).heap.size (w.alloc (.cells #[.int .i64 (f.nodes : Int), .int .i64 (z : Int), .slice ao m cap] 29)) W1 := by rw [hW1]; exact (Below.refl _ _).alloc (Nat.le_refl _) _
  have k1 : W1.heap[w.heap.size]? = _ := (a2.block _ (by omega)).trans (box_at w _)
  have r1 : W1.heap[w.heap.size + 1]? = some zF := by rw [hW1, ← hs1]; exact box_at _ _
  have hcut := (h.below b1).cut hm
  have HB1 := Hid.mk b1
  have HK1 := Hid.mk k1
  have HR1 := Hid.mk r1
  have HC := Hid.mk hcut
  have HWE := Hid.mk hW1
  have HSE := Hid.mk hs
  have HZE := Hid.mk hze
  have HLA := Hid.mk hla
  clear h hm hp hll hl hs hz hze hla hW1 hs1 a1 a2 b1 k1 r1 hcut
  go_enter Try.func11, Try.ntmps11
  go_wp2_with (at_builtin; rw [HZ.out, ← HWE.out]; refine wpList_append_many rfl _ _ rfl Try.underlying27 hi0 hz0 hz1 hz2 rfl (by decide) (by rfl) (World.ownsRow_nil W1 W1.heap.size 40 4) ao (f.l.flatMap csP) m cap (by rfl) HC.out.len HC.out.none_ HC.out.reads (csP_one _) ?d1 ?d2 (Nat.le_refl _) ?_)
  case d1 => unfold maxLen; omega
  case d2 => omega
  intro v2 w2 hown2 hgrow2
  obtain ⟨a2, c2, rfl⟩ := own_slice hown2
  have hg2 : W1.grownBy w2 none := hgrow2
  have k2 := blk_grown HK1.out hg2 (by simp)
  have r2 := blk_grown HR1.out hg2 (by simp)
  have b2 : Below W1.heap.size W1 w2 := ⟨hg2.os, hg2.tape, hg2.output, hg2.size, fun k hk => hg2.block k hk (by simp)⟩
  have HB2 := Hid.mk (HB1.out.trans (b2.mono HB1.out.size))
  have HK2 := Hid.mk k2
  have HR2 := Hid.mk r2
  have HO2 := Hid.mk hown2
  have HS1 := Hid.mk hg2.size
  obtain ⟨⟨x0, x1, x2⟩, -⟩ := three_cells k2
  clear hgrow2 hg2 k2 r2 b2 hown2 HC
  go_wp2_with (at_builtin; refine wpList_append_lies _ rfl _ _ _ rfl W1.heap.size 40 i0 _ 4 40 Try.underlying27 hi0 hz0 hz1 hz2 rfl (by decide) (.slice a2 m c2) _ _ (by rfl) (HO2.out.alloc _) ⟨w2.heap.size, 0, none⟩ 1 1 [.int .i64 (z : Int), .int .i64 p.fr, .int .i64 p.to, .string s] (by rfl) (by rfl) (World.news_of_block (cs := #[.int .i64 (z : Int), .int .i64 p.fr, .int .i64 p.to, .string s]) (t := 40) (fr := (0, 0)) (heap_alloc_new w2 _)) ?d2 (by decide) ?d3 ?d4 ?d5 (w2.heap.size + 1) (by simp) ?_)
  case d2 => simp [Value.oneCell']
  case d3 => unfold maxLen; omega
  case d4 => omega
  case d5 => have := HS1.out; first | omega | (simp; omega)
  intro gg cap2 w5 hown5 hgrow5 hat5 hlt5
  have ba : Below w2.heap.size w2 (w2.alloc (.cells #[.int .i64 (z : Int), .int .i64 p.fr, .int .i64 p.to, .string s] 40)) := (Below.refl _ _).alloc (Nat.le_refl _) _
  have oa := HO2.out.alloc (.cells #[.int .i64 (z : Int), .int .i64 p.fr, .int .i64 p.to, .string s] 40)
  have k4 := (ba.block _ (lt_of_block HK2.out)).trans HK2.out
  have r4 := (ba.block _ (lt_of_block HR2.out)).trans HR2.out
  have k5 := blk_grown k4 hgrow5 (own_neb oa k4 (by decide))
  have r5 := blk_grown r4 hgrow5 (own_neb oa r4 (by decide))
  have b4 := HB2.out.trans (ba.mono HB2.out.size)
  have b5 : Below w.heap.size w w5 := b4.grown hgrow5 (Nat.le_trans HB2.out.size ba.size) (fun k e => Nat.le_trans HB1.out.size (HO2.out.lt k e).1)
  have hgg : W1.heap.size ≤ gg := by
    rcases hat5 with e | e
    · exact (HO2.out.lt gg e).1
    · have := HS1.out; omega
  obtain ⟨V, hV⟩ : ∃ V : Value, V = .slice (some ⟨gg, 0, none⟩) (m + 1) cap2 := ⟨_, rfl⟩
  have k6 : (w5.setCell ⟨w.heap.size, 2, none⟩ V).heap[w.heap.size]? = _ := three_set2 k5
  have r6 : (w5.setCell ⟨w.heap.size, 2, none⟩ V).heap[w.heap.size + 1]? = some zF := (Below.heap_setCell w5 ⟨w.heap.size, 2, none⟩ V _ (by simp)).trans r5
  have o6 : (w5.setCell ⟨w.heap.size, 2, none⟩ V).ownsRow W1.heap.size 40 4 V (m + 1) (f.l.flatMap csP ++ [.int .i64 (z : Int), .int .i64 p.fr, .int .i64 p.to, .string s]) := by rw [hV]; exact owns_setAt hown5 k5 (by decide)
  have b6 : Below w.heap.size w (w5.setCell ⟨w.heap.size, 2, none⟩ V) := b5.setCell (p := ⟨w.heap.size, 2, none⟩) (Nat.le_refl _) V
  obtain ⟨WF, hWF⟩ : ∃ WF, WF = (set3 (w5.setCell ⟨w.heap.size, 2, none⟩ V) (w.heap.size + 1) (.int .i64 (f.nodes : Int)) (.int .i64 (z : Int)) V).drew := ⟨_, rfl⟩
  have bF : Below w.heap.size w WF := by rw [hWF]; exact below_drew (set3_below b6 (by omega) _ _ _)
  have rF : WF.heap[w.heap.size + 1]? = some (.cells #[.int .i64 (f.nodes : Int), .int .i64 (z : Int), V] 29) := by rw [hWF]; exact set3_block (w := w5.setCell ⟨w.heap.size, 2, none⟩ V) r6 _ _ _
  have oF : WF.ownsRow W1.heap.size 40 4 V (m + 1) (f.l.flatMap csP ++ [.int .i64 (z : Int), .int .i64 p.fr, .int .i64 p.to, .string s]) := by
    rw [hWF]
    exact owns_key o6 (fun g o hg ho => (set3_other (w := w5.setCell ⟨w.heap.size, 2, none⟩ V) (fun e => own_neb o6 r6 (by decide) (by rw [hg, e])) _ _ _).trans ho)
  have HDL : Hid (DL (fun k => w.heap.size ≤ k ∧ k < WF.heap.size) WF V (f.add p).l) := Hid.mk (by
    have e1 : (f.add p).l.length = m + 1 := by simp [Fd.add, HM.out]
    have e2 : (f.add p).l.flatMap csP = f.l.flatMap csP ++ [.int .i64 (z : Int), .int .i64 p.fr, .int .i64 p.to, .string s] := by simp [Fd.add, HZE.out, HSE.out]
    refine ⟨by rw [e1, e2]; exact ownsRow_base oF (Nat.zero_le _), fun g hg => ?_⟩
    have := oF.lt g hg
    have := HB1.out.size
    omega)
  have HENC : Hid (Ending.returned (.tuple #[.agg #[.int .i64 (f.nodes : Int), .int .i64 (z : Int), V], .int .i64 (z : Int), .int .i64 0]) = .returned (.tuple #[encF (f.add p) V, .int .i64 ((f.last + 1 : Nat) : Int), .int .i64 0])) := Hid.mk (by rw [HZE.out]; rfl)
  obtain ⟨⟨x0', x1', x2'⟩, ⟨y0, y1, y2⟩⟩ := three_cells k5
  obtain ⟨⟨u0, u1, u2⟩, -⟩ := three_cells k6
  obtain ⟨⟨t0, t1, t2⟩, ⟨q0, q1, q2⟩⟩ := three_cells r6
  obtain ⟨⟨z0, z1, z2⟩, -⟩ := three_cells rF
  have HBF := Hid.mk bF
  have HWF := Hid.mk hWF
  rw [← hV]
  subst hV
  clear k5 r5 k4 r4 oa ba b4 b5 hown5 hgrow5 hat5 k6 r6 o6 b6 bF rF oF hWF x0 x1 x2
  go_wp2_with fail
  go_region
  all_goals (
    change Exit.then _ _ Exit.normal _ (set3 (w5.setCell ⟨w.heap.size, 2, none⟩ (.slice (some ⟨gg, 0, none⟩) (m + 1) cap2)) (w.heap.size + 1) (.int .i64 (f.nodes : Int)) (.int .i64 (z : Int)) (.slice (some ⟨gg, 0, none⟩) (m + 1) cap2)).drew
    rw [← HWF.out]
    go_wp2
    refine bodyPost_ret (v := .tuple #[.agg #[.int .i64 (f.nodes : Int), .int .i64 (z : Int), .slice (some ⟨gg, 0, none⟩) (m + 1) cap2], .int .i64 (z : Int), .int .i64 0]) ?_ rfl ⟨_, HENC.out, HDL.out, HBF.out⟩
    simp [results, Try.results11, go_sem, z0, z1, z2])
end
end Go.Proofs.Ytnkgbinogblemaa
