/- What is done later changes no version. -/
import Derived.Test.YtiabnjjdeikefaaSLike
namespace Go.Proofs.Ytiabnjjdeikefaa
open Go.RowKit

/-- A row of lists that a statement keeps beside a store. -/
structure Rows7 (w0 w : World) (S : Nat → Prop) (v : Value) (vs : List Value) (Ls : List (List Tri)) : Prop where
  row : w.ownsRow w0.heap.size 34 1 v vs.length vs
  inS : ∀ g, v.ownBlock = some g → S g
  len : vs.length = Ls.length
  lists : ∀ (j : Nat) x F, vs[j]? = some x → Ls[j]? = some F → TrisS (fun k => S k ∧ v.ownBlock ≠ some k) w x F
section
variable {w0 w w' : World} {S : Nat → Prop} {v : Value} {vs : List Value} {Ls : List (List Tri)}
theorem Rows7.fr (h : Rows7 w0 w S v vs Ls) (hf : Fr S w w') : Rows7 w0 w' S v vs Ls :=
  ⟨owns_key h.row (fun g _ hg ho => (hf.block g (h.inS g hg)).trans ho), h.inS, h.len, fun j x F hx hF => (h.lists j x F hx hF).keep hf.size (fun k hk _ => ⟨hk, hf.block k hk.1⟩)⟩
theorem Rows7.plus (h : Rows7 w0 w S v vs Ls) (hb : Below w.heap.size w w') : Rows7 w0 w' (Plus S w.heap.size w'.heap.size) v vs Ls :=
  ⟨owns_below h.row hb, fun g hg => .inl (h.inS g hg), h.len, fun j x F hx hF => (h.lists j x F hx hF).keep hb.size (fun k hk hl => ⟨⟨.inl hk.1, hk.2⟩, hb.block k hl⟩)⟩
theorem Rows7.push {u : World} {x : Value} {F : List Tri} {g cap : Nat} {o : Obj} (h : Rows7 w0 w S v vs Ls) (hx : TrisS (fun k => S k ∧ v.ownBlock ≠ some k) w x F)
    (hown : u.ownsRow w0.heap.size 34 1 (.slice (some ⟨g, 0, none⟩) (vs.length + 1) cap) (vs.length + 1) (vs ++ [x])) (hg : (w.alloc o).grownBy u v.ownBlock) (ha : v.ownBlock = some g ∨ g = w.heap.size + 1) (hl : g < u.heap.size) :
    Rows7 w0 u (Plus S w.heap.size u.heap.size) (.slice (some ⟨g, 0, none⟩) (vs.length + 1) cap) (vs ++ [x]) (Ls ++ [F]) := by
  have hsz : w.heap.size + 1 ≤ u.heap.size := by have := hg.size; simpa using this
  have keep : ∀ k, (S k ∧ v.ownBlock ≠ some k) → k < w.heap.size → (Plus S w.heap.size u.heap.size k ∧ (Value.slice (some ⟨g, 0, none⟩) (vs.length + 1) cap).ownBlock ≠ some k) ∧ u.heap[k]? = w.heap[k]? := fun k hk hl => by
    refine ⟨⟨.inl hk.1, fun e => ?_⟩, ?_⟩
    · have e1 : g = k := by simpa [Value.ownBlock] using e
      subst e1
      rcases ha with e2 | e2
      · exact hk.2 e2
      · omega
    · exact (hg.block k (by simp; omega) (fun e => hk.2 e.symm)).trans (Below.heap_alloc w o k hl)
  refine ⟨by simpa using hown, fun g' hg' => ?_, by simp [h.len], fun j y F' hy hF' => ?_⟩
  · have e1 : g = g' := by simpa [Value.ownBlock] using hg'
    subst e1
    rcases ha with e2 | e2
    · exact .inl (h.inS g e2)
    · exact .inr ⟨by omega, hl⟩
  · by_cases hj : j < vs.length
    · rw [List.getElem?_append_left hj] at hy
      rw [List.getElem?_append_left (by rw [← h.len]; exact hj)] at hF'
      exact (h.lists j y F' hy hF').keep (by omega) keep
    · have hj2 : j = vs.length := by have := (List.getElem?_eq_some_iff.1 hy).1; simp at this; omega
      subst hj2
      rw [List.getElem?_append_right (Nat.le_refl _)] at hy
      rw [h.len, List.getElem?_append_right (Nat.le_refl _)] at hF'
      simp at hy hF'
      subst hy hF'
      exact hx.keep (by omega) keep
end
theorem Live.grown {w0 w u : World} {S : Nat → Prop} {b : Nat} {All : List (List Tri)} {row : Option Nat} (h : Live w0 w S b All) (hg : w.grownBy u row) (hr : ∀ g, row = some g → S g ∧ w0.heap.size ≤ g) : Live w0 u (Plus S w.heap.size u.heap.size) b All := by
  refine ⟨h.low.plus hg.size, fun k hk => .inl (h.sub k hk), ?_, h.bel.grown hg h.bel.size (fun k e => (hr k e).2)⟩
  refine (h.q.more (T := Plus S w.heap.size u.heap.size) (fun k hk => by
    rcases hk with hk | hk
    · exact .inl hk
    · exact .inr hk.1)).keepOut (fun k o hk ho => (hg.block k (lt_of_block ho) (fun e => hk (.inl (hr k e.symm).1))).trans ho)
theorem ltri_not {w w' : World} {S : Nat → Prop} {x : Value} {F : List Tri} {B n : Nat} {e : TypeId} {size : Nat} {v : Value} {xs : List Value} (h : LTri w.heap.size w' x F) (hr : w.ownsRow B e size v n xs) : TrisS (fun k => Plus S w.heap.size w'.heap.size k ∧ v.ownBlock ≠ some k) w' x F :=
  h.tris.sub (fun _ hk _ => ⟨.inr hk, fun e => by have := own_lt hr e; omega⟩)

theorem infoL : (Try.prog.info? 34).map (fun i => (i.zero, i.size, i.bytes)) = some (some (.slice none 0 0), 1, 24) := by kernel_rfl

set_option maxHeartbeats 16000000 in
set_option maxRecDepth 100000 in
theorem storeStays_walk (v1 : Value) (bs : List (Value × List Chg)) (w : World) (h1 : BatsA w v1 bs) :
    Calls Try.prog 4 #[v1] w fun e w' => e = .returned (.bool true) ∧ Below w.heap.size w w' := by
  obtain ⟨a1, c1, hv1⟩ := h1.1.slice
  subst hv1
  have H1 := Hid.mk h1
  obtain ⟨n1, hn1⟩ : ∃ n, n = bs.length := ⟨_, rfl⟩
  rw [← hn1] at H1 ⊢
  have HN1 := Hid.mk hn1
  obtain ⟨i0, hi0, hz0, hz1, hz2⟩ := info_parts infoL
  clear hn1 h1
  have C0 := Hid.mk (live_new w)
  go_enter Try.func4, Try.ntmps4
  go_wp2_with fail
  refine C0.out.mono ?_
  rintro e w1 ⟨b, rfl, hl1⟩
  have L1 := Hid.mk hl1
  clear hl1 C0
  have R1 : Rows7 w w1 (fun k => k < w.heap.size) (.slice none 0 0) [] [] := ⟨⟨rfl, .inl ⟨rfl, rfl⟩⟩, by intro g hg; simp [Value.ownBlock] at hg, rfl, by intro j x F h; simp at h⟩
  have HR1 := Hid.mk R1
  have hs1 := L1.out.bel.size
  clear R1
  go_wp2_with (at_builtin; refine wpList_append_lies _ rfl _ _ _ rfl w.heap.size 34 i0 _ 1 24 Try.underlying28 hi0 hz0 hz1 hz2 rfl (by decide) (.slice none 0 0) _ _ (by rfl) (HR1.out.row.alloc _) ⟨w1.heap.size, 0, none⟩ 1 1 [.slice none 0 0] (by rfl) (by rfl) ?d1 ?d2 (by decide) ?d3 ?d4 ?d5 (w1.heap.size + 1) (by simp) ?_)
  case d1 => exact World.news_of_block (cs := #[.slice none 0 0]) (t := 34) (fr := (0, 0)) (heap_alloc_new w1 _)
  case d2 => simp [Value.oneCell']
  case d3 => unfold maxLen; simp
  case d4 => simp
  case d5 => simp; omega
  intro g2 cap2 w2 hown2 hgrow2 hat2 hlt2
  have R2 := Hid.mk (HR1.out.push (F := []) (SlS.nil _ _) hown2 hgrow2 hat2 hlt2)
  have L2 := Hid.mk (L1.out.grown ((World.grownBy_alloc w1 (.cells #[.slice none 0 0] 34) _).trans hgrow2) (fun g e => by simp [Value.ownBlock] at e))
  clear hown2 hgrow2 hat2 hlt2 HR1 L1 hs1
  go_wp2_with fail
  go_loopw [4, 5] (fun va c wr => ∃ (i : Nat) (S : Nat → Prop) (vs : List Value) (All : List (List Tri)) (vl : Value), vl = va ∧ c = .int .i64 i ∧ i ≤ 30 ∧ All.length ≤ i + 1 ∧ Live w wr S b All ∧ Rows7 w wr S vl vs All) (fun _ c _ => 30 - (intOf c).toNat)
  case atStart => exact ⟨0, _, _, _, _, rfl, rfl, by omega, by simp, L2.out, R2.out⟩
  case round =>
    obtain ⟨i, S3, vs, All, vl, rfl, rfl, hi, hAl, hl3, hr3⟩ := hrel
    obtain ⟨av, cv, hvl⟩ := own_slice hr3.row
    subst hvl
    have L3 := Hid.mk hl3
    have R3 := Hid.mk hr3
    have hvn := hr3.len
    have hone : 1 ≤ All.length := by
      obtain ⟨ts, hh⟩ := hl3.hist
      exact hh.one
    clear hl3 hr3
    obtain ⟨n, hn⟩ : ∃ n, n = vs.length := ⟨_, rfl⟩
    rw [← hn] at R3 hvn ⊢
    have HN := Hid.mk hn
    have HVN := Hid.mk hvn
    have hn30 : n ≤ 31 := by omega
    have hn1 : 1 ≤ n := by omega
    clear hn hvn
    have cut : (i < n1 ∧ i < 30) ∨ (¬ (i < n1 ∧ i < 30)) := by omega
    rcases cut with ⟨hlt, hlt30⟩ | hout
    · have hltI : (i : Int) < (n1 : Int) := by omega
      have hlt30I : (i : Int) < 30 := by omega
      obtain ⟨x, hx⟩ : ∃ x, bs[i]? = some x := ⟨_, List.getElem?_eq_getElem (by rw [← HN1.out]; exact hlt)⟩
      have HBA := Hid.mk (H1.out.below L3.out.bel)
      obtain ⟨g, off, hao, _, _, hcell⟩ := HBA.out.1.get hx
      subst hao
      have q0 : wr.cell? ⟨g, off + i, none⟩ = some x.1 := by have := hcell 0 _ rfl; simpa using this
      have hxa := HBA.out.2.1 x (List.mem_of_getElem? hx)
      obtain ⟨ax, cx, hxv⟩ := hxa.1.slice
      have CA := Hid.mk (L3.out.apply hxa.1 hxa.len (n : Int) (by omega))
      rw [hxv] at q0 CA
      obtain ⟨bt, hbt⟩ : ∃ bt, bt = x.2 := ⟨_, rfl⟩
      rw [← hbt] at q0 CA
      obtain ⟨nb, hnb⟩ : ∃ nb, nb = bt.length := ⟨_, rfl⟩
      rw [← hnb] at q0 CA
      clear hx hcell hxa hxv hbt hnb HBA
      rcases apE_cases0 All (n : Int) bt with hE | hE
      · obtain ⟨hm, hvv, hfl, hA⟩ := apE_may hE
        rw [hE, hA] at CA
        clear hm hvv hA hE
        obtain ⟨F, hF⟩ : ∃ F, F = doneT (lastT All) bt := ⟨_, rfl⟩
        rw [← hF] at CA hfl
        clear hF
        go_wp2_with fail
        refine CA.out.mono ?_
        rintro e w4 ⟨rfl, hl4, hf4⟩
        have R4 := Hid.mk (R3.out.fr hf4)
        have L4 := Hid.mk hl4
        have CF := Hid.mk (facts_any hl4.q (by simp; omega) (n : Int))
        have e1 : verO (All ++ [F]) (n : Int) = some F := by rw [verO_nat, HVN.out]; simp
        rw [show maE (All ++ [F]) (n : Int) = 0 by unfold maE; rw [e1]; rfl, e1] at CF
        simp only [Option.getD_some] at CF
        clear e1 hl4 hf4 CA q0
        obtain ⟨m, hm⟩ : ∃ m, m = F.length := ⟨_, rfl⟩
        rw [← hm] at CF
        clear hm
        go_wp2_with fail
        refine CF.out.mono ?_
        rintro e w5 ⟨a5, k5, rfl, hlt5, hb5⟩
        have R5 := Hid.mk (R4.out.plus hb5)
        have L5 := Hid.mk (L4.out.plus hb5)
        have T5 := Hid.mk (ltri_not (S := S3) hlt5 R4.out.row)
        have hs5 := L5.out.bel.size
        clear hlt5 hb5 CF R4 L4
        go_wp2_with (at_builtin; refine wpList_append_lies _ rfl _ _ _ rfl w.heap.size 34 i0 _ 1 24 Try.underlying28 hi0 hz0 hz1 hz2 rfl (by decide) (.slice av n cv) _ _ (by rfl) (R5.out.row.alloc _) ⟨w5.heap.size, 0, none⟩ 1 1 [.slice a5 m k5] (by rfl) (by rfl) ?d1 ?d2 (by decide) ?d3 ?d4 ?d5 (w5.heap.size + 1) (by simp) ?_)
        case d1 => exact World.news_of_block (cs := #[.slice a5 m k5]) (t := 34) (fr := (0, 0)) (heap_alloc_new w5 _)
        case d2 => simp [Value.oneCell']
        case d3 => rw [← HN.out]; unfold maxLen; omega
        case d4 => rw [← HN.out]; omega
        case d5 => simp; omega
        intro g6 cap6 w6 hown6 hgrow6 hat6 hlt6
        have R6 := Hid.mk (R5.out.push T5.out hown6 hgrow6 hat6 hlt6)
        have L6 := Hid.mk (L5.out.grown ((World.grownBy_alloc w5 (.cells #[.slice a5 m k5] 34) _).trans hgrow6) (fun g e => ⟨R5.out.inS g e, (R5.out.row.lt g e).1⟩))
        clear hown6 hgrow6 hat6 hlt6 R5 L5 T5 hs5
        rw [← HN.out] at R6 ⊢
        go_wp2
        go_roundw
        case rel => exact ⟨i + 1, _, _, All ++ [F], _, rfl, by go_num, by omega, by simp; omega, L6.out, R6.out⟩
        case measure => simp [intOf]; omega
      · obtain ⟨hA1, hle1⟩ := apE_not hE
        obtain ⟨er1, her1⟩ : ∃ er, er = apE All (n : Int) bt := ⟨_, rfl⟩
        rw [hA1, ← her1] at CA
        rw [← her1] at hE hle1
        have hne1 : ((er1 : Int) != 0) = true := by simp; omega
        have hne2 : ¬ (er1 : Int) = 0 := by omega
        clear her1 hA1
        go_wp2_with fail
        refine CA.out.mono ?_
        rintro e w4 ⟨rfl, hl4, hf4⟩
        have R4 := Hid.mk (R3.out.fr hf4)
        have L4 := Hid.mk hl4
        clear hl4 hf4 CA q0
        rw [HN.out] at R4
        go_wp2
        go_roundw
        case rel => exact ⟨i + 1, _, vs, All, _, rfl, by go_num, by omega, by omega, L4.out, by rw [HN.out]; exact R4.out⟩
        case measure => simp [intOf]; omega
    · have HRow : Hid (∀ u, Below wr.heap.size wr u → ∀ (j : Nat), j < n → ∃ (x : Value) (F : List Tri) (gr : Nat), av = some ⟨gr, 0, none⟩ ∧ u.cell? ⟨gr, j, none⟩ = some x ∧ All[j]? = some F ∧ TrisS (fun _ => True) u x F ∧ Rise F ∧ F.length ≤ 4096) := Hid.mk (fun u hu j hj => by
        have hr := R3.out.row
        rw [← HN.out] at hr
        rcases hr.2 with ⟨_, h0⟩ | ⟨gr, cap, cur, hv, _⟩
        · omega
        · obtain ⟨x, hx⟩ : ∃ x, vs[j]? = some x := ⟨_, List.getElem?_eq_getElem (by rw [← HN.out]; exact hj)⟩
          obtain ⟨F, hF⟩ : ∃ F, All[j]? = some F := ⟨_, List.getElem?_eq_getElem (by rw [← HVN.out]; exact hj)⟩
          injection hv with hv _ _
          have hlt := own_lt hr (g := gr) (by rw [hv]; rfl)
          have hc : wr.cell? ⟨gr, j, none⟩ = some x := by
            subst hv
            rw [hr.cellAt j (by omega), hx]
          obtain ⟨ts, hh⟩ := L3.out.hist
          exact ⟨x, F, gr, hv, (hu.cell (p := ⟨gr, j, none⟩) hlt).trans hc, hF, ((R3.out.lists j x F hx hF).sub (fun _ _ _ => trivial)).below hu, hh.rise F (List.mem_of_getElem? hF), hh.few F (List.mem_of_getElem? hF)⟩)
      obtain ⟨wy, hwy⟩ : ∃ wy, wy = wr := ⟨_, rfl⟩
      subst hwy
      rcases (by omega : ¬ ((i : Int) < (n1 : Int)) ∨ ((i : Int) < (n1 : Int) ∧ ¬ (i : Int) < 30)) with hq | ⟨hq1, hq2⟩
      all_goals (
        clear hout
        go_wp2_with fail
        go_loopw [8] (fun c wr => ∃ (v : Nat), v ≤ n ∧ c = .int .i64 v ∧ Below wy.heap.size wy wr) (fun c _ => n - (intOf c).toNat)
        case atStart => exact ⟨0, Nat.zero_le _, rfl, Below.refl _ _⟩
        case round =>
          obtain ⟨v, hv, rfl, hbx⟩ := hrel
          have HBX := Hid.mk hbx
          clear hbx
          by_cases hvn : v < n
          · have hvI : (v : Int) < (n : Int) := by omega
            obtain ⟨x, F, gr, hav, _, hF, _, hrise, hfew⟩ := HRow.out _ (Below.refl _ _) v hvn
            have L6 := Hid.mk (L3.out.below HBX.out)
            have CF := Hid.mk (L6.out.facts (by omega) (v : Int))
            have e1 : verO All (v : Int) = some F := by rw [verO_nat]; exact hF
            rw [show maE All (v : Int) = 0 by unfold maE; rw [e1]; rfl, e1] at CF
            simp only [Option.getD_some] at CF
            have HRise := Hid.mk hrise
            have HF := Hid.mk hF
            clear e1 hF hrise hav
            obtain ⟨m, hm⟩ : ∃ m, m = F.length := ⟨_, rfl⟩
            rw [← hm] at CF hfew
            have HM := Hid.mk hm
            clear hm
            go_wp2_with fail
            refine CF.out.mono ?_
            rintro e w7 ⟨a7, k7, rfl, ht7, _, hb7⟩
            have HB7 := Hid.mk (HBX.out.trans (hb7.mono HBX.out.size))
            have T7 := Hid.mk ht7
            clear ht7 hb7 CF
            obtain ⟨y, F2, gr2, hav2, c7, hF2, hT2, _, _⟩ := HRow.out w7 HB7.out v hvn
            rw [HF.out] at hF2
            have hF3 := Option.some.inj hF2
            subst hF3
            subst hav2
            obtain ⟨ay, ky, hy⟩ := hT2.slice
            subst hy
            have CS := Hid.mk (same_any T7.out hT2 (by have := HM.out; omega))
            rw [decide_eq_true rfl, ← HM.out] at CS
            rw [← HM.out] at c7
            clear hF2 hT2
            go_wp2_with fail
            refine CS.out.mono ?_
            rintro e w8 ⟨rfl, hb8⟩
            have HB8 := Hid.mk (HB7.out.trans (hb8.mono HB7.out.size))
            have T8 := Hid.mk (T7.out.below hb8)
            clear hb8 CS c7 T7
            go_wp2_with fail
            obtain ⟨wz, hwz⟩ : ∃ wz, wz = w8 := ⟨_, rfl⟩
            subst hwz
            go_loopw [11] (fun c wr => ∃ (ii : Nat), 1 ≤ ii ∧ ii ≤ m + 1 ∧ c = .int .i64 ii ∧ Below wz.heap.size wz wr) (fun c _ => m + 1 - (intOf c).toNat)
            case atStart => exact ⟨1, by omega, by omega, by rfl, Below.refl _ _⟩
            case round =>
              obtain ⟨ii, hii, hij, rfl, hbz⟩ := hrel
              have HBZ := Hid.mk hbz
              clear hbz
              by_cases hjm : ii < m
              · have hiI : (ii : Int) < (m : Int) := by omega
                obtain ⟨j, hj⟩ : ∃ j, ii = j + 1 := ⟨ii - 1, by omega⟩
                have hwr : IntKind.i64.wrap ((ii : Int) - 1) = (j : Int) := by rw [IntKind.wrap_i64]; omega
                have hjI : (j : Int) < (m : Int) := by omega
                have HJ := Hid.mk hj
                obtain ⟨s, hs⟩ : ∃ s, F[j]? = some s := ⟨_, List.getElem?_eq_getElem (by rw [← HM.out]; omega)⟩
                obtain ⟨t, ht⟩ : ∃ t, F[ii]? = some t := ⟨_, List.getElem?_eq_getElem (by rw [← HM.out]; omega)⟩
                have hless : lessT s t = true := by
                  have := List.pairwise_iff_getElem.1 HRise.out j ii (by rw [← HM.out]; omega) (by rw [← HM.out]; omega) (by omega)
                  rw [List.getElem?_eq_getElem (by rw [← HM.out]; omega)] at hs ht
                  rw [Option.some.inj hs, Option.some.inj ht] at this
                  exact this
                obtain ⟨g8, o8, hao8, _, hgl8, hc1⟩ := T8.out.get hs
                obtain ⟨g9, o9, hao9, _, _, hc2⟩ := T8.out.get ht
                rw [hao8] at hao9
                injection hao9 with hao9
                injection hao9 with hg9 ho9 _
                subst hg9 ho9
                subst hao8
                have HK8 : Hid (∀ u, Below wz.heap.size wz u → (u.cell? ⟨g8, o8 + j * 3, none⟩ = some (strV s.1) ∧ u.cell? ⟨g8, o8 + j * 3 + 1, none⟩ = some (strV s.2.1) ∧ u.cell? ⟨g8, o8 + j * 3 + 2, none⟩ = some (strV s.2.2)) ∧ (u.cell? ⟨g8, o8 + ii * 3, none⟩ = some (strV t.1) ∧ u.cell? ⟨g8, o8 + ii * 3 + 1, none⟩ = some (strV t.2.1) ∧ u.cell? ⟨g8, o8 + ii * 3 + 2, none⟩ = some (strV t.2.2))) := Hid.mk (fun u hu => by
                  obtain ⟨z0, z1, z2⟩ := get3 hc1
                  obtain ⟨y0, y1, y2⟩ := get3 hc2
                  exact ⟨⟨(hu.cell (p := ⟨g8, o8 + j * 3, none⟩) hgl8).trans z0, (hu.cell (p := ⟨g8, o8 + j * 3 + 1, none⟩) hgl8).trans z1, (hu.cell (p := ⟨g8, o8 + j * 3 + 2, none⟩) hgl8).trans z2⟩, ⟨(hu.cell (p := ⟨g8, o8 + ii * 3, none⟩) hgl8).trans y0, (hu.cell (p := ⟨g8, o8 + ii * 3 + 1, none⟩) hgl8).trans y1, (hu.cell (p := ⟨g8, o8 + ii * 3 + 2, none⟩) hgl8).trans y2⟩⟩)
                obtain ⟨⟨p0, p1, p2⟩, ⟨r0, r1, r2⟩⟩ := HK8.out wr HBZ.out
                have HD : Hid (Below wr.heap.size wr wr.drew) := Hid.mk (Below.refl _ _).drew
                have CL : Hid (Calls Try.prog 25 #[encT s, encT t] wr.drew fun e w' => e = .returned (.bool true) ∧ Below wr.drew.heap.size wr.drew w') := Hid.mk (by
                  have := less_any s t wr.drew
                  rw [hless] at this
                  exact this)
                clear hs ht hless hc1 hc2 hj
                go_wp2_with fail
                go_region_held3 (fun w' => (w'.cell? ⟨g8, o8 + j * 3, none⟩ = some (strV s.1) ∧ w'.cell? ⟨g8, o8 + j * 3 + 1, none⟩ = some (strV s.2.1) ∧ w'.cell? ⟨g8, o8 + j * 3 + 2, none⟩ = some (strV s.2.2)) ∧ (w'.cell? ⟨g8, o8 + ii * 3, none⟩ = some (strV t.1) ∧ w'.cell? ⟨g8, o8 + ii * 3 + 1, none⟩ = some (strV t.2.1) ∧ w'.cell? ⟨g8, o8 + ii * 3 + 2, none⟩ = some (strV t.2.2)))
                  (first | exact ⟨⟨p0, p1, p2⟩, ⟨r0, r1, r2⟩⟩ | exact ⟨⟨by assumption, by assumption, by assumption⟩, ⟨by assumption, by assumption, by assumption⟩⟩)
                  (first | (go_at_call 25; refine CL.out.mono ?_; rintro e w9 ⟨rfl, hb9⟩; obtain ⟨⟨u0, u1, u2⟩, ⟨u3, u4, u5⟩⟩ := HK8.out w9 ((HBZ.out.trans (HD.out.mono HBZ.out.size)).trans (hb9.mono (HBZ.out.trans (HD.out.mono HBZ.out.size)).size)); have HB9 := Hid.mk ((HBZ.out.trans (HD.out.mono HBZ.out.size)).trans (hb9.mono (HBZ.out.trans (HD.out.mono HBZ.out.size)).size)); clear hb9))
                go_wp2
                go_roundw
                case rel => exact ⟨ii + 1, by omega, by omega, by go_num, HB9.out⟩
                case measure => simp [intOf]; omega
              · have hjI : ¬ (ii : Int) < (m : Int) := by omega
                go_wp2
                go_roundw
                case rel => exact ⟨v + 1, by omega, by go_num, HB8.out.trans (HBZ.out.mono HB8.out.size)⟩
                case measure => simp [intOf]; omega
          · have hvI : ¬ (v : Int) < (n : Int) := by omega
            have L6 := Hid.mk (L3.out.below HBX.out)
            have CV := Hid.mk (version_any L6.out.q)
            obtain ⟨n', hn'⟩ : ∃ n', n = n' + 1 := ⟨n - 1, by omega⟩
            rw [show (All.length - 1 : Nat) = n' by have := HVN.out; omega] at CV
            subst hn'
            go_wp2_with fail
            refine CV.out.mono ?_
            rintro e w7 ⟨rfl, hw7⟩
            have hw7 := hw7.symm
            subst hw7
            have CX := Hid.mk L6.out.awake
            go_wp2_with fail
            refine CX.out.mono ?_
            rintro e w8 ⟨rfl, hb8⟩
            go_wp2
            go_ret
            exact ⟨rfl, hb8⟩)
end Go.Proofs.Ytiabnjjdeikefaa
