/- The document's field: Ids, Pick; lists of numbers compared. -/
import Derived.Test.YtnkgbinogblemaaDRef
namespace Go.Proofs.Ytnkgbinogblemaa
open Go.RowKit

/-- All, or those that go to a node. -/
def selF (l : List Pk) (k : Int) : List Pk := l.filter (fun p => decide (k < 0 ∨ p.to = k))
theorem selF_all (l : List Pk) {k : Int} (h : k < 0) : selF l k = l := List.filter_eq_self.2 (fun p _ => by simp [h])
theorem selF_to (l : List Pk) {k : Int} (h : 0 ≤ k) : selF l k = toL l k := by
  unfold selF toL
  refine List.filter_congr (fun p _ => ?_)
  have h1 : ¬ k < 0 := by omega
  simp [h1]
theorem selF_succ {l : List Pk} {i : Nat} {p : Pk} (h : l[i]? = some p) (k : Int) : selF (l.take (i + 1)) k = selF (l.take i) k ++ if k < 0 ∨ p.to = k then [p] else [] := by
  rw [List.take_add_one, h]
  simp only [selF, List.filter_append, Option.toList_some]
  by_cases e : k < 0 ∨ p.to = k <;> simp [e]
theorem selF_len (l : List Pk) (k : Int) : (selF l k).length ≤ l.length := List.length_filter_le _ _
section
variable {S : Nat → Prop} {w : World} {v : Value} {f : Fd}
set_option maxRecDepth 100000 in
set_option maxHeartbeats 2000000 in
theorem rIds_any (h : DL S w v f.l) (k : Int) (hl : f.l.length ≤ 100000) :
    Calls Try.prog 20 #[encF f v, .int .i64 k] w fun e w' => ∃ v', e = .returned v' ∧ w'.ownsRow w.heap.size 3 1 v' (selF f.l k).length (idCs (selF f.l k)) ∧ Below w.heap.size w w' := by
  obtain ⟨i0, hi0, hz0, hz1, hz2⟩ := info_parts infoZ
  have hb : Below w.heap.size w (w.alloc (.cells #[.int .i64 (f.nodes : Int), .int .i64 (f.last : Int), v] 29)) := (Below.refl _ _).alloc (Nat.le_refl _) _
  have hbx := box_at w (.cells #[.int .i64 (f.nodes : Int), .int .i64 (f.last : Int), v] 29)
  have h1 := h.below hb
  obtain ⟨ao, cap, hv⟩ := h.slice
  obtain ⟨m, hm⟩ : ∃ n, n = f.l.length := ⟨_, rfl⟩
  rw [← hm] at hv hl
  subst hv
  obtain ⟨W, hW⟩ : ∃ W, W = w.alloc (.cells #[.int .i64 (f.nodes : Int), .int .i64 (f.last : Int), .slice ao m cap] 29) := ⟨_, rfl⟩
  rw [← hW] at h1 hb hbx
  have HD := Hid.mk h1
  have HM := Hid.mk hm
  have HB := Hid.mk hb
  have HX := Hid.mk hbx
  have HWE := Hid.mk hW
  have HWS : Hid (w.heap.size < W.heap.size) := Hid.mk (lt_of_block hbx)
  unfold encF
  clear h h1 hm hb hbx hW
  go_enter Try.func20, Try.ntmps20
  go_wp2_with fail
  rw [← HWE.out]
  go_loopw [5, 6] (fun vl c wr => ∃ (i : Nat) (u : Value), u = vl ∧ i ≤ m ∧ c = .int .i64 i ∧ wr.ownsRow W.heap.size 3 1 u (selF (f.l.take i) k).length (idCs (selF (f.l.take i) k)) ∧ Below W.heap.size W wr) (fun _ c _ => m - (intOf c).toNat)
  case atStart => exact ⟨0, _, rfl, Nat.zero_le _, rfl, World.ownsRow_nil _ _ _ _, Below.refl _ _⟩
  case round =>
    obtain ⟨i, u, rfl, hi, rfl, hrow, hbq⟩ := hrel
    obtain ⟨wx, hwx⟩ : ∃ wx, wx = wr := ⟨_, rfl⟩
    subst hwx
    obtain ⟨ua, uc, hu⟩ := own_slice hrow
    obtain ⟨nu, hnu⟩ : ∃ n, n = (selF (f.l.take i) k).length := ⟨_, rfl⟩
    rw [← hnu] at hu hrow
    subst hu
    have hnb : nu ≤ 100000 := by
      have h1 := selF_len (f.l.take i) k
      have h2 : (f.l.take i).length ≤ i := by simp; omega
      omega
    have HROW := Hid.mk hrow
    have HBQ := Hid.mk hbq
    have HNU := Hid.mk hnu
    have hsx : W.heap.size ≤ wx.heap.size := hbq.size
    obtain ⟨⟨x0, x1, x2⟩, -⟩ := three_cells ((hbq.block _ HWS.out).trans HX.out)
    clear hrow hbq hnu x0 x1
    by_cases hlt : i < m
    · have hltI : (i : Int) < (m : Int) := by omega
      obtain ⟨p, hp⟩ : ∃ p, f.l[i]? = some p := ⟨_, List.getElem?_eq_getElem (by rw [← HM.out]; exact hlt)⟩
      obtain ⟨g, rfl, p0, p1, p2, p3⟩ := (HD.out.below HBQ.out).get hp
      have HSUC := Hid.mk (selF_succ hp k)
      obtain ⟨z, hz⟩ : ∃ z : Int, z = (p.id : Int) := ⟨_, rfl⟩
      obtain ⟨pt, hpt⟩ : ∃ x : Int, x = p.to := ⟨_, rfl⟩
      rw [← hz] at p0
      rw [← hpt] at p2 HSUC
      have HZ := Hid.mk hz
      clear hp hz p1 p3 hpt
      by_cases e : k < 0 ∨ pt = k
      · have HE := Hid.mk e
        have hways : k < 0 ∨ (¬ k < 0 ∧ pt = k) := by omega
        clear e
        rcases hways with hk | ⟨hk, he⟩
        all_goals (
          try rw [he] at p2
          go_wp2_with (at_builtin; refine wpList_append_lies _ rfl _ _ _ rfl W.heap.size 3 i0 _ 1 8 Try.underlying50 hi0 hz0 hz1 hz2 rfl (by decide) (.slice ua nu uc) _ _ (by rfl) (HROW.out.alloc _) ⟨wx.heap.size, 0, none⟩ 1 1 (csZ z) (by rfl) (by rfl) (World.news_of_block (cs := #[.int .i64 z]) (t := 3) (fr := (0, 0)) (heap_alloc_new wx _)) ?d2 (by decide) ?d3 ?d4 ?d5 (wx.heap.size + 1) (by simp) ?_)
          case d2 => simp [Value.oneCell']
          case d3 => unfold maxLen; have := HNU.out; omega
          case d4 => have := HNU.out; omega
          case d5 => first | omega | (simp; omega)
          intro gg cap2 w9 hown9 hgrow9 hat9 hlt9
          have ba : Below wx.heap.size wx (wx.alloc (.cells #[.int .i64 z] 3)) := (Below.refl _ _).alloc (Nat.le_refl _) _
          have HB9 : Hid (Below W.heap.size W w9) := Hid.mk ((HBQ.out.trans (ba.mono HBQ.out.size)).grown hgrow9 (by simp; omega) (fun k e => (HROW.out.lt k e).1))
          have HR9 : Hid (w9.ownsRow W.heap.size 3 1 (.slice (some ⟨gg, 0, none⟩) (nu + 1) cap2) (selF (f.l.take (i + 1)) k).length (idCs (selF (f.l.take (i + 1)) k))) := Hid.mk (by
            rw [HSUC.out, if_pos HE.out, List.length_append, ← HNU.out, idCs_snoc, ← HZ.out]
            exact hown9)
          clear hown9 hgrow9 hat9 hlt9 ba
          go_wp2
          go_roundw
          case rel => exact ⟨i + 1, _, rfl, by omega, by go_num, HR9.out, HB9.out⟩
          case measure => simp [intOf]; omega)
      · have hk : ¬ k < 0 := fun h => e (.inl h)
        have he : ¬ pt = k := fun h => e (.inr h)
        have e2 : (pt == k) = false := by simpa using he
        have HR9 : Hid (wx.ownsRow W.heap.size 3 1 (.slice ua nu uc) (selF (f.l.take (i + 1)) k).length (idCs (selF (f.l.take (i + 1)) k))) := Hid.mk (by
          have h1 := HROW.out
          have h2 := HNU.out
          rw [HSUC.out, if_neg e, List.append_nil]
          rw [← h2]
          exact h1)
        clear e
        go_wp2
        go_roundw
        case rel => exact ⟨i + 1, _, rfl, by omega, by go_num, HR9.out, HBQ.out⟩
        case measure => simp [intOf]; omega
    · have hltI : ¬ (i : Int) < (m : Int) := by omega
      have HR9 : Hid (wx.ownsRow w.heap.size 3 1 (.slice ua nu uc) (selF f.l k).length (idCs (selF f.l k)) ∧ Below w.heap.size w wx) := Hid.mk (by
        have h1 := HROW.out
        have h2 := HNU.out
        rw [List.take_of_length_le (by rw [← HM.out]; omega)] at h1 h2
        rw [← h2]
        exact ⟨ownsRow_base h1 (Nat.le_of_lt HWS.out), HB.out.trans (HBQ.out.mono HB.out.size)⟩)
      go_wp2
      go_ret
      exact ⟨_, rfl, HR9.out.1, HR9.out.2⟩
set_option maxRecDepth 100000 in
set_option maxHeartbeats 1000000 in
theorem rPick_any (h : DL S w v f.l) (n : Int) (hn : (Lit.int .i64 n).wf = true) (hl : f.l.length ≤ 100000) :
    Calls Try.prog 17 #[encF f v, .int .i64 n] w fun e w' => e = .returned (.int .i64 (pickF f.l n)) ∧ Below w.heap.size w w' := by
  have hb : Below w.heap.size w (w.alloc (.cells #[.int .i64 (f.nodes : Int), .int .i64 (f.last : Int), v] 29)) := (Below.refl _ _).alloc (Nat.le_refl _) _
  have h1 := h.below hb
  obtain ⟨ao, cap, hv⟩ := h.slice
  obtain ⟨m, hm⟩ : ∃ n, n = f.l.length := ⟨_, rfl⟩
  rw [← hm] at hv hl
  subst hv
  have HM := Hid.mk hm
  have HB := Hid.mk hb
  have hnr : -9223372036854775808 ≤ n ∧ n ≤ 9223372036854775807 := by
    have h1 : IntKind.i64.min = -9223372036854775808 := by decide
    have h2 : IntKind.i64.max = 9223372036854775807 := by decide
    simpa [Lit.wf, h1, h2] using hn
  obtain ⟨hn1, hn2⟩ := hnr
  unfold encF
  by_cases h0 : m = 0
  · have hl0 : f.l = [] := List.length_eq_zero_iff.1 (by rw [← hm]; exact h0)
    rw [hl0, pickF_nil]
    subst h0
    clear h h1 hm hb hl0 hn
    go_enter Try.func17, Try.ntmps17
    go_wp2
    go_ret
    exact ⟨rfl, HB.out⟩
  · obtain ⟨p, hp, -, hpe⟩ := pickF_some (l := f.l) (fun e => h0 (by rw [hm, e]; rfl)) n
    rw [← hm] at hp
    obtain ⟨j, hj⟩ : ∃ j, j = pix n m := ⟨_, rfl⟩
    rw [← hj] at hp
    have hjm : j < m := by rw [hj]; exact pix_lt n (by omega)
    obtain ⟨g, rfl, p0, p1, p2, p3⟩ := h1.get hp
    obtain ⟨r, hr⟩ : ∃ r : Int, r = (p.id : Int) := ⟨_, rfl⟩
    rw [← hr] at p0 hpe
    rw [hpe]
    have hm0 : ¬ (m : Int) = 0 := by omega
    have hm0b : ((m : Int) == 0) = false := beq_eq_false_iff_ne.2 hm0
    have hmm1 : ¬ (m : Int) = -1 := by omega
    have hjI : (j : Int) < (m : Int) := by omega
    by_cases hmin : n = -9223372036854775808
    · have hj0 : j = 0 := by rw [hj, hmin]; rfl
      subst hj0
      obtain ⟨q, hq⟩ : ∃ q, n.tmod (m : Int) = q := ⟨_, rfl⟩
      rw [hmin] at hq
      subst hmin
      clear h h1 hm hb hn hp hpe hr hj h0 p1 p2 p3
      go_enter Try.func17, Try.ntmps17
      go_wp2
      go_ret
      exact ⟨rfl, HB.out⟩
    · have hb1 : (n == (-9223372036854775808 : Int)) = false := beq_eq_false_iff_ne.2 hmin
      have hjn : j = n.natAbs % m := by rw [hj, pix, if_neg hmin]
      by_cases hs : 0 ≤ n
      · have hq : n.tmod (m : Int) = (j : Int) := by
          rw [Int.tmod_eq_emod_of_nonneg hs, hjn, Int.natCast_emod]
          congr 1
          omega
        have hj0 : ¬ (j : Int) < 0 := by omega
        clear h h1 hm hb hn hp hpe hr hj h0 p1 p2 p3 hjn
        go_enter Try.func17, Try.ntmps17
        go_wp2
        go_ret
        exact ⟨rfl, HB.out⟩
      · have hq : n.tmod (m : Int) = -(j : Int) := by
          have e1 : n = -(n.natAbs : Int) := by omega
          rw [e1, Int.neg_tmod, ← Int.ofNat_tmod, hjn]
        by_cases hj0 : j = 0
        · subst hj0
          have hq0 : n.tmod (m : Int) = 0 := by rw [hq]; rfl
          clear h h1 hm hb hn hp hpe hr hj h0 p1 p2 p3 hjn hq
          go_enter Try.func17, Try.ntmps17
          go_wp2
          go_ret
          exact ⟨rfl, HB.out⟩
        · have hneg : -(j : Int) < 0 := by omega
          clear h h1 hm hb hn hp hpe hr hj h0 p1 p2 p3 hjn
          go_enter Try.func17, Try.ntmps17
          go_wp2
          go_ret
          exact ⟨rfl, HB.out⟩
end
set_option maxRecDepth 100000 in
set_option maxHeartbeats 1000000 in
theorem rsame_any {w : World} {B C n : Nat} {v1 v2 : Value} {l : List Pk} (h1 : w.ownsRow B 3 1 v1 n (idCs l)) (h2 : w.ownsRow C 3 1 v2 n (idCs l)) (hn : n = l.length) (hl : n ≤ 100000) :
    Calls Try.prog 29 #[v1, v2] w fun e w' => e = .returned (.bool true) ∧ Below w.heap.size w w' := by
  obtain ⟨a1, c1, rfl⟩ := own_slice h1
  obtain ⟨a2, c2, rfl⟩ := own_slice h2
  have H1 := Hid.mk h1
  have H2 := Hid.mk h2
  have HN := Hid.mk hn
  clear h1 h2 hn
  go_enter Try.func29, Try.ntmps29
  go_wp2_with fail
  go_loopw [5] (fun c wr => ∃ i : Nat, i ≤ n ∧ c = .int .i64 i ∧ ∃ k, wr = w.drewN k) (fun c _ => n - (intOf c).toNat)
  case atStart => exact ⟨0, Nat.zero_le _, rfl, 0, rfl⟩
  case round =>
    obtain ⟨i, hi, rfl, kq, hkq⟩ := hrel
    have hbq : Below w.heap.size w wr := by rw [hkq]; exact below_drewN (Below.refl _ _) _
    have HKQ := Hid.mk hkq
    have HBQ := Hid.mk hbq
    clear hkq
    by_cases hlt : i < n
    · have hltI : (i : Int) < (n : Int) := by omega
      obtain ⟨p, hp⟩ : ∃ p, l[i]? = some p := ⟨_, List.getElem?_eq_getElem (by rw [← HN.out]; exact hlt)⟩
      have own : ∀ {D : Nat} {a : Option Addr} {c : Nat}, w.ownsRow D 3 1 (.slice a n c) n (idCs l) → ∃ g, a = some ⟨g, 0, none⟩ ∧ wr.cell? ⟨g, i, none⟩ = some (.int .i64 (p.id : Int)) := fun {D a c} h => by
        rcases h.2 with ⟨_, h0⟩ | ⟨g, cap2, cur, e, _⟩
        · omega
        · injection e with e
          subst e
          exact ⟨g, rfl, ids_get (owns_below h hbq) hp⟩
      obtain ⟨g1, rfl, p0⟩ := own H1.out
      obtain ⟨g2, rfl, r0⟩ := own H2.out
      obtain ⟨z, hz⟩ : ∃ z : Int, z = (p.id : Int) := ⟨_, rfl⟩
      rw [← hz] at p0 r0
      clear own hp hz hbq
      go_wp2_with fail
      go_region
      go_wp2
      go_roundw
      case rel => exact ⟨i + 1, by omega, by go_num, kq + 1, by rw [HKQ.out]; rfl⟩
      case measure => simp [intOf]; omega
    · have hltI : ¬ (i : Int) < (n : Int) := by omega
      go_wp2
      go_ret
      exact ⟨rfl, HBQ.out⟩
set_option maxRecDepth 100000 in
theorem sameInts_any {w : World} {B C n : Nat} {v1 v2 : Value} {l : List Pk} (h1 : w.ownsRow B 3 1 v1 n (idCs l)) (h2 : w.ownsRow C 3 1 v2 n (idCs l)) (hn : n = l.length) (hl : n ≤ 100000) :
    Calls Try.prog 18 #[v1, v2] w fun e w' => e = .returned (.bool true) ∧ Below w.heap.size w w' := by
  have C1 := Hid.mk (rsame_any h1 h2 hn hl)
  obtain ⟨a1, c1, rfl⟩ := own_slice h1
  obtain ⟨a2, c2, rfl⟩ := own_slice h2
  clear h1 h2 hn hl
  go_enter Try.func18, Try.ntmps18
  go_wp2_with fail
  refine C1.out.mono ?_
  rintro e w1 ⟨rfl, hb⟩
  have HB := Hid.mk hb
  clear hb
  go_wp2
  go_ret
  exact ⟨rfl, HB.out⟩
end Go.Proofs.Ytnkgbinogblemaa
