/- The lightest shares, and Shares: the program's. -/
import Derived.Test.YtojjepkmnifngaaHShares
namespace Go.Proofs.Ytojjepkmnifngaa
open Go.RowKit

set_option maxHeartbeats 4000000 in
set_option maxRecDepth 100000 in
theorem lightest_any {T : Nat → Prop} {w : World} {v : Value} {A : List At} (h : LoadS T w v A) {n : Nat} (hn : n ≤ 6) (hA : FitD n A) (most : Nat) (hm1 : 1 ≤ most) (hm2 : most ≤ 64) :
    Calls Try.prog 17 #[.int .i64 (most : Int), .int .i64 (n : Int), v] w fun e w' => (∃ v', e = .returned v' ∧ IntZ (fun k => w.heap.size ≤ k) w' v' (bst (fA A) (allI n most)).1) ∧ Below w.heap.size w w' := by
  obtain ⟨xa, xc, hv0⟩ := h.sl.slice
  obtain ⟨na, hna⟩ : ∃ na, na = A.length := ⟨_, rfl⟩
  rw [← hna] at hv0
  clear hna
  subst hv0
  have hx : Bx (w.heap.size + 3) w.heap.size (w.heap.size + 1 + 1) (w.heap.size + 1) := ⟨by omega, by omega, by omega, by omega, by omega, by omega⟩
  obtain ⟨W, hW⟩ : ∃ W, W = ((w.alloc (.cells #[.slice xa na xc] 38)).alloc (.cells #[.slice none 0 0] 24)).alloc (.cells #[.int .i64 (-1)] 3) := ⟨_, rfl⟩
  have hz : W.heap.size = w.heap.size + 3 := by rw [hW]; simp
  have hb : Below w.heap.size w W := by
    rw [hW]
    exact (((Below.refl _ _).alloc (Nat.le_refl _) _).alloc (by simp) _).alloc (by simp; omega) _
  have e2 : VRow W (w.heap.size + 1 + 1) 3 [.int .i64 (-1)] := by
    rw [hW]
    have := heap_alloc_new ((w.alloc (.cells #[.slice xa na xc] 38)).alloc (.cells #[.slice none 0 0] 24)) (.cells #[.int .i64 (-1)] 3)
    simpa [VRow] using this
  have e1 : VRow W (w.heap.size + 1) 24 [.slice none 0 0] := by
    rw [hW]
    have := heap_alloc_new (w.alloc (.cells #[.slice xa na xc] 38)) (.cells #[.slice none 0 0] 24)
    unfold VRow
    rw [heap_alloc_old _ _ (by simp)]
    simpa using this
  have e0 : VRow W w.heap.size 38 [.slice xa na xc] := by
    rw [hW]
    unfold VRow
    rw [heap_alloc_old _ _ (by simp; omega), heap_alloc_old _ _ (by simp)]
    exact heap_alloc_new _ _
  have hli : LI (w.heap.size + 3) w.heap.size (w.heap.size + 1 + 1) (w.heap.size + 1) (.slice xa na xc) A (fun _ => False) W [] := by
    refine ⟨fun k hk => hk.elim, by omega, e0.one.1, ?_, e2, _, e1, SlS.nil _ _⟩
    have hq : ∀ b, T b → b < w.heap.size → TK (w.heap.size + 3) (w.heap.size + 1 + 1) (w.heap.size + 1) b ∧ W.heap[b]? = w.heap[b]? := fun b _ hl => ⟨⟨by omega, by omega, by omega⟩, hb.block b hl⟩
    exact ⟨h.sl.keep hb.size hq, fun a ha => (h.el a ha).keep hb.size hq⟩
  have HC := Hid.mk (each_any hx hn hA n [] (.slice none 0 0) W [] (fun _ => False) most (by simp) hli (World.ownsRow_nil _ _ _ _) (fun g hg => by simp [Value.ownBlock] at hg) hm1 hm2 (by simp) (by simp [prodI]; omega))
  have HFIN : Hid (∀ e w', EacE (w.heap.size + 3) w.heap.size (w.heap.size + 1 + 1) (w.heap.size + 1) (.slice xa na xc) A (fun _ => False) W (.slice none 0 0) [] ([] ++ (allI n most).map ([] ++ ·)) e w' → e = .returned (.tuple #[]) ∧ ∃ bv, w'.cell? ⟨w.heap.size + 1, 0, none⟩ = some bv ∧ IntZ (fun k => w.heap.size ≤ k) w' bv (bst (fA A) (allI n most)).1 ∧ Below w.heap.size w w') := Hid.mk (fun e w' hE => by
    obtain ⟨h1, h2, _, h4⟩ := hE
    obtain ⟨bv, g1, g2⟩ := h2.rb
    have el : ([] : List (List Int)) ++ (allI n most).map ([] ++ ·) = allI n most := by simp
    rw [el] at g2
    refine ⟨h1, bv, g1.one.1, g2.sub (fun b hb _ => by omega), ⟨h4.os.trans hb.os, h4.tape.trans hb.tape, h4.output.trans hb.output, Nat.le_trans hb.size h4.size, fun k hk => ?_⟩⟩
    rw [h4.block k ⟨.inl ⟨by omega, by omega, by omega⟩, by simp [Value.ownBlock]⟩]
    exact hb.block k hk)
  clear hli e0 e1 e2 hb hz h hA hx
  go_enter Try.func17, Try.ntmps17
  go_wp2_with fail
  rw [← hW]
  refine HC.out.mono ?_
  intro e w1 hE
  obtain ⟨rfl, bv, q0, hbv, hb1⟩ := HFIN.out e w1 hE
  obtain ⟨ba, bc, hv⟩ := hbv.slice
  obtain ⟨nn, hnn⟩ : ∃ nn, nn = (bst (fA A) (allI n most)).1.length := ⟨_, rfl⟩
  rw [← hnn] at hv
  subst hv
  have HBV := Hid.mk hbv
  have HB1 := Hid.mk hb1
  clear hE hbv hb1 hnn
  go_wp2
  go_ret
  exact ⟨⟨_, rfl, HBV.out⟩, HB1.out⟩

/-- Atoms with their sizes. -/
def zipA (G : List Vz) (zs : List Int) : List (List Int × Int) := (G.map (·.2)).zip zs
/-- May shares be asked for? -/
def askS (a k : Int) (G : List Vz) (zs : List Int) : Prop := (1 ≤ a ∧ a ≤ 64) ∧ (0 ≤ k ∧ k ≤ 6) ∧ zs.length = G.length ∧ zs.length ≤ 12 ∧ FitA k.toNat (zipA G zs)
def shaM (a k : Nat) (P : List (List Int × Int)) : List Int := (bst (fun L => loadP L (onceA P)) (allI k a)).1
/-- What Shares ends with. -/
def ShaE (a k : Int) (G : List Vz) (zs : List Int) (w : World) (e : Ending) (w' : World) : Prop :=
  Below w.heap.size w w' ∧ ((askS a k G zs ∧ ∃ v, e = .returned (.tuple #[v, .int .i64 0]) ∧ IntZ (fun b => w.heap.size ≤ b) w' v (shaM a.toNat k.toNat (zipA G zs))) ∨ (¬ askS a k G zs ∧ e = .returned (.tuple #[.slice none 0 0, .int .i64 1])))
theorem infoAt : (Try.prog.info? 42).map (fun i => (i.zero, i.size, i.bytes)) = some (some (.agg #[.slice none 0 0, .int .i64 0]), 2, 32) := by kernel_rfl
theorem zip_at {G : List Vz} {zs : List Int} {i : Nat} {p : Vz} {z : Int} (h1 : G[i]? = some p) (h2 : zs[i]? = some z) : (zipA G zs)[i]? = some (p.2, z) := by
  unfold zipA
  rw [List.getElem?_zip_eq_some, List.getElem?_map, h1]
  exact ⟨rfl, h2⟩
theorem zip_mem {G : List Vz} {zs : List Int} {i : Nat} {p : Vz} {z : Int} (h1 : G[i]? = some p) (h2 : zs[i]? = some z) : (p.2, z) ∈ zipA G zs := List.mem_of_getElem? (zip_at h1 h2)
/-- Atoms that are gathered. -/
structure Gat (B : Nat) (w : World) (u : Value) (A : List At) : Prop where
  row : w.ownsRow B 42 2 u A.length (A.flatMap csL)
  el : ∀ a ∈ A, IntZ (fun k => B ≤ k ∧ u.ownBlock ≠ some k) w a.v a.d
theorem Gat.below {B : Nat} {w w' : World} {u : Value} {A : List At} (h : Gat B w u A) (hb : Below w.heap.size w w') : Gat B w' u A := ⟨owns_below h.row hb, fun a ha => (h.el a ha).below hb⟩
theorem Gat.load {B : Nat} {w : World} {u : Value} {A : List At} (h : Gat B w u A) : LoadS (fun _ => True) w u A := ⟨(own_sl (enc := csL) (k := 2) (fun _ => rfl) h.row rfl).sub (fun _ _ _ => trivial), fun a ha => (h.el a ha).sub (fun _ _ _ => trivial)⟩
set_option maxHeartbeats 8000000 in
set_option maxRecDepth 100000 in
theorem shares_any {T : Nat → Prop} {w : World} {v1 v2 : Value} {G : List Vz} {zs : List Int} (h1 : AtmS T w v1 G) (h2 : IntZ T w v2 zs) (a k : Int) :
    Calls Try.prog 7 #[.int .i64 a, .int .i64 k, v1, v2] w (ShaE a k G zs w) := by
  obtain ⟨i0, hi0, hz0, hz1, hz2⟩ := info_parts infoAt
  obtain ⟨a1, c1, rfl⟩ := h1.sl.slice
  obtain ⟨a2, c2, rfl⟩ := h2.slice
  have H1 := Hid.mk h1
  have H2 := Hid.mk h2
  have HQ1 : Hid (askS a k G zs → ∀ e w', Below w.heap.size w w' → (∃ v, e = .returned (.tuple #[v, .int .i64 0]) ∧ IntZ (fun b => w.heap.size ≤ b) w' v (shaM a.toNat k.toNat (zipA G zs))) → ShaE a k G zs w e w') := Hid.mk (fun x e w' b c => ⟨b, .inl ⟨x, c⟩⟩)
  have HQ2 : Hid (¬ askS a k G zs → ∀ w', Below w.heap.size w w' → ShaE a k G zs w (.returned (.tuple #[.slice none 0 0, .int .i64 1])) w') := Hid.mk (fun x w' b => ⟨b, .inr ⟨x, rfl⟩⟩)
  clear h1 h2
  obtain ⟨n1, hn1⟩ : ∃ n, n = G.length := ⟨_, rfl⟩
  obtain ⟨n2, hn2⟩ : ∃ n, n = zs.length := ⟨_, rfl⟩
  rw [← hn1] at H1 ⊢
  rw [← hn2] at H2 ⊢
  have HN1 := Hid.mk hn1
  have HN2 := Hid.mk hn2
  clear hn1 hn2
  by_cases g1 : a < 1
  · have HNO : Hid (¬ askS a k G zs) := Hid.mk (fun ⟨x, _⟩ => by omega)
    go_enter Try.func7, Try.ntmps7
    go_wp2
    go_ret2
    exact HQ2.out HNO.out _ (Below.refl _ _)
  by_cases g2 : 64 < a
  · have HNO : Hid (¬ askS a k G zs) := Hid.mk (fun ⟨x, _⟩ => by omega)
    go_enter Try.func7, Try.ntmps7
    go_wp2
    go_ret2
    exact HQ2.out HNO.out _ (Below.refl _ _)
  by_cases g3 : k < 0
  · have HNO : Hid (¬ askS a k G zs) := Hid.mk (fun ⟨_, x, _⟩ => by omega)
    go_enter Try.func7, Try.ntmps7
    go_wp2
    go_ret2
    exact HQ2.out HNO.out _ (Below.refl _ _)
  by_cases g4 : 6 < k
  · have HNO : Hid (¬ askS a k G zs) := Hid.mk (fun ⟨_, x, _⟩ => by omega)
    go_enter Try.func7, Try.ntmps7
    go_wp2
    go_ret2
    exact HQ2.out HNO.out _ (Below.refl _ _)
  by_cases g5 : ¬ n2 = n1
  · have HNO : Hid (¬ askS a k G zs) := Hid.mk (fun ⟨_, _, x, _⟩ => g5 (by rw [HN1.out, HN2.out]; exact x))
    have hd : ((n2 : Int) != (n1 : Int)) = true := by simp; omega
    clear g5
    go_enter Try.func7, Try.ntmps7
    go_wp2
    go_ret2
    exact HQ2.out HNO.out _ (Below.refl _ _)
  have g5e : n2 = n1 := Decidable.of_not_not g5
  rw [g5e] at H2 HN2 ⊢
  clear g5 g5e n2
  by_cases g6 : 12 < n1
  · have HNO : Hid (¬ askS a k G zs) := Hid.mk (fun ⟨_, _, _, x, _⟩ => by have := HN2.out; omega)
    have hI : (12 : Int) < (n1 : Int) := by omega
    go_enter Try.func7, Try.ntmps7
    go_wp2
    go_ret2
    exact HQ2.out HNO.out _ (Below.refl _ _)
  obtain ⟨m, rfl⟩ : ∃ m : Nat, a = (m : Int) := ⟨a.toNat, by omega⟩
  obtain ⟨j, rfl⟩ : ∃ j : Nat, k = (j : Int) := ⟨k.toNat, by omega⟩
  have hI : ¬ (12 : Int) < (n1 : Int) := by omega
  go_enter Try.func7, Try.ntmps7
  go_wp2_with fail
  go_loopw [10, 41] (fun vl c wr => ∃ (i : Nat) (u : Value) (A : List At), u = vl ∧ i ≤ n1 ∧ c = .int .i64 i ∧ A.length = i ∧ A.map At.pr = onceA ((zipA G zs).take i) ∧ FitA j ((zipA G zs).take i) ∧ Gat w.heap.size wr u A ∧ Below w.heap.size w wr) (fun _ c _ => n1 - (intOf c).toNat)
  case atStart => exact ⟨0, _, [], rfl, Nat.zero_le _, rfl, rfl, rfl, by simp [FitA], ⟨World.ownsRow_nil _ _ _ _, by simp⟩, Below.refl _ _⟩
  case round =>
    obtain ⟨i, u, A, rfl, hi, rfl, hal, hpr, hfit, hgat, hbw⟩ := hrel
    obtain ⟨wx, hwx⟩ : ∃ wx, wx = wr := ⟨_, rfl⟩
    subst hwx
    obtain ⟨ua, uc, hu⟩ := own_slice hgat.row
    rw [hal] at hu
    subst hu
    have HGAT := Hid.mk hgat
    have HBW := Hid.mk hbw
    have HPR := Hid.mk hpr
    have HFIT := Hid.mk hfit
    have HAL := Hid.mk hal
    have hsx : w.heap.size ≤ wx.heap.size := hbw.size
    clear hgat hbw hpr hfit hal
    by_cases hlt : i < n1
    · have hltI : (i : Int) < (n1 : Int) := by omega
      obtain ⟨p, hp⟩ : ∃ p, G[i]? = some p := ⟨_, List.getElem?_eq_getElem (by rw [← HN1.out]; exact hlt)⟩
      obtain ⟨z, hz⟩ : ∃ z, zs[i]? = some z := ⟨_, List.getElem?_eq_getElem (by rw [← HN2.out]; exact hlt)⟩
      have HZM := Hid.mk (zip_mem hp hz)
      have HZT := Hid.mk (take_snoc (zip_at hp hz))
      obtain ⟨gg1, o1, e1, _, _, d1⟩ := (H1.out.sl.below HBW.out).get hp
      obtain ⟨gg2, o2, e2, _, _, d2⟩ := (H2.out.below HBW.out).get hz
      have q1 := getA d1
      have q2 := getZ d2
      rw [Nat.mul_one] at q1 q2
      have hel := (H1.out.below HBW.out).el p (List.mem_of_getElem? hp)
      have hle := (H1.out.le p (List.mem_of_getElem? hp)).1
      have HC := Hid.mk (variables_any hel hle j (by omega))
      obtain ⟨pv, pl⟩ := p
      simp only at q1 hel hle HC HZM HZT
      obtain ⟨pa, pc, hpv⟩ := hel.slice
      obtain ⟨np, hnp⟩ : ∃ np, np = pl.length := ⟨_, rfl⟩
      rw [← hnp] at hpv
      subst hpv
      clear hp hz d1 d2 hel hle hnp
      subst e1 e2
      go_wp2_with fail
      refine HC.out.mono ?_
      rintro e w1 ⟨hb1, h⟩
      have HB1 := Hid.mk hb1
      have HB1W : Hid (Below w.heap.size w w1) := Hid.mk (HBW.out.trans (hb1.mono hsx))
      have hs1 : wx.heap.size ≤ w1.heap.size := hb1.size
      rcases h with ⟨hall, v, rfl, hown⟩ | ⟨⟨x, hx1, hx2⟩, rfl⟩
      · obtain ⟨va, vc, hv⟩ := own_slice hown
        obtain ⟨no, hno⟩ : ∃ no, no = (onceL pl).length := ⟨_, rfl⟩
        rw [← hno] at hown hv
        subst hv
        have HOWN := Hid.mk hown
        have HALL := Hid.mk hall
        have HNO3 := Hid.mk hno
        clear hown hall hno hb1
        by_cases z1 : z < 0
        · have HNO : Hid (¬ askS (m : Int) (j : Int) G zs) := Hid.mk (fun ⟨_, _, _, _, x⟩ => by have := (x _ HZM.out).2.1; simp only at this; omega)
          go_wp2
          go_ret2
          exact HQ2.out HNO.out _ HB1W.out
        · by_cases z2 : 1048576 < z
          · have HNO : Hid (¬ askS (m : Int) (j : Int) G zs) := Hid.mk (fun ⟨_, _, _, _, x⟩ => by have := (x _ HZM.out).2.2; simp only at this; omega)
            go_wp2
            go_ret2
            exact HQ2.out HNO.out _ HB1W.out
          · have HROW : Hid (w1.ownsRow w.heap.size 42 2 (.slice ua i uc) i (A.flatMap csL)) := Hid.mk (by
              have := (HGAT.out.below HB1.out).row
              rw [HAL.out] at this
              exact this)
            go_wp2_with (at_builtin; refine wpList_append_lies _ rfl _ _ _ rfl w.heap.size 42 i0 _ 2 32 Try.underlying38 hi0 hz0 hz1 hz2 rfl (by decide) (.slice ua i uc) _ _ (by rfl) (HROW.out.alloc _) ⟨w1.heap.size, 0, none⟩ 1 1 (csL ⟨.slice va no vc, onceL pl, z⟩) (by rfl) (by rfl) (World.news_of_block (cs := #[.slice va no vc, .int .i64 z]) (t := 42) (fr := (0, 0)) (heap_alloc_new w1 _)) (by simp [Value.oneCell']) (by decide) (by unfold maxLen; omega) (by omega) (by simp; omega) (w1.heap.size + 1) (by simp) ?_)
            intro gg cap2 w9 hown9 hgrow9 hat9 hlt9
            have HB9 : Hid (Below w.heap.size w w9) := Hid.mk ((HB1W.out.alloc HB1W.out.size _).grown hgrow9 (by simp; omega) (fun k e => (HROW.out.lt k e).1))
            have HG9 : Hid (Gat w.heap.size w9 (.slice (some ⟨gg, 0, none⟩) (i + 1) cap2) (A ++ [⟨.slice va no vc, onceL pl, z⟩])) := Hid.mk (by
              have hkeep : ∀ b, b < w1.heap.size → (Value.slice ua i uc).ownBlock ≠ some b → w9.heap[b]? = w1.heap[b]? ∧ b ≠ gg := fun b hb hne => by
                refine ⟨?_, ?_⟩
                · rw [hgrow9.block b (by simp; omega) (fun e => hne e.symm), heap_alloc_old _ _ hb]
                · rintro rfl
                  rcases hat9 with h | h
                  · exact hne h
                  · omega
              have hz9 : w1.heap.size ≤ w9.heap.size := by have := hgrow9.size; simp at this; omega
              refine ⟨?_, fun a ha => ?_⟩
              · rw [List.length_append, HAL.out, List.flatMap_append]
                simpa using hown9
              · rcases List.mem_append.1 ha with ha | ha
                · refine ((HGAT.out.below HB1.out).el a ha).keep hz9 (fun b hb hl => ?_)
                  have := hkeep b hl hb.2
                  exact ⟨⟨hb.1, by simpa [Value.ownBlock] using fun e => this.2 e.symm⟩, this.1⟩
                · rw [List.mem_singleton.1 ha]
                  refine (own_int HOWN.out HNO3.out).keep hz9 (fun b hb hl => ?_)
                  have h5 := (HOWN.out.lt b hb).1
                  have := hkeep b hl (fun e => by
                    have := (own_lt HGAT.out.row e)
                    omega)
                  exact ⟨⟨by omega, by simpa [Value.ownBlock] using fun e => this.2 e.symm⟩, this.1⟩)
            have HPR2 : Hid ((A ++ [(⟨.slice va no vc, onceL pl, z⟩ : At)]).map At.pr = onceA ((zipA G zs).take (i + 1))) := Hid.mk (by
              rw [HZT.out, List.map_append, HPR.out]
              simp [onceA])
            have HFI2 : Hid (FitA j ((zipA G zs).take (i + 1))) := Hid.mk (by
              rw [HZT.out]
              intro a ha
              rcases List.mem_append.1 ha with ha | ha
              · exact HFIT.out a ha
              · rw [List.mem_singleton.1 ha]
                exact ⟨HALL.out, by simp only; omega, by simp only; omega⟩)
            clear hown9 hgrow9 hat9 hlt9
            go_wp2
            go_roundw
            case rel => exact ⟨i + 1, _, _, rfl, by omega, by go_num, by rw [List.length_append, HAL.out]; rfl, HPR2.out, HFI2.out, HG9.out, HB9.out⟩
            case measure => simp [intOf]; omega
      · have HNO : Hid (¬ askS (m : Int) (j : Int) G zs) := Hid.mk (fun ⟨_, _, _, _, y⟩ => by have := (y _ HZM.out).1 x hx1; simp only [Int.toNat_natCast] at this; omega)
        clear hx1 hx2 hb1
        go_wp2
        go_ret2
        exact HQ2.out HNO.out _ HB1W.out
    · have hltI : ¬ (i : Int) < (n1 : Int) := by omega
      have HZE : Hid ((zipA G zs).take i = zipA G zs) := Hid.mk (List.take_of_length_le (by
        unfold zipA
        rw [List.length_zip, List.length_map, ← HN1.out, ← HN2.out]
        omega))
      rw [HZE.out] at HPR HFIT
      have HASK : Hid (askS (m : Int) (j : Int) G zs) := Hid.mk ⟨by omega, by omega, by rw [← HN1.out, ← HN2.out], by rw [← HN2.out]; omega, HFIT.out⟩
      have hfd : FitD j A := by
        refine ⟨by rw [HAL.out]; omega, fun a ha => ?_⟩
        have : a.pr ∈ onceA (zipA G zs) := by rw [← HPR.out]; exact List.mem_map.2 ⟨a, ha, rfl⟩
        obtain ⟨q, hq, hq2⟩ := List.mem_map.1 this
        have hf := HFIT.out q hq
        have e1 : onceL q.1 = a.d := congrArg Prod.fst hq2
        have e2 : q.2 = a.z := congrArg Prod.snd hq2
        refine ⟨by rw [← e1]; exact onceL_nodup _, fun v hv => hf.1 v ((mem_onceL _ _).1 (by rw [e1]; exact hv)), by rw [← e2]; exact hf.2.1, by rw [← e2]; exact hf.2.2⟩
      have HC := Hid.mk (lightest_any HGAT.out.load (n := j) (by omega) hfd m (by omega) (by omega))
      have HEQ : Hid ((bst (fA A) (allI j m)).1 = shaM (m : Int).toNat (j : Int).toNat (zipA G zs)) := Hid.mk (by
        unfold shaM
        rw [Int.toNat_natCast, Int.toNat_natCast, ← HPR.out])
      rw [HEQ.out] at HC
      clear hfd
      go_wp2_with fail
      refine HC.out.mono ?_
      rintro e w2 ⟨⟨v, rfl, hv⟩, hb2⟩
      have HV : Hid (IntZ (fun b => w.heap.size ≤ b) w2 v (shaM (m : Int).toNat (j : Int).toNat (zipA G zs))) := Hid.mk (hv.sub (fun b hb _ => by omega))
      have HB2 : Hid (Below w.heap.size w w2) := Hid.mk (HBW.out.trans (hb2.mono hsx))
      clear hv hb2
      go_wp2
      go_ret2
      exact HQ1.out HASK.out _ _ HB2.out ⟨_, rfl, HV.out⟩
end Go.Proofs.Ytojjepkmnifngaa
