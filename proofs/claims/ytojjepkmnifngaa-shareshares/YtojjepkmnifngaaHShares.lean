/- All shares, and Shares: the program's. -/
import Derived.Test.YtojjepkmnifngaaHEach
namespace Go.Proofs.Ytojjepkmnifngaa
open Go.RowKit
section
variable {P : Program} (w : World)
theorem own_prefix {w : World} {base : Nat} {e : TypeId} {size g n m cap : Nat} {xs news : List Value} (h : w.ownsRow base e size (.slice (some ⟨g, 0, none⟩) (n + m) cap) (n + m) (xs ++ news)) (hx : xs.length = n * size) : w.ownsRow base e size (.slice (some ⟨g, 0, none⟩) n cap) n xs := by
  refine ⟨hx, ?_⟩
  rcases h.2 with ⟨h0, _⟩ | ⟨g', cap', cur, hv, hb, hg, hnc, hcm, hcs, htk⟩
  · cases h0
  · injection hv with e1 e2 e3
    injection e1 with e1
    injection e1 with e1
    subst e1 e3
    refine .inr ⟨g, cap, cur, rfl, hb, hg, by omega, hcm, hcs, ?_⟩
    have : (cur.toList.take ((n + m) * size)).take (n * size) = (xs ++ news).take (n * size) := by rw [htk]
    rw [List.take_take, Nat.min_eq_left (Nat.mul_le_mul_right _ (by omega)), ← hx, List.take_left] at this
    rw [← hx]; exact this
/-- append, with what the elder slice has kept. -/
theorem run_append_both (t ty : TypeId) (base : Nat) (e : TypeId) (i : TypeInfo) (z : Value) (size bytes : Nat) (ht : P.underlying t = some (.slice e)) (hi : P.info? e = some i) (hz : i.zero = some z)
    (hsize : i.size = size) (hby : i.bytes = bytes) (hzs : z.cells.size = size) (hsz : 0 < size)
    (v : Value) (n : Nat) (xs : List Value) (hown : w.ownsRow base e size v n xs)
    (ad : Addr) (m c : Nat) (news : List Value) (hl : news.length = m * size) (hnews : ∀ j u, news[j]? = some u → w.cell? (ad.add j) = some u) (h1 : ∀ u ∈ news, u.oneCell' = true)
    (hm : 0 < m) (h63 : n + m ≤ maxLen) (hbytes : (n + m) * bytes ≤ 140737488355328) (hbase : base ≤ w.heap.size) (H : Nat) (hH : w.heap.size = H) :
    ∃ g cap w', (Builtin.append_ #[t, t] ty #[v, .slice (some ad) m c]).run P w = .ok (.slice (some ⟨g, 0, none⟩) (n + m) cap) w' ∧
      w'.ownsRow base e size (.slice (some ⟨g, 0, none⟩) (n + m) cap) (n + m) (xs ++ news) ∧ w.grownBy w' v.ownBlock ∧ (v.ownBlock = some g ∨ g = H) ∧ g < w'.heap.size ∧ w'.ownsRow base e size v n xs := by
  obtain ⟨g, cap, w', hr, h2, h3, h4, h5⟩ := run_append_lies (P := P) w t ty base e i z size bytes ht hi hz hsize hby hzs hsz v n xs hown ad m c news hl hnews h1 hm h63 hbytes hbase H hH
  refine ⟨g, cap, w', hr, h2, h3, h4, h5, ?_⟩
  rcases hown.2 with ⟨h0, h0n⟩ | ⟨g', cap', cur, hv, hb, hg, hnc, hcm, hcs, htk⟩
  · exact ⟨hown.1, .inl ⟨h0, h0n⟩⟩
  · subst hv
    by_cases hroom : n + m ≤ cap'
    · obtain ⟨w2, hr2, g2, _⟩ := run_append_own_spare (P := P) w base t ty e i size ht hi hsize g' n cap' xs hown ad m c news hl hnews h1 hroom
      rw [hr] at hr2
      injection hr2 with e1 e2
      subst e2
      exact own_prefix g2 hown.1
    · subst hsize hby
      have hr2 := run_append_grow (P := P) w t ty e i z ht hi hz ⟨g', 0, none⟩ n cap' xs hown.1 (hown.cells (g := g') rfl) ad m c news hl hnews (by omega) (by unfold maxLen at h63; omega) (growslice_fits (by omega) hbytes)
      rw [hr] at hr2
      injection hr2 with e1 e2
      rw [e2]
      exact hown.drew.alloc _
theorem step_append_both {ops : Array Oper} {o : Oper} {a : Act} {K : Act → World → Prop} {Q : Exit → Act → World → Prop} {E : Prop} (hgd : o.guard = none) (s x : Operand) (t : TypeId)
    (ho : o.op = .call { callee := .builtin .append, args := #[s, x], argTypes := #[t, t] })
    (base : Nat) (e : TypeId) (i : TypeInfo) (z : Value) (size bytes : Nat) (ht : P.underlying t = some (.slice e)) (hi : P.info? e = some i) (hz : i.zero = some z)
    (hsize : i.size = size) (hby : i.bytes = bytes) (hzs : z.cells.size = size) (hsz : 0 < size)
    (v : Value) (n : Nat) (xs : List Value) (hs : a.eval s = v) (hown : w.ownsRow base e size v n xs)
    (ad : Addr) (m c : Nat) (news : List Value) (hx : a.eval x = .slice (some ad) m c) (hl : news.length = m * size) (hnews : ∀ j u, news[j]? = some u → w.cell? (ad.add j) = some u) (h1 : ∀ u ∈ news, u.oneCell' = true)
    (hm : 0 < m) (h63 : n + m ≤ maxLen) (hbytes : (n + m) * bytes ≤ 140737488355328) (hbase : base ≤ w.heap.size) (H : Nat) (hH : w.heap.size = H)
    (h : ∀ g cap w', w'.ownsRow base e size (.slice (some ⟨g, 0, none⟩) (n + m) cap) (n + m) (xs ++ news) → w.grownBy w' v.ownBlock → (v.ownBlock = some g ∨ g = H) → g < w'.heap.size → w'.ownsRow base e size v n xs → K (a.put o.dst (.slice (some ⟨g, 0, none⟩) (n + m) cap)) w') :
    if Region.wanted o (yielded ops a.tmps) = true then Oper.wp P o a w K Q else E := by
  have hw : Region.wanted o (yielded ops a.tmps) = true := by simp [Region.wanted, hgd]
  rw [if_pos hw]
  obtain ⟨g, cap, w', hr, h2, h3, h4, h5, h6⟩ := run_append_both (P := P) w t o.type base e i z size bytes ht hi hz hsize hby hzs hsz v n xs hown ad m c news hl hnews h1 hm h63 hbytes hbase H hH
  unfold Oper.wp execOp
  simp only [ho, resolve, invoke, builtin, Sem.run_bind, Sem.run_pure, Result.andThen_ok, List.map_toArray, List.map_cons, List.map_nil, hs, hx, hr]
  exact h g cap w' h2 h3 h4 h5 h6
end

theorem own_back {w9 w' : World} {base : Nat} {e : TypeId} {size g n m cap : Nat} {v : Value} {xs news : List Value} (h1 : w9.ownsRow base e size v n xs) (hsz : 0 < size) (h9 : w9.ownsRow base e size (.slice (some ⟨g, 0, none⟩) (n + m) cap) (n + m) (xs ++ news))
    (h' : w'.ownsRow base e size (.slice (some ⟨g, 0, none⟩) (n + m) cap) (n + m) (xs ++ news)) (hk : ∀ g0, v.ownBlock = some g0 → g0 ≠ g → w'.heap[g0]? = w9.heap[g0]?) : w'.ownsRow base e size v n xs := by
  by_cases hg : v.ownBlock = some g
  · rcases h1.2 with ⟨h0, _⟩ | ⟨g1, cap1, cur1, hv, _, hg1, _, _, hcs1, _⟩
    · subst h0; cases hg
    · subst hv
      have e1 : g1 = g := by simpa [Value.ownBlock] using hg
      subst e1
      rcases h9.2 with ⟨h0, _⟩ | ⟨g2, cap2, cur2, hv2, _, hg2, _, _, hcs2, _⟩
      · cases h0
      · injection hv2 with f1 f2 f3
        injection f1 with f1
        injection f1 with f1
        subst f1 f3
        rw [hg1] at hg2
        injection hg2 with hg2
        injection hg2 with hg2
        subst hg2
        have : cap1 = cap := Nat.eq_of_mul_eq_mul_right hsz (hcs1.symm.trans hcs2)
        subst this
        exact own_prefix h' h1.1
  · refine owns_key h1 (fun g0 o hg0 ho => ?_)
    rw [hk g0 hg0 (fun e => hg (by rw [← e]; exact hg0))]
    exact ho

abbrev fnT (ab lb bb : Nat) : Value := .func (.func 29) #[] #[.pointer (some ⟨ab, 0, none⟩), .pointer (some ⟨lb, 0, none⟩), .pointer (some ⟨bb, 0, none⟩)]
def toldL (k most : Nat) (B : List Int) (p : Nat) : List (List Int) := (List.range p).flatMap fun s => (allI k (most / (s + 1))).map fun r => B ++ (((s + 1 : Nat) : Int) :: r)
theorem toldL_all (k most : Nat) (B : List Int) : toldL k most B most = (allI (k + 1) most).map (B ++ ·) := by
  unfold toldL
  rw [allI, List.map_flatMap]
  refine flatMap_congrH (fun s _ => ?_)
  rw [List.map_map]
  rfl
theorem toldL_succ (k most : Nat) (B : List Int) (p : Nat) : toldL k most B (p + 1) = toldL k most B p ++ (allI k (most / (p + 1))).map ((B ++ [((p + 1 : Nat) : Int)]) ++ ·) := by
  unfold toldL
  rw [List.range_succ, List.flatMap_append]
  congr 1
  simp
/-- What eachShares ends with. -/
def EacE (base ab lb bb : Nat) (av : Value) (A : List At) (S : Nat → Prop) (w : World) (v : Value) (B : List Int) (l : List (List Int)) (e : Ending) (w' : World) : Prop :=
  e = .returned (.tuple #[]) ∧ LI base ab lb bb av A S w' l ∧ w'.ownsRow base 3 1 v B.length (B.flatMap csZ) ∧ Fr (fun b => KP base lb bb S b ∧ v.ownBlock ≠ some b) w w'
theorem li_step {base ab lb bb : Nat} {av : Value} {A : List At} {S : Nat → Prop} {wx w9 : World} {o : Obj} {l : List (List Int)} {v : Value} {gg : Nat} (hx : Bx base ab lb bb) (h : LI base ab lb bb av A S wx l) (hvS : ∀ g, v.ownBlock = some g → S g) (hg : (wx.drew.alloc o).grownBy w9 v.ownBlock) (hat : v.ownBlock = some gg ∨ gg = wx.heap.size + 1) (hlt : gg < w9.heap.size) :
    LI base ab lb bb av A (fun b => S b ∨ b = gg) w9 l := by
  have hz : wx.heap.size + 1 ≤ w9.heap.size := by simpa using hg.size
  refine h.grow hx (by omega) (fun k hk hn => ?_) (fun k hk => ?_)
  · rw [hg.block k (by simp; omega) (fun e => hn (hvS k e.symm)), heap_alloc_old _ _ (show k < wx.drew.heap.size from hk)]
    rfl
  · rcases hk with hk | rfl
    · exact .inl ⟨hk, (h.low k hk).1⟩
    · rcases hat with hat | hat
      · have := hvS _ hat; exact .inl ⟨this, (h.low _ this).1⟩
      · exact .inr ⟨by omega, hlt⟩
theorem fr_step {base ab lb bb : Nat} {av : Value} {A : List At} {S : Nat → Prop} {w wx w9 w3 : World} {o : Obj} {l : List (List Int)} {v : Value} {gg n2 cap2 : Nat} (h : LI base ab lb bb av A S wx l) (hf : Fr (fun b => KP base lb bb S b ∧ v.ownBlock ≠ some b) w wx) (hg : (wx.drew.alloc o).grownBy w9 v.ownBlock) (hat : v.ownBlock = some gg ∨ gg = wx.heap.size + 1)
    (hf3 : Fr (fun b => KP base lb bb (fun b => S b ∨ b = gg) b ∧ (Value.slice (some ⟨gg, 0, none⟩) n2 cap2).ownBlock ≠ some b) w9 w3) : Fr (fun b => KP base lb bb S b ∧ v.ownBlock ≠ some b) w w3 := by
  have hz : wx.heap.size + 1 ≤ w9.heap.size := by simpa using hg.size
  have hbs := h.bs
  refine hf.trans ⟨hf3.os.trans hg.os, hf3.tape.trans hg.tape, hf3.output.trans hg.output, by have := hf3.size; omega, fun k hk => ?_⟩
  have hklt : k < wx.heap.size := by
    rcases hk.1 with h1 | h1
    · have := h1.1; omega
    · exact (h.low k h1).2
  have hne : k ≠ gg := by
    rintro rfl
    rcases hat with hat | hat
    · exact hk.2 hat
    · omega
  rw [hf3.block k ⟨hk.1.imp id .inl, fun e => hne (by simpa [Value.ownBlock] using e.symm)⟩, hg.block k (by simp; omega) (fun e => hk.2 e.symm), heap_alloc_old _ _ (show k < wx.drew.heap.size from hklt)]
  rfl
set_option maxHeartbeats 8000000 in
set_option maxRecDepth 100000 in
theorem each_any {base ab lb bb : Nat} {av : Value} {A : List At} (hx : Bx base ab lb bb) {n : Nat} (hn : n ≤ 6) (hA : FitD n A) : ∀ (k : Nat) (B : List Int) (v : Value) (w : World) (l : List (List Int)) (S : Nat → Prop) (most : Nat), B.length + k = n → LI base ab lb bb av A S w l → w.ownsRow base 3 1 v B.length (B.flatMap csZ) →
    (∀ g, v.ownBlock = some g → S g) → 1 ≤ most → most ≤ 64 → (∀ x ∈ B, 1 ≤ x) → prodI B * (most : Int) ≤ 64 →
    Calls Try.prog 28 #[.int .i64 (most : Int), .int .i64 (n : Int), fnT ab lb bb, v] w (EacE base ab lb bb av A S w v B (l ++ (allI k most).map (B ++ ·))) := by
  obtain ⟨i0, hi0, hz0, hz1, hz2⟩ := info_parts infoZ
  intro k
  induction k with
  | zero =>
    intro B v w l S most hbk hli hown hvS hm1 hm64 hpos hprod
    have hpB := prodI_pos hpos
    have hok : okL B = true := okL_iff.2 ⟨by omega, hpos, by
      have : prodI B * 1 ≤ prodI B * (most : Int) := Int.mul_le_mul_of_nonneg_left (by omega) (by omega)
      omega⟩
    have hlen : B.length = n := by omega
    have HC := Hid.mk (tell_any hx hli (own_int hown rfl) hok (by rw [hlen]; exact hA))
    obtain ⟨ao, cap, hv⟩ := own_slice hown
    subst hv
    have HF : Hid (∀ w', LI base ab lb bb av A S w' (l ++ [B]) → Fr (KP base lb bb S) w w' → EacE base ab lb bb av A S w (.slice ao B.length cap) B (l ++ (allI 0 most).map (B ++ ·)) (.returned (.tuple #[])) w') := Hid.mk (fun w' h1 h2 => by
      refine ⟨rfl, by simpa [allI] using h1, owns_key hown (fun g o hg ho => (h2.block g (.inr (hvS g hg))).trans ho), h2.sub (fun b hb => hb.1)⟩)
    rw [hlen] at HC HF ⊢
    clear hli hown hvS hpos hprod hbk hok hpB hlen
    go_enter Try.func28, Try.ntmps28
    go_wp2_with fail
    refine HC.out.mono ?_
    rintro e w1 ⟨rfl, h1, h2⟩
    have HE := Hid.mk (HF.out w1 h1 h2)
    clear h1 h2
    go_wp2
    go_end0
    exact HE.out
  | succ k ih =>
    intro B v w l S most hbk hli hown hvS hm1 hm64 hpos hprod
    have hpB := prodI_pos hpos
    obtain ⟨ao, cap, hv⟩ := own_slice hown
    obtain ⟨nb, hnb⟩ : ∃ nb, nb = B.length := ⟨_, rfl⟩
    have HLI := Hid.mk hli
    have HOWN := Hid.mk hown
    have HVS := Hid.mk hvS
    have HPOS := Hid.mk hpos
    have HPROD := Hid.mk hprod
    rw [← toldL_all]
    have HF : Hid (∀ w', LI base ab lb bb av A S w' (l ++ toldL k most B most) → w'.ownsRow base 3 1 v B.length (B.flatMap csZ) → Fr (fun b => KP base lb bb S b ∧ v.ownBlock ≠ some b) w w' → EacE base ab lb bb av A S w v B (l ++ toldL k most B most) (.returned (.tuple #[])) w') := Hid.mk (fun w' h1 h2 h3 => ⟨rfl, h1, h2, h3⟩)
    rw [← hnb] at hv hbk HOWN HF
    subst hv
    have HNB := Hid.mk hnb
    have HIH := Hid.mk ih
    have hne : ¬ (nb : Int) = (n : Int) := by omega
    have hne2 : ((nb : Int) == (n : Int)) = false := beq_eq_false_iff_ne.2 hne
    have hnbn : nb ≤ 5 := by omega
    have HBK := Hid.mk hbk
    clear hli hown hvS hpos hprod hnb ih hbk
    go_enter Try.func28, Try.ntmps28
    go_wp2_with fail
    go_loopw [8] (fun c wr => ∃ p q : Nat, q = p + 1 ∧ p ≤ most ∧ c = .int .i64 (q : Int) ∧ LI base ab lb bb av A S wr (l ++ toldL k most B p) ∧ wr.ownsRow base 3 1 (.slice ao nb cap) nb (B.flatMap csZ) ∧ Fr (fun b => KP base lb bb S b ∧ (Value.slice ao nb cap).ownBlock ≠ some b) w wr) (fun c _ => most + 1 - (intOf c).toNat)
    case atStart => exact ⟨0, 1, rfl, Nat.zero_le _, rfl, by simpa [toldL] using HLI.out, HOWN.out, Fr.refl _ _⟩
    case round =>
      obtain ⟨p, q, hq, hp, rfl, hli, hown, hfr⟩ := hrel
      obtain ⟨wx, hwx⟩ : ∃ wx, wx = wr := ⟨_, rfl⟩
      subst hwx
      have HLX := Hid.mk hli
      have HOX := Hid.mk hown
      have HFX := Hid.mk hfr
      have hbx : base ≤ wx.heap.size := hli.bs
      clear hli hown hfr
      have HQ := Hid.mk hq
      by_cases hlt : p < most
      · have hq1 : 1 ≤ q := by omega
        have hqm : q ≤ most := by omega
        have hltI : (q : Int) ≤ (most : Int) := by omega
        have hdiv : ((most : Int)).tdiv (q : Int) = ((most / q : Nat) : Int) := by rw [Int.tdiv_eq_ediv_of_nonneg (by omega)]; rfl
        have hd1 : 1 ≤ most / q := (Nat.le_div_iff_mul_le (by omega)).2 (by omega)
        have hd64 : most / q ≤ 64 := Nat.le_trans (Nat.div_le_self _ _) hm64
        have HPR : Hid (prodI (B ++ [(q : Int)]) * ((most / q : Nat) : Int) ≤ 64) := Hid.mk (by
          rw [prodI_app, prodI, prodI, Int.mul_one, Int.mul_assoc, ← Int.natCast_mul]
          have h1 : q * (most / q) ≤ most := Nat.mul_div_le most q
          have h2 : prodI B * ((q * (most / q) : Nat) : Int) ≤ prodI B * (most : Int) := Int.mul_le_mul_of_nonneg_left (by omega) (by omega)
          have := HPROD.out
          omega)
        have HQP : Hid (∀ x ∈ B ++ [(q : Int)], 1 ≤ x) := Hid.mk (fun x hx => by
          rcases List.mem_append.1 hx with hx | hx
          · exact HPOS.out x hx
          · rw [List.mem_singleton.1 hx]; omega)
        obtain ⟨d, hd⟩ : ∃ d, d = most / q := ⟨_, rfl⟩
        rw [← hd] at hdiv hd1 hd64 HPR
        have HD := Hid.mk hd
        have HCALL : Hid (∀ (g cap2 : Nat) (W : World), W.ownsRow base 3 1 (.slice (some ⟨g, 0, none⟩) (nb + 1) cap2) (nb + 1) (B.flatMap csZ ++ csZ (q : Int)) → LI base ab lb bb av A (fun b => S b ∨ b = g) W (l ++ toldL k most B p) →
            Calls Try.prog 28 #[.int .i64 (d : Int), .int .i64 (n : Int), fnT ab lb bb, .slice (some ⟨g, 0, none⟩) (nb + 1) cap2] W (EacE base ab lb bb av A (fun b => S b ∨ b = g) W (.slice (some ⟨g, 0, none⟩) (nb + 1) cap2) (B ++ [(q : Int)]) (l ++ toldL k most B p ++ (allI k d).map ((B ++ [(q : Int)]) ++ ·)))) := Hid.mk (fun g cap2 W h1 h2 =>
          HIH.out (B ++ [(q : Int)]) _ W _ (fun b => S b ∨ b = g) d (by have := HBK.out; rw [List.length_append, ← HNB.out]; simp; omega) h2 (by rw [List.length_append, ← HNB.out, List.flatMap_append]; exact h1) (fun g' hg' => .inr (by simpa [Value.ownBlock] using hg'.symm)) hd1 hd64 HQP.out HPR.out)
        have hqz : ¬ q = 0 := by omega
        have hqz1 : ¬ (q : Int) = 0 := by omega
        have hqz2 : ((q : Int) == 0) = false := beq_eq_false_iff_ne.2 hqz1
        have hwd : IntKind.i64.wrap (d : Int) = (d : Int) := by rw [IntKind.wrap_i64]; omega
        clear hd hq hp hlt
        go_wp2_with fail
        go_region_law (first
          | (refine step_append_both _ (by rfl) _ _ _ (by rfl) base 3 i0 _ 1 8 Try.underlying24 hi0 hz0 hz1 hz2 rfl (by decide) (.slice ao nb cap) nb (B.flatMap csZ) (by rfl) (HOX.out.drew.alloc _) ⟨wx.heap.size, 0, none⟩ 1 1 (csZ (q : Int)) (by rfl) (by rfl) (World.news_of_block (cs := #[.int .i64 (q : Int)]) (t := 3) (fr := (0, 0)) (heap_alloc_new wx.drew _)) (by simp [Value.oneCell']) (by decide) (by unfold maxLen; omega) (by omega) (by simp; omega) (wx.heap.size + 1) (by simp) ?_; intro gg cap2 w9 hown9 hgrow9 hat9 hlt9 hold9; have hli9 : LI base ab lb bb av A (fun b => S b ∨ b = gg) w9 (l ++ toldL k most B p) := li_step hx HLX.out HVS.out hgrow9 hat9 hlt9)
          | (go_simp; refine (HCALL.out gg cap2 w9 hown9 hli9).mono ?_; rintro e w3 ⟨rfl, hli3, hown3, hfr3⟩))
        all_goals (
          have HL3 : Hid (LI base ab lb bb av A S w3 (l ++ toldL k most B (p + 1))) := Hid.mk (by
            have h := hli3.sub (S' := S) (fun b hb => .inl hb)
            rw [toldL_succ, ← List.append_assoc, ← HQ.out, ← HD.out]
            exact h)
          have HO3 : Hid (w3.ownsRow base 3 1 (.slice ao nb cap) nb (B.flatMap csZ)) := Hid.mk (by
            refine own_back (g := gg) (m := 1) (cap := cap2) (news := csZ (q : Int)) hold9 (by decide) hown9 (by rw [List.length_append, ← HNB.out, List.flatMap_append] at hown3; exact hown3) (fun g0 hg0 hne0 => hfr3.block g0 ⟨.inr (.inl (HVS.out g0 hg0)), fun e => hne0 (by simpa [Value.ownBlock] using e.symm)⟩))
          have HF3 : Hid (Fr (fun b => KP base lb bb S b ∧ (Value.slice ao nb cap).ownBlock ≠ some b) w w3) := Hid.mk (fr_step HLX.out HFX.out hgrow9 hat9 hfr3)
          clear hown9 hgrow9 hat9 hlt9 hold9 hli9 hli3 hown3 hfr3
          go_wp2
          go_roundw
          case rel => exact ⟨p + 1, q + 1, by have := HQ.out; omega, by have := HQ.out; omega, by go_num, HL3.out, HO3.out, HF3.out⟩
          case measure => simp [intOf]; omega)
      · have hltI : ¬ (q : Int) ≤ (most : Int) := by omega
        have HE : Hid (p = most) := Hid.mk (by omega)
        rw [HE.out] at HLX
        have HFIN := Hid.mk (HF.out wx HLX.out HOX.out HFX.out)
        clear hq
        go_wp2
        go_end0
        exact HFIN.out
end Go.Proofs.Ytojjepkmnifngaa
