/- isFormed, places, pathMayBe of the program. -/
import Derived.Test.YthdnpddfdlhlaaaQState
namespace Go.Proofs.Ythdnpddfdlhlaaa
open Go.RowKit

theorem isEmpty_no {l : List UInt8} (h : l ≠ []) : l.isEmpty = false := by cases l with
  | nil => exact absurd rfl h
  | cons => rfl
theorem kind_cases (k : Int) : k = 1 ∨ k = 2 ∨ k = 3 ∨ k = 4 ∨ k = 5 ∨ k = 6 ∨ (k ≠ 1 ∧ k ≠ 2 ∧ k ≠ 3 ∧ k ≠ 4 ∧ k ≠ 5 ∧ k ≠ 6) := by omega
theorem not_both {a b : Int} (h : a ≠ b) : ¬ a = b ∧ (a == b) = false := ⟨h, beq_eq_false_iff_ne.2 h⟩

set_option maxRecDepth 100000 in
set_option maxHeartbeats 4000000 in
theorem isFormed_any {S : Nat → Prop} {w : World} {t : Vt} (h : VOk S w t) :
    Calls Try.prog 79 #[encN t] w fun e w' => e = .returned (.bool (formedP t.kind t.word t.kids.length)) ∧ Below w.heap.size w w' := by
  obtain ⟨h1, _, hle, _⟩ := h.parts
  obtain ⟨ao, cap, hv⟩ := h1.slice
  obtain ⟨k, wd, v, l⟩ := t
  dsimp only at h1 hle hv ⊢
  subst hv
  have HI := Hid.mk (isQ_any wd)
  obtain ⟨m, hm⟩ : ∃ m, m = isW wd := ⟨_, rfl⟩
  rw [← hm] at HI
  have HM := Hid.mk hm
  obtain ⟨n, hn⟩ : ∃ n, n = l.length := ⟨_, rfl⟩
  rw [← hn] at hle ⊢
  obtain ⟨ans, hans⟩ : ∃ a, a = formedP k wd n := ⟨_, rfl⟩
  rw [← hans]
  have HA := Hid.mk hans
  have HB : Hid (∀ a : Obj, Below w.heap.size w (w.alloc a)) := Hid.mk (fun a => (Below.refl _ _).alloc (Nat.le_refl _) _)
  clear h h1 hm hn hans
  rcases kind_cases k with rfl | rfl | rfl | rfl | rfl | rfl | ⟨k1, k2, k3, k4, k5, k6⟩
  · by_cases h0 : n = 0
    · subst h0
      have HF : Hid (ans = m) := Hid.mk (by rw [HA.out, HM.out]; simp [formedP])
      go_enter Try.func79, Try.ntmps79
      go_wp2_with fail
      refine (HI.out _).mono ?_
      rintro e w1 ⟨rfl, hw⟩
      subst hw
      go_wp2
      go_ret
      exact ⟨by rw [HF.out]; rfl, HB.out _⟩
    · obtain ⟨e1, e2⟩ := not_both (a := (n : Int)) (b := 0) (by omega)
      have HF : Hid (ans = false) := Hid.mk (by rw [HA.out]; simp [formedP, h0])
      clear h0
      go_enter Try.func79, Try.ntmps79
      go_wp2
      go_ret
      exact ⟨by rw [HF.out]; rfl, HB.out _⟩
  case inr.inr.inr.inr.inr.inr =>
    obtain ⟨a1, b1⟩ := not_both k1
    obtain ⟨a2, b2⟩ := not_both k2
    obtain ⟨a3, b3⟩ := not_both k3
    obtain ⟨a4, b4⟩ := not_both k4
    obtain ⟨a5, b5⟩ := not_both k5
    obtain ⟨a6, b6⟩ := not_both k6
    have HF : Hid (ans = false) := Hid.mk (by rw [HA.out]; simp [formedP, a1, a2, a3, a4, a5, a6])
    clear k1 k2 k3 k4 k5 k6
    go_enter Try.func79, Try.ntmps79
    go_wp2
    go_ret
    exact ⟨by rw [HF.out]; rfl, HB.out _⟩
  case inr.inl =>
    by_cases h2 : 2 ≤ n
    · have e1 : (2 : Int) ≤ (n : Int) := by omega
      by_cases hw : wd = []
      · subst hw
        have HF : Hid (ans = true) := Hid.mk (by rw [HA.out]; simp [formedP, h2])
        go_enter Try.func79, Try.ntmps79
        go_wp2
        go_ret
        exact ⟨by rw [HF.out]; rfl, HB.out _⟩
      · have e2 := isEmpty_no hw
        have e3 : (wd == []) = false := by simpa using hw
        have HF : Hid (ans = false) := Hid.mk (by rw [HA.out]; simp [formedP, hw])
        go_enter Try.func79, Try.ntmps79
        go_wp2
        go_ret
        exact ⟨by rw [HF.out]; rfl, HB.out _⟩
    · have e1 : ¬ (2 : Int) ≤ (n : Int) := by omega
      have HF : Hid (ans = false) := Hid.mk (by rw [HA.out]; simp [formedP, h2])
      clear h2
      go_enter Try.func79, Try.ntmps79
      go_wp2
      go_ret
      exact ⟨by rw [HF.out]; rfl, HB.out _⟩
  case inr.inr.inl =>
    by_cases h2 : 2 ≤ n
    · have e1 : (2 : Int) ≤ (n : Int) := by omega
      by_cases hw : wd = []
      · subst hw
        have HF : Hid (ans = true) := Hid.mk (by rw [HA.out]; simp [formedP, h2])
        go_enter Try.func79, Try.ntmps79
        go_wp2
        go_ret
        exact ⟨by rw [HF.out]; rfl, HB.out _⟩
      · have e2 := isEmpty_no hw
        have e3 : (wd == []) = false := by simpa using hw
        have HF : Hid (ans = false) := Hid.mk (by rw [HA.out]; simp [formedP, hw])
        go_enter Try.func79, Try.ntmps79
        go_wp2
        go_ret
        exact ⟨by rw [HF.out]; rfl, HB.out _⟩
    · have e1 : ¬ (2 : Int) ≤ (n : Int) := by omega
      have HF : Hid (ans = false) := Hid.mk (by rw [HA.out]; simp [formedP, h2])
      clear h2
      go_enter Try.func79, Try.ntmps79
      go_wp2
      go_ret
      exact ⟨by rw [HF.out]; rfl, HB.out _⟩
  all_goals (
    by_cases h2 : n = 1
    · subst h2
      by_cases hw : wd = []
      · subst hw
        have HF : Hid (ans = true) := Hid.mk (by rw [HA.out]; simp [formedP])
        go_enter Try.func79, Try.ntmps79
        go_wp2
        go_ret
        exact ⟨by rw [HF.out]; rfl, HB.out _⟩
      · have e2 := isEmpty_no hw
        have e3 : (wd == []) = false := by simpa using hw
        have HF : Hid (ans = false) := Hid.mk (by rw [HA.out]; simp [formedP, hw])
        go_enter Try.func79, Try.ntmps79
        go_wp2
        go_ret
        exact ⟨by rw [HF.out]; rfl, HB.out _⟩
    · obtain ⟨e1, e2⟩ := not_both (a := (n : Int)) (b := 1) (by omega)
      have HF : Hid (ans = false) := Hid.mk (by rw [HA.out]; simp [formedP, h2])
      clear h2
      go_enter Try.func79, Try.ntmps79
      go_wp2
      go_ret
      exact ⟨by rw [HF.out]; rfl, HB.out _⟩)

theorem sum_take {f : Pt → Nat} {l : List Vt} {i : Nat} {x : Vt} (h : l[i]? = some x) : ((l.map Vt.pt).take (i + 1)).map f = ((l.map Vt.pt).take i).map f ++ [f x.pt] := by
  rw [List.take_add_one, List.getElem?_map, h]; simp
theorem sum_part {f : Pt → Nat} (l : List Pt) (i : Nat) : ((l.take i).map f).sum ≤ (l.map f).sum := by
  induction l generalizing i with
  | nil => simp
  | cons y l ih =>
    cases i with
    | zero => simp
    | succ i =>
      have := ih i
      simp only [List.take_succ_cons, List.map_cons, List.sum_cons]
      omega

set_option maxRecDepth 100000 in
set_option maxHeartbeats 4000000 in
theorem places_any {S : Nat → Prop} : ∀ (t : Vt) (d : Nat) (dp : Int) (w : World), d ≤ 12 → dp + d = 13 → VOk S w t →
    Calls Try.prog 77 #[encN t, .int .i64 dp] w fun e w' => e = .returned (.int .i64 (plP d t.pt : Int)) ∧ Below w.heap.size w w' := by
  refine Vt.ind (fun k wd v l ih => ?_)
  intro d dp w hd12 hd hok
  have HF1 := Hid.mk (fun u (hu : Below w.heap.size w u) => isFormed_any (hok.below hu))
  obtain ⟨h1, h2, h3, h4⟩ := vok_mk.1 hok
  obtain ⟨ao, cap, hv⟩ := h1.slice
  subst hv
  have H1 := Hid.mk h1
  have H4 := Hid.mk h4
  have IH := Hid.mk ih
  have HB : Hid (∀ a : Obj, Below w.heap.size w (w.alloc a)) := Hid.mk (fun a => (Below.refl _ _).alloc (Nat.le_refl _) _)
  rw [Vt.pt_mk]
  dsimp only at HF1
  obtain ⟨n, hn⟩ : ∃ n, n = l.length := ⟨_, rfl⟩
  rw [← hn] at h3 H1 HF1 ⊢
  have HN := Hid.mk hn
  clear h1 h4 ih hok hn
  cases d with
  | zero =>
    obtain rfl : dp = 13 := by omega
    clear hd hd12
    go_enter Try.func77, Try.ntmps77
    go_wp2
    go_ret
    exact ⟨rfl, HB.out _⟩
  | succ d =>
    have hdI : ¬ (12 : Int) < dp := by omega
    have hdp1 : 1 ≤ dp := by omega
    have hdp2 : dp ≤ 12 := by omega
    have HD := Hid.mk hd
    have HD12 := Hid.mk hd12
    clear hd hd12
    obtain ⟨ans, hans⟩ : ∃ a, a = plP (d + 1) ⟨k, wd, l.map Vt.pt⟩ := ⟨_, rfl⟩
    rw [← hans]
    have HA := Hid.mk hans
    obtain ⟨m, hm⟩ : ∃ m, m = formedP k wd n := ⟨_, rfl⟩
    rw [← hm] at HF1
    have HM : Hid (formedP k wd (l.map Vt.pt).length = m) := Hid.mk (by rw [List.length_map, ← HN.out, hm])
    clear hans hm
    cases m with
    | false =>
      have HR : Hid (ans = 25) := Hid.mk (by rw [HA.out, plP, HM.out]; rfl)
      go_enter Try.func77, Try.ntmps77
      go_wp2_with fail
      refine (HF1.out _ (HB.out _)).mono ?_
      rintro e w1 ⟨rfl, hb1⟩
      go_wp2
      go_ret
      exact ⟨by rw [HR.out]; rfl, (HB.out _).trans (hb1.mono (by simp))⟩
    | true =>
      by_cases hk : k = 1
      · subst hk
        have HR : Hid (ans = 1) := Hid.mk (by rw [HA.out, plP, HM.out]; rfl)
        obtain ⟨wb, hwb⟩ : ∃ u, u = w.alloc (.cells #[.int .i64 1, .string ⟨wd.toArray⟩, .slice ao n cap] 24) := ⟨_, rfl⟩
        have HC : Hid (∀ w1 : World, Below wb.heap.size wb w1 → w1.cell? ⟨w.heap.size, 0, none⟩ = some (.int .i64 1)) := Hid.mk (fun w1 hb => by
          have h := hb.block w.heap.size (by rw [hwb]; simp)
          rw [hwb, heap_alloc_new] at h
          simp [World.cell?, h])
        have HB0 := Hid.mk (HB.out (.cells #[.int .i64 1, .string ⟨wd.toArray⟩, .slice ao n cap] 24))
        rw [← hwb] at HB0
        have HWB := Hid.mk hwb
        have HF2 := Hid.mk (HF1.out _ HB0.out)
        go_enter Try.func77, Try.ntmps77
        go_wp2_with fail
        rw [← HWB.out]
        refine HF2.out.mono ?_
        rintro e w1 ⟨rfl, hb1⟩
        have c1 := HC.out w1 hb1
        go_wp2
        go_ret
        exact ⟨by rw [HR.out]; rfl, HB0.out.trans (hb1.mono HB0.out.size)⟩
      · obtain ⟨k1, k2⟩ := not_both hk
        have HR : Hid (ans = min 25 ((l.map Vt.pt).map (plP d)).sum) := Hid.mk (by rw [HA.out, plP, HM.out]; simp [hk])
        obtain ⟨wb, hwb⟩ : ∃ u, u = w.alloc (.cells #[.int .i64 k, .string ⟨wd.toArray⟩, .slice ao n cap] 24) := ⟨_, rfl⟩
        have HC : Hid (∀ w1 : World, Below wb.heap.size wb w1 → w1.cell? ⟨w.heap.size, 0, none⟩ = some (.int .i64 k) ∧ w1.cell? ⟨w.heap.size, 2, none⟩ = some (.slice ao n cap)) := Hid.mk (fun w1 hb => by
          have h := hb.block w.heap.size (by rw [hwb]; simp)
          rw [hwb, heap_alloc_new] at h
          exact ⟨by simp [World.cell?, h], by simp [World.cell?, h]⟩)
        have HB0 := Hid.mk (HB.out (.cells #[.int .i64 k, .string ⟨wd.toArray⟩, .slice ao n cap] 24))
        rw [← hwb] at HB0
        have HWB := Hid.mk hwb
        have HF2 := Hid.mk (HF1.out _ HB0.out)
        clear hk hwb
        go_enter Try.func77, Try.ntmps77
        go_wp2_with fail
        rw [← HWB.out]
        refine HF2.out.mono ?_
        rintro e w1 ⟨rfl, hb1⟩
        obtain ⟨c1, c2⟩ := HC.out w1 hb1
        have HB1 := Hid.mk (HB0.out.trans (hb1.mono HB0.out.size))
        clear hb1
        go_wp2_with fail
        go_loopw [5, 21] (fun s c wr => ∃ i z : Nat, i ≤ n ∧ c = .int .i64 i ∧ s = .int .i64 z ∧ z ≤ 24 ∧ z = (((l.map Vt.pt).take i).map (plP d)).sum ∧ Below w.heap.size w wr) (fun _ c _ => n - (intOf c).toNat)
        case atStart => exact ⟨0, 0, Nat.zero_le _, rfl, rfl, by omega, by simp, HB1.out⟩
        case round =>
          obtain ⟨i, z, hi, rfl, rfl, hz, hzs, hbq⟩ := hrel
          have HZ := Hid.mk hzs
          have HBQ := Hid.mk hbq
          clear hzs hbq
          by_cases hlt : i < n
          · have hltI : (i : Int) < (n : Int) := by omega
            obtain ⟨x, hx⟩ : ∃ x, l[i]? = some x := ⟨_, List.getElem?_eq_getElem (by rw [← HN.out]; exact hlt)⟩
            obtain ⟨g, off, rfl, _, _, hcell⟩ := (H1.out.below HBQ.out).get hx
            obtain ⟨q0, q1, q2⟩ := getN hcell
            have hxm := List.mem_of_getElem? hx
            have HX := Hid.mk hx
            have HC2 := Hid.mk (fun u (hu : Below w.heap.size w u) => IH.out x hxm d (dp + 1) u (by have := HD12.out; omega) (by have := HD.out; omega) ((H4.out x hxm).below hu))
            obtain ⟨p, hp⟩ : ∃ p, p = plP d x.pt := ⟨_, rfl⟩
            rw [← hp] at HC2
            have hp25 : p ≤ 25 := by rw [hp]; exact plP_le _ _
            have HP := Hid.mk hp
            obtain ⟨wx, hwx⟩ : ∃ wx, wx = wr := ⟨_, rfl⟩
            subst hwx
            have HBa : Hid (∀ a : Obj, Below w.heap.size w (wx.alloc a)) := Hid.mk (fun a => HBQ.out.alloc HBQ.out.size _)
            have HS2 : Hid (z + p = (((l.map Vt.pt).take (i + 1)).map (plP d)).sum) := Hid.mk (by rw [sum_take HX.out, List.sum_append, ← HZ.out, ← HP.out]; simp)
            obtain ⟨xa, xc, hxv⟩ := (H4.out x hxm).parts.1.slice
            obtain ⟨xn, hxn⟩ : ∃ n, n = x.kids.length := ⟨_, rfl⟩
            rw [← hxn] at hxv
            obtain ⟨xk, xw, xv, xl⟩ := x
            dsimp only at q0 q1 q2 hxv
            subst hxv
            clear hxn hx hcell hp hxm
            by_cases hbig : 25 ≤ z + p
            · have hbI : (25 : Int) ≤ (z : Int) + (p : Int) := by omega
              have HE : Hid (ans = 25) := Hid.mk (by
                rw [HR.out]
                have := sum_part (f := plP d) (l.map Vt.pt) (i + 1)
                rw [← HS2.out] at this
                omega)
              clear hbig
              go_wp2_with fail
              refine (HC2.out _ (HBa.out _)).mono ?_
              rintro e w2 ⟨rfl, hb2⟩
              go_wp2
              go_ret
              exact ⟨by rw [HE.out]; rfl, (HBa.out _).trans (hb2.mono (by have := HBQ.out.size; simp; omega))⟩
            · have hbI : ¬ (25 : Int) ≤ (z : Int) + (p : Int) := by omega
              go_wp2_with fail
              refine (HC2.out _ (HBa.out _)).mono ?_
              rintro e w2 ⟨rfl, hb2⟩
              have HB2 : Hid (Below w.heap.size w w2) := Hid.mk ((HBa.out _).trans (hb2.mono (by have := HBQ.out.size; simp; omega)))
              clear hb2
              go_wp2
              go_roundw
              case rel => exact ⟨i + 1, z + p, by omega, by go_num, by go_num, by omega, HS2.out, HB2.out⟩
              case measure => simp [intOf]; omega
          · have hin : i = n := by omega
            have hltI : ¬ (i : Int) < (n : Int) := by omega
            have HE : Hid (ans = z) := Hid.mk (by
              rw [HR.out]
              have := HZ.out
              rw [List.take_of_length_le (by rw [List.length_map, ← HN.out]; omega)] at this
              omega)
            clear hin
            go_wp2
            go_ret
            exact ⟨by rw [HE.out]; rfl, HBQ.out⟩

set_option maxRecDepth 100000 in
set_option maxHeartbeats 1000000 in
theorem pathMayBe_any {S : Nat → Prop} {w : World} {t : Vt} (h : VOk S w t) :
    Calls Try.prog 74 #[encN t] w fun e w' => e = .returned (.bool (mayP t.pt)) ∧ Below w.heap.size w w' := by
  have HC := Hid.mk (fun u (hu : Below w.heap.size w u) => places_any t 12 1 u (Nat.le_refl _) rfl (h.below hu))
  have HB : Hid (∀ a : Obj, Below w.heap.size w (w.alloc a)) := Hid.mk (fun a => (Below.refl _ _).alloc (Nat.le_refl _) _)
  obtain ⟨ao, cap, hv⟩ := h.parts.1.slice
  obtain ⟨ans, hans⟩ : ∃ a, a = mayP t.pt := ⟨_, rfl⟩
  rw [← hans]
  have HA : Hid (ans = decide (plP 12 t.pt < 25)) := Hid.mk (by rw [hans, plP_may])
  obtain ⟨p, hp⟩ : ∃ p, p = plP 12 t.pt := ⟨_, rfl⟩
  rw [← hp] at HC HA
  obtain ⟨k, wd, v, l⟩ := t
  dsimp only at hv HC
  subst hv
  clear hans h hp
  by_cases hlt : p < 25
  · have hI : (p : Int) < 25 := by omega
    have HE : Hid (ans = true) := Hid.mk (by rw [HA.out]; simpa using hlt)
    go_enter Try.func74, Try.ntmps74
    go_wp2_with fail
    refine (HC.out _ (HB.out _)).mono ?_
    rintro e w2 ⟨rfl, hb2⟩
    go_wp2
    go_ret
    exact ⟨by rw [HE.out]; rfl, (HB.out _).trans (hb2.mono (by simp))⟩
  · have hI : ¬ (p : Int) < 25 := by omega
    have HE : Hid (ans = false) := Hid.mk (by rw [HA.out]; simpa using hlt)
    go_enter Try.func74, Try.ntmps74
    go_wp2_with fail
    refine (HC.out _ (HB.out _)).mono ?_
    rintro e w2 ⟨rfl, hb2⟩
    go_wp2
    go_ret
    exact ⟨by rw [HE.out]; simp; omega, (HB.out _).trans (hb2.mono (by simp))⟩
end Go.Proofs.Ythdnpddfdlhlaaa
