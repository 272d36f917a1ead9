/- Next of the document: the places behind a place. -/
import Derived.Test.YthdnpddfdlhlaaaAMay
namespace Go.Proofs.Ythdnpddfdlhlaaa
open Go.RowKit

theorem own_lower {w : World} {B C n : Nat} {e : TypeId} {size : Nat} {v : Value} {xs : List Value} (h : w.ownsRow B e size v n xs) (hb : C ≤ B) : w.ownsRow C e size v n xs := by
  obtain ⟨h1, h2⟩ := h
  refine ⟨h1, ?_⟩
  rcases h2 with h2 | ⟨g, cap, cur, a, b, c⟩
  · exact .inl h2
  · exact .inr ⟨g, cap, cur, a, Nat.le_trans hb b, c⟩
theorem goodF_len {n : Nat} : ∀ (l : List Int) (b : Int), b + 1 ≤ n → goodF n b l = true → b + 1 + l.length ≤ n
  | [], b, hb, _ => by simpa using hb
  | x :: l, b, hb, h => by
    simp only [goodF, Bool.and_eq_true, decide_eq_true_eq] at h
    have := goodF_len l x (by omega) h.2
    simp only [List.length_cons]
    omega
theorem goodL_len {n : Nat} {l : List Int} (h : goodL n l = true) : l.length ≤ n := by
  have := goodF_len l (-1) (by omega) h
  omega
/-- The places of a list where a word stands. -/
def nextL (ws : List Wd) (s : Wd) (L : List Int) : List Int := L.filter (fun x => decide (ws[x.toNat]? = some s))
theorem nextL_len (ws : List Wd) (s : Wd) (L : List Int) : (nextL ws s L).length ≤ L.length := List.length_filter_le _ _
theorem nextL_succ {ws : List Wd} {s u : Wd} {L : List Int} {i x : Nat} (hx : L[i]? = some (x : Int)) (hu : ws[x]? = some u) : nextL ws s (L.take (i + 1)) = nextL ws s (L.take i) ++ (if u = s then [(x : Int)] else []) := by
  unfold nextL
  rw [List.take_add_one, hx, List.filter_append]
  congr 1
  by_cases h : u = s
  · simp [hu, h]
  · simp [hu, h]
theorem next_no {a : Au} {z : Int} {s : Wd} (h : ¬ (mayA a = true ∧ isPl a z = true)) : nextA a z s = [] := by
  unfold nextA
  rw [if_neg h]
theorem next_yes {a : Au} {z : Int} {s : Wd} (h : mayA a = true) (hp : isPl a z = true) : nextA a z s = nextL a.words s (outA a z) := by
  unfold nextA
  rw [if_pos ⟨h, hp⟩]
  rfl
theorem may_first {a : Au} (h : mayA a = true) : goodL a.words.length a.first = true := by
  simp only [mayA, Bool.and_eq_true, decide_eq_true_eq] at h
  exact h.1.1.1.2
theorem may_last {a : Au} (h : mayA a = true) : goodL a.words.length a.last = true := by
  simp only [mayA, Bool.and_eq_true, decide_eq_true_eq] at h
  exact h.1.1.2
theorem may_len {a : Au} (h : mayA a = true) : a.words.length ≤ 24 ∧ a.follow.length = a.words.length := by
  simp only [mayA, Bool.and_eq_true, decide_eq_true_eq] at h
  exact h.1.1.1.1
theorem may_follow {a : Au} (h : mayA a = true) {l : List Int} (hl : l ∈ a.follow) : goodL a.words.length l = true := by
  simp only [mayA, Bool.and_eq_true, decide_eq_true_eq, List.all_eq_true] at h
  exact h.2 l hl
set_option maxHeartbeats 4000000 in
set_option maxRecDepth 100000 in
theorem rNext_any {S : Nat → Prop} {w : World} {m : Mu} (h : UOk S w m) (z : Int) (s : List UInt8) :
    Calls Try.prog 22 #[encU m, .int .i64 z, .string ⟨s.toArray⟩] w fun e w' => ∃ v', e = .returned v' ∧ w'.ownsRow w.heap.size 3 1 v' (nextA m.au z s).length ((nextA m.au z s).flatMap csZ) ∧ Below w.heap.size w w' := by
  obtain ⟨i0, hi0, hz0, hz1, hz2⟩ := info_parts infoZ
  obtain ⟨wa, wc, fa, fc, la, lc, oa, oc, e1, e2, e3, e4⟩ := h.slices
  obtain ⟨b, hb⟩ : ∃ b, b = mayA m.au := ⟨_, rfl⟩
  have HM : Hid (∀ wr, Below w.heap.size w wr → Calls Try.prog 15 #[encU m] wr fun e w' => e = .returned (.bool b) ∧ Below wr.heap.size wr w') := Hid.mk (fun wr hb2 => by rw [hb]; exact rMay_any (h.below hb2))
  obtain ⟨R, hR⟩ : ∃ R, R = nextA m.au z s := ⟨_, rfl⟩
  rw [← hR]
  have HR := Hid.mk hR
  have HB := Hid.mk hb
  clear hR hb
  obtain ⟨wv, ws, fv, fs, lv, ls, ov, os, em⟩ := m
  dsimp only at e1 e2 e3 e4
  subst e1 e2 e3 e4
  have HW := Hid.mk h.ws
  have HF := Hid.mk h.fs
  have HO := Hid.mk h.os
  have HOK := Hid.mk h.ok
  have hwl := h.wl
  dsimp only at HW HF HO HOK hwl
  clear h
  obtain ⟨n, hn⟩ : ∃ n, n = ws.length := ⟨_, rfl⟩
  obtain ⟨no, hno⟩ : ∃ n, n = os.length := ⟨_, rfl⟩
  obtain ⟨nf, hnf⟩ : ∃ n, n = fs.length := ⟨_, rfl⟩
  have HAU : Hid (Mu.au ⟨.slice wa ws.length wc, ws, .slice fa fs.length fc, fs, .slice la ls.length lc, ls, .slice oa os.length oc, os, em⟩ = ⟨ws, fs, ls, os.map (·.2), em⟩) := Hid.mk rfl
  rw [HAU.out] at HB HR
  clear HAU
  have HM2 : Hid (∀ wr, Below w.heap.size w wr → Calls Try.prog 15 #[.agg #[.slice wa ws.length wc, .slice fa fs.length fc, .slice la ls.length lc, .slice oa os.length oc, .bool em]] wr fun e w' => e = .returned (.bool b) ∧ Below wr.heap.size wr w') := HM
  clear HM
  show Calls Try.prog _ #[.agg #[.slice wa ws.length wc, .slice fa fs.length fc, .slice la ls.length lc, .slice oa os.length oc, .bool em], _, _] w _
  rw [← hn, ← hno, ← hnf] at HM2 ⊢
  rw [← hn] at HW hwl
  rw [← hno] at HO
  rw [← hnf] at HF
  have HN := Hid.mk hn
  have HNO := Hid.mk hno
  have HNF := Hid.mk hnf
  obtain ⟨nl, hnl⟩ : ∃ n, n = ls.length := ⟨_, rfl⟩
  rw [← hnl] at HM2 ⊢
  obtain ⟨o, ho⟩ : ∃ o, o = Obj.cells #[.slice wa n wc, .slice fa nf fc, .slice la nl lc, .slice oa no oc, .bool em] 31 := ⟨_, rfl⟩
  have HOB := Hid.mk ho
  have HC : Hid (∀ wr, Below (w.alloc o).heap.size (w.alloc o) wr → wr.cell? ⟨w.heap.size, 0, none⟩ = some (.slice wa n wc) ∧ wr.cell? ⟨w.heap.size, 1, none⟩ = some (.slice fa nf fc) ∧ wr.cell? ⟨w.heap.size, 3, none⟩ = some (.slice oa no oc)) := Hid.mk (fun wr hb => by
    have h := box_keptQ hb
    rw [HOB.out] at h
    exact ⟨(cells5 h).1, (cells5 h).2.1, (cells5 h).2.2.2.1⟩)
  have HB0 : Hid (Below (w.alloc o).heap.size (w.alloc o) (w.alloc (.cells #[.slice wa n wc, .slice fa nf fc, .slice la nl lc, .slice oa no oc, .bool em] 31))) := Hid.mk (by rw [HOB.out]; exact Below.refl _ _)
  clear ho hn hno hnf hnl
  cases b with
  | false =>
    have HX : Hid (R = []) := Hid.mk (by rw [HR.out]; exact next_no (fun h => by rw [← HB.out] at h; cases h.1))
    go_enter Try.func22, Try.ntmps22
    go_wp2_with fail
    refine (HM2.out _ (below_boxQ HB0.out)).mono ?_
    rintro e w1 ⟨rfl, hb1⟩
    have HB1 := Hid.mk (HB0.out.trans (hb1.mono HB0.out.size))
    clear hb1
    go_wp2
    go_ret
    refine ⟨_, rfl, ?_, below_boxQ HB1.out⟩
    rw [HX.out]
    exact World.ownsRow_nil _ _ _ _
  | true =>
    by_cases hz1 : z < -1
    · have HX : Hid (R = []) := Hid.mk (by
        rw [HR.out]
        refine next_no (fun h => ?_)
        have := h.2
        simp only [isPl, Bool.and_eq_true, decide_eq_true_eq] at this
        omega)
      go_enter Try.func22, Try.ntmps22
      go_wp2_with fail
      refine (HM2.out _ (below_boxQ HB0.out)).mono ?_
      rintro e w1 ⟨rfl, hb1⟩
      have HB1 := Hid.mk (HB0.out.trans (hb1.mono HB0.out.size))
      clear hb1
      go_wp2
      go_ret
      refine ⟨_, rfl, ?_, below_boxQ HB1.out⟩
      rw [HX.out]
      exact World.ownsRow_nil _ _ _ _
    · by_cases hzn : (n : Int) ≤ z
      · have HX : Hid (R = []) := Hid.mk (by
          rw [HR.out]
          refine next_no (fun h => ?_)
          have := h.2
          simp only [isPl, Bool.and_eq_true, decide_eq_true_eq] at this
          have := HN.out
          omega)
        go_enter Try.func22, Try.ntmps22
        go_wp2_with fail
        refine (HM2.out _ (below_boxQ HB0.out)).mono ?_
        rintro e w1 ⟨rfl, hb1⟩
        have HB1 := Hid.mk (HB0.out.trans (hb1.mono HB0.out.size))
        obtain ⟨c0, c1, c3⟩ := HC.out _ HB1.out
        clear hb1
        go_wp2
        go_ret
        refine ⟨_, rfl, ?_, below_boxQ HB1.out⟩
        rw [HX.out]
        exact World.ownsRow_nil _ _ _ _
      · have HP : Hid (isPl ⟨ws, fs, ls, os.map (·.2), em⟩ z = true) := Hid.mk (by
          simp only [isPl, Bool.and_eq_true, decide_eq_true_eq]
          have := HN.out
          omega)
        have HRN := Hid.mk (HR.out.trans (next_yes HB.out.symm HP.out))
        have h24 : n ≤ 24 := by have := (may_len HB.out.symm).1; rw [HN.out]; exact this
        by_cases hzs : z < 0
        · have hze : z = -1 := by omega
          subst hze
          have HX : Hid (R = nextL ws s fs) := Hid.mk HRN.out
          have HIN : Hid (∀ x ∈ fs, 0 ≤ x ∧ x < (n : Int)) := Hid.mk (fun x hx => by rw [HN.out]; exact good_mem (may_first HB.out.symm) hx)
          have hnf24 : nf ≤ 24 := by have := goodL_len (may_first HB.out.symm); have h2 := HNF.out; have h3 := HN.out; simp only at this; omega
          clear hzs hzn hz1 HRN HP HR
          go_enter Try.func22, Try.ntmps22
          go_wp2_with fail
          refine (HM2.out _ (below_boxQ HB0.out)).mono ?_
          rintro e w1 ⟨rfl, hb1⟩
          have HB1 := Hid.mk (HB0.out.trans (hb1.mono HB0.out.size))
          obtain ⟨c0, c1, c3⟩ := HC.out _ HB1.out
          clear hb1
          go_wp2_with fail
          clear c0 c1 c3
          go_loopw [8, 9] (fun vl c wr => ∃ (i : Nat) (u : Value), u = vl ∧ i ≤ nf ∧ c = .int .i64 i ∧ wr.ownsRow (w.alloc o).heap.size 3 1 u (nextL ws s (fs.take i)).length ((nextL ws s (fs.take i)).flatMap csZ) ∧ Below (w.alloc o).heap.size (w.alloc o) wr) (fun _ c _ => nf - (intOf c).toNat)
          case atStart => exact ⟨0, _, rfl, Nat.zero_le _, rfl, World.ownsRow_nil _ _ _ _, HB1.out⟩
          case round =>
            obtain ⟨i, u, rfl, hi, rfl, hrow, hbq⟩ := hrel
            obtain ⟨ua, uc, hu⟩ := own_slice hrow
            obtain ⟨nu, hnu⟩ : ∃ n, n = (nextL ws s (fs.take i)).length := ⟨_, rfl⟩
            rw [← hnu] at hu
            subst hu
            have hnb : nu ≤ 24 := by have := nextL_len ws s (fs.take i); have h2 := List.length_take_le i fs; have h3 : i ≤ 24 := by omega
                                     omega
            have HROW := Hid.mk hrow
            have HBQ := Hid.mk hbq
            have HNU := Hid.mk hnu
            have hsx : (w.alloc o).heap.size ≤ wr.heap.size := hbq.size
            obtain ⟨c0, c1, c3⟩ := HC.out _ hbq
            clear hrow hbq hnu c1 c3
            by_cases hlt : i < nf
            · have hltI : (i : Int) < (nf : Int) := by omega
              obtain ⟨x, hx⟩ : ∃ x, fs[i]? = some x := ⟨_, List.getElem?_eq_getElem (by rw [← HNF.out]; exact hlt)⟩
              obtain ⟨hx0, hxn⟩ := HIN.out x (List.mem_of_getElem? hx)
              obtain ⟨xn, hxe⟩ : ∃ k : Nat, x = (k : Int) := ⟨x.toNat, by omega⟩
              subst hxe
              obtain ⟨tx, htx⟩ : ∃ t, ws[xn]? = some t := ⟨_, List.getElem?_eq_getElem (by rw [← HN.out]; omega)⟩
              obtain ⟨g, off, rfl, _, _, hcell⟩ := (HF.out.below (below_boxQ HBQ.out)).get hx
              have q0 := getZ hcell
              rw [Nat.mul_one] at q0
              obtain ⟨g1, o1, rfl, _, _, hcell1⟩ := (HW.out.below (below_boxQ HBQ.out)).get htx
              have q1 := getTx hcell1
              rw [Nat.mul_one] at q1
              have HS := Hid.mk (nextL_succ (s := s) hx htx)
              clear hx htx hcell hcell1
              by_cases e : tx = s
              · subst e
                rw [if_pos rfl] at HS
                rw [HNU.out] at HROW
                rw [← HNU.out] at HROW
                go_wp2_with fail
                go_region
                have HBD := Hid.mk HBQ.out.drew
                go_wp2_with (at_builtin; refine wpList_append_lies _ rfl _ _ _ rfl (w.alloc o).heap.size 3 i0 _ 1 8 Try.underlying28 hi0 hz0 hz1 hz2 rfl (by decide) (.slice ua nu uc) _ _ (by rfl) (HROW.out.drew.alloc _) ⟨wr.heap.size, 0, none⟩ 1 1 (csZ (xn : Int)) (by rfl) (by rfl) ?d1 ?d2 (by decide) ?d3 ?d4 ?d5 (wr.heap.size + 1) (by simp) ?_)
                case d1 => exact World.news_of_block (cs := #[.int .i64 (xn : Int)]) (t := 3) (fr := (0, 0)) (heap_alloc_new wr.drew _)
                case d2 => simp [Value.oneCell']
                case d3 => unfold maxLen; have := HNU.out; omega
                case d4 => have := HNU.out; omega
                case d5 => have h5 := hsx; simp at h5 ⊢; omega
                intro gg cap2 w9 hown9 hgrow9 hat9 hlt9
                have ba : Below wr.drew.heap.size wr.drew (wr.drew.alloc (.cells #[.int .i64 (xn : Int)] 3)) := (Below.refl _ _).alloc (Nat.le_refl _) _
                have HB9 : Hid (Below (w.alloc o).heap.size (w.alloc o) w9) := Hid.mk ((HBD.out.trans (ba.mono HBQ.out.size)).grown hgrow9 (by have h5 := hsx; simp at h5 ⊢; omega) (fun k e => (HROW.out.lt k e).1))
                have HR9 : Hid (w9.ownsRow (w.alloc o).heap.size 3 1 (.slice (some ⟨gg, 0, none⟩) (nu + 1) cap2) (nextL ws tx (fs.take (i + 1))).length ((nextL ws tx (fs.take (i + 1))).flatMap csZ)) := Hid.mk (by
                  rw [HS.out, List.length_append, ← HNU.out, List.flatMap_append]
                  have h2 := hown9
                  simpa [csZ] using h2)
                clear hown9 hgrow9 hat9 hlt9 ba
                go_wp2
                go_roundw
                case rel => refine ⟨i + 1, ?_⟩; exact ⟨_, rfl, by omega, by go_num, HR9.out, HB9.out⟩
                case measure => simp [intOf]; omega
              · rw [if_neg e, List.append_nil] at HS
                have e1 : (tx == s) = false := by simpa using e
                have HR9 : Hid (wr.ownsRow (w.alloc o).heap.size 3 1 (.slice ua nu uc) (nextL ws s (fs.take (i + 1))).length ((nextL ws s (fs.take (i + 1))).flatMap csZ)) := Hid.mk (by rw [HS.out]; exact HROW.out)
                go_wp2_with fail
                go_region
                go_wp2
                go_roundw
                case rel => exact ⟨i + 1, _, rfl, by omega, by go_num, HR9.out.drew, HBQ.out.drew⟩
                case measure => simp [intOf]; omega
            · have hltI : ¬ (i : Int) < (nf : Int) := by omega
              have HT : Hid (fs.take i = fs) := Hid.mk (List.take_of_length_le (by rw [← HNF.out]; omega))
              rw [HT.out] at HROW
              go_wp2
              go_ret
              refine ⟨_, rfl, ?_, below_boxQ HBQ.out⟩
              rw [HX.out]
              exact own_lower HROW.out (by simp)
        · obtain ⟨zn, hzn2⟩ : ∃ k : Nat, z = (k : Int) := ⟨z.toNat, by omega⟩
          subst hzn2
          have HNO2 : Hid (no = n) := Hid.mk (by have := (may_len HB.out.symm).2; simp only [List.length_map] at this; rw [HNO.out, HN.out]; exact this)
          have hzl : zn < no := by have := HNO2.out; omega
          obtain ⟨y, hy⟩ : ∃ y, os[zn]? = some y := ⟨_, List.getElem?_eq_getElem (by rw [← HNO.out]; exact hzl)⟩
          have hym := List.mem_of_getElem? hy
          obtain ⟨yv, ys⟩ := y
          have HY := Hid.mk (HOK.out _ hym).1
          dsimp only at HY
          obtain ⟨ya, yc, hyv⟩ := HY.out.slice
          obtain ⟨ny, hny⟩ : ∃ n, n = ys.length := ⟨_, rfl⟩
          rw [← hny] at hyv
          subst hyv
          have HNY := Hid.mk hny
          have HX : Hid (R = nextL ws s ys) := Hid.mk (by
            rw [HRN.out]
            simp only [outA]
            rw [if_neg (by omega), List.getD]
            simp [hy])
          have HYM : Hid (ys ∈ os.map (·.2)) := Hid.mk (List.mem_map.2 ⟨_, hym, rfl⟩)
          have HIN : Hid (∀ x ∈ ys, 0 ≤ x ∧ x < (n : Int)) := Hid.mk (fun x hx => by rw [HN.out]; exact good_mem (may_follow HB.out.symm HYM.out) hx)
          have hny24 : ny ≤ 24 := by have := goodL_len (may_follow HB.out.symm HYM.out); have h2 := HNY.out; have h3 := HN.out; simp only at this; omega
          have HYG : Hid (∀ wr, Below w.heap.size w wr → ∃ g2 o2, oa = some ⟨g2, o2, none⟩ ∧ wr.cell? ⟨g2, o2 + zn, none⟩ = some (.slice ya ny yc)) := Hid.mk (fun wr hb => by
            obtain ⟨g2, o2, rfl, _, _, hcell2⟩ := (HO.out.below hb).get hy
            have p1 := getW hcell2
            rw [Nat.mul_one] at p1
            exact ⟨g2, o2, rfl, p1⟩)
          have hzlI : (zn : Int) < (no : Int) := by omega
          have hznI : (zn : Int) < (n : Int) := by omega
          have hz00 : (0 : Int) ≤ (zn : Int) := by omega
          have hd1 : decide ((zn : Int) < -1) = false := decide_eq_false (by omega)
          have hd2 : decide (n ≤ zn) = false := decide_eq_false (by omega)
          have hd3 : ¬ n ≤ zn := by omega
          clear hzs hzn hz1 HRN HP HR hy hym hny
          go_enter Try.func22, Try.ntmps22
          go_wp2_with fail
          refine (HM2.out _ (below_boxQ HB0.out)).mono ?_
          rintro e w1 ⟨rfl, hb1⟩
          have HB1 := Hid.mk (HB0.out.trans (hb1.mono HB0.out.size))
          obtain ⟨c0, c1, c3⟩ := HC.out _ HB1.out
          obtain ⟨g2, o2, rfl, p1⟩ := HYG.out _ (below_boxQ HB1.out)
          clear hb1
          go_wp2_with fail
          clear c0 c1 c3 p1
          go_loopw [8, 9] (fun vl c wr => ∃ (i : Nat) (u : Value), u = vl ∧ i ≤ ny ∧ c = .int .i64 i ∧ wr.ownsRow (w.alloc o).heap.size 3 1 u (nextL ws s (ys.take i)).length ((nextL ws s (ys.take i)).flatMap csZ) ∧ Below (w.alloc o).heap.size (w.alloc o) wr) (fun _ c _ => ny - (intOf c).toNat)
          case atStart => exact ⟨0, _, rfl, Nat.zero_le _, rfl, World.ownsRow_nil _ _ _ _, HB1.out⟩
          case round =>
            obtain ⟨i, u, rfl, hi, rfl, hrow, hbq⟩ := hrel
            obtain ⟨ua, uc, hu⟩ := own_slice hrow
            obtain ⟨nu, hnu⟩ : ∃ n, n = (nextL ws s (ys.take i)).length := ⟨_, rfl⟩
            rw [← hnu] at hu
            subst hu
            have hnb : nu ≤ 24 := by have := nextL_len ws s (ys.take i); have h2 := List.length_take_le i ys; have h3 : i ≤ 24 := by omega
                                     omega
            have HROW := Hid.mk hrow
            have HBQ := Hid.mk hbq
            have HNU := Hid.mk hnu
            have hsx : (w.alloc o).heap.size ≤ wr.heap.size := hbq.size
            obtain ⟨c0, c1, c3⟩ := HC.out _ hbq
            clear hrow hbq hnu c1 c3
            by_cases hlt : i < ny
            · have hltI : (i : Int) < (ny : Int) := by omega
              obtain ⟨x, hx⟩ : ∃ x, ys[i]? = some x := ⟨_, List.getElem?_eq_getElem (by rw [← HNY.out]; exact hlt)⟩
              obtain ⟨hx0, hxn⟩ := HIN.out x (List.mem_of_getElem? hx)
              obtain ⟨xn, hxe⟩ : ∃ k : Nat, x = (k : Int) := ⟨x.toNat, by omega⟩
              subst hxe
              obtain ⟨tx, htx⟩ : ∃ t, ws[xn]? = some t := ⟨_, List.getElem?_eq_getElem (by rw [← HN.out]; omega)⟩
              obtain ⟨g, off, rfl, _, _, hcell⟩ := (HY.out.below (below_boxQ HBQ.out)).get hx
              have q0 := getZ hcell
              rw [Nat.mul_one] at q0
              obtain ⟨g1, o1, rfl, _, _, hcell1⟩ := (HW.out.below (below_boxQ HBQ.out)).get htx
              have q1 := getTx hcell1
              rw [Nat.mul_one] at q1
              have HS := Hid.mk (nextL_succ (s := s) hx htx)
              clear hx htx hcell hcell1
              by_cases e : tx = s
              · subst e
                rw [if_pos rfl] at HS
                rw [HNU.out] at HROW
                rw [← HNU.out] at HROW
                go_wp2_with fail
                go_region
                have HBD := Hid.mk HBQ.out.drew
                go_wp2_with (at_builtin; refine wpList_append_lies _ rfl _ _ _ rfl (w.alloc o).heap.size 3 i0 _ 1 8 Try.underlying28 hi0 hz0 hz1 hz2 rfl (by decide) (.slice ua nu uc) _ _ (by rfl) (HROW.out.drew.alloc _) ⟨wr.heap.size, 0, none⟩ 1 1 (csZ (xn : Int)) (by rfl) (by rfl) ?d1 ?d2 (by decide) ?d3 ?d4 ?d5 (wr.heap.size + 1) (by simp) ?_)
                case d1 => exact World.news_of_block (cs := #[.int .i64 (xn : Int)]) (t := 3) (fr := (0, 0)) (heap_alloc_new wr.drew _)
                case d2 => simp [Value.oneCell']
                case d3 => unfold maxLen; have := HNU.out; omega
                case d4 => have := HNU.out; omega
                case d5 => have h5 := hsx; simp at h5 ⊢; omega
                intro gg cap2 w9 hown9 hgrow9 hat9 hlt9
                have ba : Below wr.drew.heap.size wr.drew (wr.drew.alloc (.cells #[.int .i64 (xn : Int)] 3)) := (Below.refl _ _).alloc (Nat.le_refl _) _
                have HB9 : Hid (Below (w.alloc o).heap.size (w.alloc o) w9) := Hid.mk ((HBD.out.trans (ba.mono HBQ.out.size)).grown hgrow9 (by have h5 := hsx; simp at h5 ⊢; omega) (fun k e => (HROW.out.lt k e).1))
                have HR9 : Hid (w9.ownsRow (w.alloc o).heap.size 3 1 (.slice (some ⟨gg, 0, none⟩) (nu + 1) cap2) (nextL ws tx (ys.take (i + 1))).length ((nextL ws tx (ys.take (i + 1))).flatMap csZ)) := Hid.mk (by
                  rw [HS.out, List.length_append, ← HNU.out, List.flatMap_append]
                  have h2 := hown9
                  simpa [csZ] using h2)
                clear hown9 hgrow9 hat9 hlt9 ba
                go_wp2
                go_roundw
                case rel => refine ⟨i + 1, ?_⟩; exact ⟨_, rfl, by omega, by go_num, HR9.out, HB9.out⟩
                case measure => simp [intOf]; omega
              · rw [if_neg e, List.append_nil] at HS
                have e1 : (tx == s) = false := by simpa using e
                have HR9 : Hid (wr.ownsRow (w.alloc o).heap.size 3 1 (.slice ua nu uc) (nextL ws s (ys.take (i + 1))).length ((nextL ws s (ys.take (i + 1))).flatMap csZ)) := Hid.mk (by rw [HS.out]; exact HROW.out)
                go_wp2_with fail
                go_region
                go_wp2
                go_roundw
                case rel => exact ⟨i + 1, _, rfl, by omega, by go_num, HR9.out.drew, HBQ.out.drew⟩
                case measure => simp [intOf]; omega
            · have hltI : ¬ (i : Int) < (ny : Int) := by omega
              have HT : Hid (ys.take i = ys) := Hid.mk (List.take_of_length_le (by rw [← HNY.out]; omega))
              rw [HT.out] at HROW
              go_wp2
              go_ret
              refine ⟨_, rfl, ?_, below_boxQ HBQ.out⟩
              rw [HX.out]
              exact own_lower HROW.out (by simp)
end Go.Proofs.Ythdnpddfdlhlaaa
