/- isThere, behind, Next, Ends of the program. -/
import Derived.Test.YthdnpddfdlhlaaaBMay
import Derived.Test.YthdnpddfdlhlaaaAEnds
namespace Go.Proofs.Ythdnpddfdlhlaaa
open Go.RowKit

set_option maxRecDepth 100000 in
set_option maxHeartbeats 1000000 in
theorem isThere_any {S : Nat → Prop} {w : World} {m : Mu} (h : UOk S w m) (z : Int) :
    Calls Try.prog 45 #[encU m, .int .i64 z] w fun e w' => e = .returned (.bool (isPl m.au z)) ∧ Below w.heap.size w w' := by
  have HB : Hid (∀ a : Obj, Below w.heap.size w (w.alloc a)) := Hid.mk (fun a => (Below.refl _ _).alloc (Nat.le_refl _) _)
  obtain ⟨wa, wc, fa, fc, la, lc, oa, oc, e1, e2, e3, e4⟩ := h.slices
  have hwl := h.wl
  obtain ⟨R, hR⟩ : ∃ R, R = isPl m.au z := ⟨_, rfl⟩
  rw [← hR]
  have HR : Hid (R = (decide (-1 ≤ z) && decide (z < (m.ws.length : Int)))) := Hid.mk hR
  clear hR
  obtain ⟨wv, ws, fv, fs, lv, ls, ov, os, em⟩ := m
  dsimp only at e1 e2 e3 e4 HR hwl
  subst e1 e2 e3 e4
  obtain ⟨n, hn⟩ : ∃ n, n = ws.length := ⟨_, rfl⟩
  rw [← hn] at HR hwl ⊢
  clear h hn
  by_cases h1 : -1 ≤ z
  · have d1 : decide (-1 ≤ z) = true := decide_eq_true h1
    by_cases h2 : z < (n : Int)
    · have d2 : decide (z < (n : Int)) = true := decide_eq_true h2
      have HX : Hid (R = true) := Hid.mk (by rw [HR.out, d1, d2]; rfl)
      go_enter Try.func45, Try.ntmps45
      go_wp2
      go_ret
      exact ⟨by rw [HX.out]; rfl, HB.out _⟩
    · have d2 : decide (z < (n : Int)) = false := decide_eq_false h2
      have HX : Hid (R = false) := Hid.mk (by rw [HR.out, d1, d2]; rfl)
      go_enter Try.func45, Try.ntmps45
      go_wp2
      go_ret
      exact ⟨by rw [HX.out]; rfl, HB.out _⟩
  · have d1 : decide (-1 ≤ z) = false := decide_eq_false h1
    have HX : Hid (R = false) := Hid.mk (by rw [HR.out, d1]; rfl)
    go_enter Try.func45, Try.ntmps45
    go_wp2
    go_ret
    exact ⟨by rw [HX.out]; rfl, HB.out _⟩

set_option maxRecDepth 100000 in
set_option maxHeartbeats 1000000 in
theorem behind_any {S : Nat → Prop} {w : World} {m : Mu} (h : UOk S w m) (hm : mayA m.au = true) {z : Int} (hp : isPl m.au z = true) :
    Calls Try.prog 46 #[encU m, .int .i64 z] w fun e w' => ∃ bv, e = .returned bv ∧ IntZ S w bv (outA m.au z) ∧ Below w.heap.size w w' := by
  have HB : Hid (∀ a : Obj, Below w.heap.size w (w.alloc a)) := Hid.mk (fun a => (Below.refl _ _).alloc (Nat.le_refl _) _)
  obtain ⟨wa, wc, fa, fc, la, lc, oa, oc, e1, e2, e3, e4⟩ := h.slices
  have HM := Hid.mk hm
  simp only [isPl, Bool.and_eq_true, decide_eq_true_eq] at hp
  obtain ⟨wv, ws, fv, fs, lv, ls, ov, os, em⟩ := m
  dsimp only at e1 e2 e3 e4
  subst e1 e2 e3 e4
  have HF := Hid.mk h.fs
  have HO := Hid.mk h.os
  have HOK := Hid.mk h.ok
  have hol := h.ol
  dsimp only at HF HO HOK hol
  clear h hm
  have hp2 : z < (ws.length : Int) := hp.2
  have hp1 := hp.1
  have hlen : os.length = ws.length := by have := (may_len HM.out).2; simpa [Mu.au] using this
  obtain ⟨n, hn⟩ : ∃ n, n = ws.length := ⟨_, rfl⟩
  obtain ⟨no, hno⟩ : ∃ n, n = os.length := ⟨_, rfl⟩
  have hzo : z < (no : Int) := by omega
  by_cases hz : z = -1
  · subst hz
    have HE : Hid (outA (Mu.au ⟨.slice wa ws.length wc, ws, .slice fa fs.length fc, fs, .slice la ls.length lc, ls, .slice oa os.length oc, os, em⟩) (-1) = fs) := Hid.mk (by rw [outA, if_pos (by omega)]; rfl)
    rw [HE.out]
    clear HE hn hno hlen hp hp1 hp2 hzo
    go_enter Try.func46, Try.ntmps46
    go_wp2
    go_ret
    exact ⟨_, rfl, HF.out, HB.out _⟩
  · obtain ⟨e1, e2⟩ := not_both hz
    obtain ⟨k, rfl⟩ : ∃ k : Nat, z = k := ⟨z.toNat, by omega⟩
    obtain ⟨y, hy⟩ : ∃ y, os[k]? = some y := ⟨_, List.getElem?_eq_getElem (by omega)⟩
    have HE : Hid (outA (Mu.au ⟨.slice wa ws.length wc, ws, .slice fa fs.length fc, fs, .slice la ls.length lc, ls, .slice oa os.length oc, os, em⟩) (k : Int) = y.2) := Hid.mk (by
      rw [outA, if_neg (by omega), Mu.au, List.getD]
      simp [hy])
    rw [HE.out]
    obtain ⟨yv, ys⟩ := y
    have HY := Hid.mk (HOK.out _ (List.mem_of_getElem? hy)).1
    dsimp only at HY ⊢
    obtain ⟨ya, yc, rfl⟩ := HY.out.slice
    have hkn : k < no := by omega
    rw [← hno] at HO hol ⊢
    obtain ⟨g, off, rfl, _, hgl, hcell⟩ := HO.out.get hy
    have q0 := getW hcell
    rw [Nat.mul_one] at q0
    dsimp only at q0
    have hgne : ¬ g = w.heap.size := by omega
    have HQ : Hid (∀ a : Obj, (w.alloc a).cell? ⟨g, off + k, none⟩ = some (.slice ya ys.length yc)) := Hid.mk (fun a => by rw [← q0]; exact World.cell?_alloc_old w a _ (Nat.ne_of_lt hgl))
    clear HE hn hno hlen hp hp1 hp2 hy hz hcell q0
    have Q := HQ.out (.cells #[.slice wa ws.length wc, .slice fa fs.length fc, .slice la ls.length lc, .slice (some ⟨g, off, none⟩) no oc, .bool em] 31)
    go_enter Try.func46, Try.ntmps46
    go_wp2
    go_ret
    exact ⟨_, rfl, HY.out, HB.out _⟩

set_option maxHeartbeats 4000000 in
set_option maxRecDepth 100000 in
theorem next_any {S : Nat → Prop} {w : World} {m : Mu} (h : UOk S w m) (z : Int) (s : List UInt8) :
    Calls Try.prog 21 #[encU m, .int .i64 z, .string ⟨s.toArray⟩] w fun e w' => ∃ v', e = .returned v' ∧ w'.ownsRow w.heap.size 3 1 v' (nextA m.au z s).length ((nextA m.au z s).flatMap csZ) ∧ Below w.heap.size w w' := by
  obtain ⟨i0, hi0, hz0, hz1, hz2⟩ := info_parts infoZ
  obtain ⟨wa, wc, fa, fc, la, lc, oa, oc, e1, e2, e3, e4⟩ := h.slices
  obtain ⟨b, hb⟩ : ∃ b, b = mayA m.au := ⟨_, rfl⟩
  obtain ⟨th, hth⟩ : ∃ b, b = isPl m.au z := ⟨_, rfl⟩
  obtain ⟨bl, hbl⟩ : ∃ l, l = outA m.au z := ⟨_, rfl⟩
  have HM : Hid (∀ wr, Below w.heap.size w wr → Calls Try.prog 36 #[encU m] wr fun e w' => e = .returned (.bool b) ∧ Below wr.heap.size wr w') := Hid.mk (fun wr hb2 => by rw [hb]; exact mayBeA_any (h.below hb2))
  have HT : Hid (∀ wr, Below w.heap.size w wr → Calls Try.prog 45 #[encU m, .int .i64 z] wr fun e w' => e = .returned (.bool th) ∧ Below wr.heap.size wr w') := Hid.mk (fun wr hb2 => by rw [hth]; exact isThere_any (h.below hb2) z)
  have HBH : Hid (b = true → th = true → ∀ wr, Below w.heap.size w wr → Calls Try.prog 46 #[encU m, .int .i64 z] wr fun e w' => ∃ bv, e = .returned bv ∧ IntZ S wr bv bl ∧ Below wr.heap.size wr w') := Hid.mk (fun h1 h2 wr hb2 => by rw [hbl]; exact behind_any (h.below hb2) (hb.symm.trans h1) (hth.symm.trans h2))
  obtain ⟨R, hR⟩ : ∃ R, R = nextA m.au z s := ⟨_, rfl⟩
  rw [← hR]
  have HR := Hid.mk hR
  have HB := Hid.mk hb
  have HTH := Hid.mk hth
  have HBL := Hid.mk hbl
  have HIN : Hid (b = true → ∀ x ∈ bl, 0 ≤ x ∧ x < (m.ws.length : Int)) := Hid.mk (fun h1 x hx => by
    rw [hb] at h1
    rw [hbl, outA] at hx
    split at hx
    · exact good_mem (may_first h1) hx
    · rw [List.getD] at hx
      cases hg : m.au.follow[z.toNat]? with
      | none => rw [hg] at hx; simp at hx
      | some l => rw [hg] at hx; exact good_mem (may_follow h1 (List.mem_of_getElem? hg)) hx)
  have HNL : Hid (b = true → bl.length ≤ 24) := Hid.mk (fun h1 => by
    rw [hb] at h1
    have h24 := (may_len h1).1
    rw [hbl, outA]
    split
    · exact Nat.le_trans (goodL_len (may_first h1)) h24
    · rw [List.getD]
      cases hg : m.au.follow[z.toNat]? with
      | none => simp
      | some l => exact Nat.le_trans (goodL_len (may_follow h1 (List.mem_of_getElem? hg))) h24)
  clear hR hb hth hbl
  obtain ⟨wv, ws, fv, fs, lv, ls, ov, os, em⟩ := m
  dsimp only at e1 e2 e3 e4 HIN
  subst e1 e2 e3 e4
  have HW := Hid.mk h.ws
  have hwl := h.wl
  dsimp only at HW hwl
  clear h
  have HAU : Hid (Mu.au ⟨.slice wa ws.length wc, ws, .slice fa fs.length fc, fs, .slice la ls.length lc, ls, .slice oa os.length oc, os, em⟩ = ⟨ws, fs, ls, os.map (·.2), em⟩) := Hid.mk rfl
  rw [HAU.out] at HB HR HTH HBL
  clear HAU
  have HM2 : Hid (∀ wr, Below w.heap.size w wr → Calls Try.prog 36 #[.agg #[.slice wa ws.length wc, .slice fa fs.length fc, .slice la ls.length lc, .slice oa os.length oc, .bool em]] wr fun e w' => e = .returned (.bool b) ∧ Below wr.heap.size wr w') := HM
  have HT2 : Hid (∀ wr, Below w.heap.size w wr → Calls Try.prog 45 #[.agg #[.slice wa ws.length wc, .slice fa fs.length fc, .slice la ls.length lc, .slice oa os.length oc, .bool em], .int .i64 z] wr fun e w' => e = .returned (.bool th) ∧ Below wr.heap.size wr w') := HT
  have HBH2 : Hid (b = true → th = true → ∀ wr, Below w.heap.size w wr → Calls Try.prog 46 #[.agg #[.slice wa ws.length wc, .slice fa fs.length fc, .slice la ls.length lc, .slice oa os.length oc, .bool em], .int .i64 z] wr fun e w' => ∃ bv, e = .returned bv ∧ IntZ S wr bv bl ∧ Below wr.heap.size wr w') := HBH
  clear HM HT HBH
  show Calls Try.prog _ #[.agg #[.slice wa ws.length wc, .slice fa fs.length fc, .slice la ls.length lc, .slice oa os.length oc, .bool em], _, _] w _
  obtain ⟨n, hn⟩ : ∃ n, n = ws.length := ⟨_, rfl⟩
  obtain ⟨no, hno⟩ : ∃ n, n = os.length := ⟨_, rfl⟩
  obtain ⟨nf, hnf⟩ : ∃ n, n = fs.length := ⟨_, rfl⟩
  obtain ⟨nl, hnl⟩ : ∃ n, n = ls.length := ⟨_, rfl⟩
  rw [← hn, ← hno, ← hnf, ← hnl] at HM2 HT2 HBH2 ⊢
  rw [← hn] at HW hwl HIN
  have HN := Hid.mk hn
  obtain ⟨o, ho⟩ : ∃ o, o = Obj.cells #[.slice wa n wc, .slice fa nf fc, .slice la nl lc, .slice oa no oc, .bool em] 31 := ⟨_, rfl⟩
  have HOB := Hid.mk ho
  have HC : Hid (∀ wr, Below (w.alloc o).heap.size (w.alloc o) wr → wr.cell? ⟨w.heap.size, 0, none⟩ = some (.slice wa n wc) ∧ wr.cell? ⟨w.heap.size, 1, none⟩ = some (.slice fa nf fc) ∧ wr.cell? ⟨w.heap.size, 2, none⟩ = some (.slice la nl lc) ∧ wr.cell? ⟨w.heap.size, 3, none⟩ = some (.slice oa no oc) ∧ wr.cell? ⟨w.heap.size, 4, none⟩ = some (.bool em)) := Hid.mk (fun wr hb => by
    have h := box_keptQ hb
    rw [HOB.out] at h
    exact cells5 h)
  have HB0 : Hid (Below (w.alloc o).heap.size (w.alloc o) (w.alloc (.cells #[.slice wa n wc, .slice fa nf fc, .slice la nl lc, .slice oa no oc, .bool em] 31))) := Hid.mk (by rw [HOB.out]; exact Below.refl _ _)
  clear ho hn hno hnf hnl
  cases b with
  | false =>
    have HX : Hid (R = []) := Hid.mk (by rw [HR.out]; exact next_no (fun h => by rw [← HB.out] at h; cases h.1))
    go_enter Try.func21, Try.ntmps21
    go_wp2_with fail
    refine (HM2.out _ (below_boxQ HB0.out)).mono ?_
    rintro e w1 ⟨rfl, hb1⟩
    have HB1 := Hid.mk (HB0.out.trans (hb1.mono HB0.out.size))
    clear hb1
    go_wp2
    go_ret
    refine ⟨_, rfl, ?_, below_boxQ HB1.out⟩
    rw [HX.out]
    exact World.ownsRow_nil _ _ _ _
  | true =>
    cases th with
    | false =>
      have HX : Hid (R = []) := Hid.mk (by rw [HR.out]; exact next_no (fun h => by rw [← HTH.out] at h; cases h.2))
      go_enter Try.func21, Try.ntmps21
      go_wp2_with fail
      refine (HM2.out _ (below_boxQ HB0.out)).mono ?_
      rintro e w1 ⟨rfl, hb1⟩
      have HB1 := Hid.mk (HB0.out.trans (hb1.mono HB0.out.size))
      obtain ⟨c0, c1, c2, c3, c4⟩ := HC.out _ HB1.out
      clear hb1
      go_wp2_with fail
      refine (HT2.out _ (below_boxQ HB1.out)).mono ?_
      rintro e w2 ⟨rfl, hb2⟩
      have HB2 := Hid.mk (HB1.out.trans (hb2.mono HB1.out.size))
      clear hb2 c0 c1 c2 c3 c4
      go_wp2
      go_ret
      refine ⟨_, rfl, ?_, below_boxQ HB2.out⟩
      rw [HX.out]
      exact World.ownsRow_nil _ _ _ _
    | true =>
      have HX : Hid (R = nextL ws s bl) := Hid.mk (by rw [HR.out, next_yes HB.out.symm HTH.out.symm, ← HBL.out])
      have h24 : n ≤ 24 := by have := (may_len HB.out.symm).1; rw [HN.out]; exact this
      have HIN2 := Hid.mk (HIN.out rfl)
      have HNL2 := HNL.out rfl
      have HBH3 := Hid.mk (HBH2.out rfl rfl)
      clear HBH2
      obtain ⟨nb, hnb⟩ : ∃ n, n = bl.length := ⟨_, rfl⟩
      rw [← hnb] at HNL2
      have HNB := Hid.mk hnb
      clear HIN HNL HR hnb
      go_enter Try.func21, Try.ntmps21
      go_wp2_with fail
      refine (HM2.out _ (below_boxQ HB0.out)).mono ?_
      rintro e w1 ⟨rfl, hb1⟩
      have HB1 := Hid.mk (HB0.out.trans (hb1.mono HB0.out.size))
      obtain ⟨c0, c1, c2, c3, c4⟩ := HC.out _ HB1.out
      clear hb1
      go_wp2_with fail
      refine (HT2.out _ (below_boxQ HB1.out)).mono ?_
      rintro e w2 ⟨rfl, hb2⟩
      have HB2 := Hid.mk (HB1.out.trans (hb2.mono HB1.out.size))
      clear hb2 c0 c1 c2 c3 c4
      obtain ⟨c0, c1, c2, c3, c4⟩ := HC.out _ HB2.out
      go_wp2_with fail
      refine (HBH3.out _ (below_boxQ HB2.out)).mono ?_
      rintro e w3 ⟨bv, rfl, hbz, hb3⟩
      obtain ⟨ba, bc, rfl⟩ := hbz.slice
      have HF := Hid.mk (hbz.below hb3)
      have HB3 := Hid.mk (HB2.out.trans (hb3.mono HB2.out.size))
      rw [← HNB.out] at HF
      rw [← HNB.out]
      clear hb3 hbz c0 c1 c2 c3 c4
      go_wp2_with fail
      go_loopw [7, 23] (fun vl c wr => ∃ (i : Nat) (u : Value), u = vl ∧ i ≤ nb ∧ c = .int .i64 i ∧ wr.ownsRow w3.heap.size 3 1 u (nextL ws s (bl.take i)).length ((nextL ws s (bl.take i)).flatMap csZ) ∧ Below w3.heap.size w3 wr) (fun _ c _ => nb - (intOf c).toNat)
      case atStart => exact ⟨0, _, rfl, Nat.zero_le _, rfl, World.ownsRow_nil _ _ _ _, Below.refl _ _⟩
      case round =>
        obtain ⟨i, u, rfl, hi, rfl, hrow, hbq0⟩ := hrel
        have hbq := HB3.out.trans (hbq0.mono HB3.out.size)
        obtain ⟨ua, uc, hu⟩ := own_slice hrow
        obtain ⟨nu, hnu⟩ : ∃ n, n = (nextL ws s (bl.take i)).length := ⟨_, rfl⟩
        rw [← hnu] at hu
        subst hu
        have hnb : nu ≤ 24 := by have := nextL_len ws s (bl.take i); have h2 := List.length_take_le i bl; have h3 : i ≤ 24 := by omega
                                 omega
        have HROW := Hid.mk hrow
        have HBQ0 := Hid.mk hbq0
        have HBQ := Hid.mk hbq
        have HNU := Hid.mk hnu
        have hsx : w3.heap.size ≤ wr.heap.size := hbq0.size
        obtain ⟨c0, c1, c2, c3, c4⟩ := HC.out _ hbq
        clear hrow hbq hbq0 hnu c1 c2 c3 c4
        by_cases hlt : i < nb
        · have hltI : (i : Int) < (nb : Int) := by omega
          obtain ⟨x, hx⟩ : ∃ x, bl[i]? = some x := ⟨_, List.getElem?_eq_getElem (by rw [← HNB.out]; exact hlt)⟩
          obtain ⟨hx0, hxn⟩ := HIN2.out x (List.mem_of_getElem? hx)
          obtain ⟨xn, hxe⟩ : ∃ k : Nat, x = (k : Int) := ⟨x.toNat, by omega⟩
          subst hxe
          obtain ⟨tx, htx⟩ : ∃ t, ws[xn]? = some t := ⟨_, List.getElem?_eq_getElem (by rw [← HN.out]; omega)⟩
          obtain ⟨g, off, rfl, _, _, hcell⟩ := (HF.out.below HBQ0.out).get hx
          have q0 := getZ hcell
          rw [Nat.mul_one] at q0
          obtain ⟨g1, o1, rfl, _, _, hcell1⟩ := (HW.out.below (below_boxQ HBQ.out)).get htx
          have q1 := getTx hcell1
          rw [Nat.mul_one] at q1
          have HS := Hid.mk (nextL_succ (s := s) hx htx)
          clear hx htx hcell hcell1
          by_cases e : tx = s
          · subst e
            rw [if_pos rfl] at HS
            rw [HNU.out] at HROW
            rw [← HNU.out] at HROW
            go_wp2_with (at_builtin; refine wpList_append_lies _ rfl _ _ _ rfl w3.heap.size 3 i0 _ 1 8 Try.underlying28 hi0 hz0 hz1 hz2 rfl (by decide) (.slice ua nu uc) _ _ (by rfl) (HROW.out.alloc _) ⟨wr.heap.size, 0, none⟩ 1 1 (csZ (xn : Int)) (by rfl) (by rfl) ?d1 ?d2 (by decide) ?d3 ?d4 ?d5 (wr.heap.size + 1) (by simp) ?_)
            case d1 => exact World.news_of_block (cs := #[.int .i64 (xn : Int)]) (t := 3) (fr := (0, 0)) (heap_alloc_new wr _)
            case d2 => simp [Value.oneCell']
            case d3 => unfold maxLen; have := HNU.out; omega
            case d4 => have := HNU.out; omega
            case d5 => simp; omega
            intro gg cap2 w9 hown9 hgrow9 hat9 hlt9
            have ba : Below wr.heap.size wr (wr.alloc (.cells #[.int .i64 (xn : Int)] 3)) := (Below.refl _ _).alloc (Nat.le_refl _) _
            have HB9 : Hid (Below w3.heap.size w3 w9) := Hid.mk ((HBQ0.out.trans (ba.mono HBQ0.out.size)).grown hgrow9 (by simp; omega) (fun k e => (HROW.out.lt k e).1))
            have HR9 : Hid (w9.ownsRow w3.heap.size 3 1 (.slice (some ⟨gg, 0, none⟩) (nu + 1) cap2) (nextL ws tx (bl.take (i + 1))).length ((nextL ws tx (bl.take (i + 1))).flatMap csZ)) := Hid.mk (by
              rw [HS.out, List.length_append, ← HNU.out, List.flatMap_append]
              have h2 := hown9
              simpa [csZ] using h2)
            clear hown9 hgrow9 hat9 hlt9 ba
            go_wp2
            go_roundw
            case rel => exact ⟨i + 1, _, rfl, by omega, by go_num, HR9.out, HB9.out⟩
            case measure => simp [intOf]; omega
          · rw [if_neg e, List.append_nil] at HS
            have e1 : (tx == s) = false := by simpa using e
            have HR9 : Hid (wr.ownsRow w3.heap.size 3 1 (.slice ua nu uc) (nextL ws s (bl.take (i + 1))).length ((nextL ws s (bl.take (i + 1))).flatMap csZ)) := Hid.mk (by rw [HS.out]; exact HROW.out)
            go_wp2
            go_roundw
            case rel => exact ⟨i + 1, _, rfl, by omega, by go_num, HR9.out, HBQ0.out⟩
            case measure => simp [intOf]; omega
        · have hltI : ¬ (i : Int) < (nb : Int) := by omega
          have HT : Hid (bl.take i = bl) := Hid.mk (List.take_of_length_le (by rw [← HNB.out]; omega))
          rw [HT.out] at HROW
          go_wp2
          go_ret
          refine ⟨_, rfl, ?_, below_boxQ HBQ.out⟩
          rw [HX.out]
          exact own_lower HROW.out (below_boxQ HB3.out).size

set_option maxRecDepth 100000 in
set_option maxHeartbeats 2000000 in
theorem indexZ_any {S : Nat → Prop} {w : World} {v : Value} {L : List Int} (h : IntZ S w v L) (hl : L.length ≤ 9223372036854775806) (z : Int) :
    Calls Try.prog 64 #[v, .int .i64 z] w fun e w' => (∃ y : Int, e = .returned (.int .i64 y) ∧ decide (0 ≤ y) = decide (z ∈ L)) ∧ w' = w := by
  obtain ⟨ao, cap, rfl⟩ := h.slice
  have H := Hid.mk h
  obtain ⟨n, hn⟩ : ∃ n, n = L.length := ⟨_, rfl⟩
  rw [← hn] at hl H ⊢
  have HN := Hid.mk hn
  obtain ⟨ans, hans⟩ : ∃ a, a = decide (z ∈ L) := ⟨_, rfl⟩
  rw [← hans]
  have HA := Hid.mk hans
  clear h hn hans
  go_enter Try.func64, Try.ntmps64
  go_wp2_with fail
  go_loopw [8] (fun c wr => ∃ i : Nat, i ≤ n ∧ c = .int .i64 i ∧ z ∉ L.take i ∧ wr = w) (fun c _ => n - (intOf c).toNat)
  case atStart => exact ⟨0, Nat.zero_le _, rfl, by simp, rfl⟩
  case round =>
    obtain ⟨i, hi, rfl, hall, rfl⟩ := hrel
    have HAll := Hid.mk hall
    clear hall
    by_cases hlt : i < n
    · have hltI : (i : Int) < (n : Int) := by omega
      obtain ⟨x, hx⟩ : ∃ x, L[i]? = some x := ⟨_, List.getElem?_eq_getElem (by rw [← HN.out]; exact hlt)⟩
      obtain ⟨g, off, rfl, _, _, hcell⟩ := H.out.get hx
      have q0 := getZ hcell
      rw [Nat.mul_one] at q0
      have HX := Hid.mk hx
      clear hx hcell
      by_cases e : z = x
      · subst e
        have HT : Hid (ans = true) := Hid.mk (by rw [HA.out]; exact decide_eq_true (List.mem_of_getElem? HX.out))
        go_wp2
        go_ret
        exact ⟨⟨_, rfl, by rw [HT.out]; simp⟩, rfl⟩
      · obtain ⟨e1, e2⟩ := not_both e
        have HA2 : Hid (z ∉ L.take (i + 1)) := Hid.mk (by
          rw [List.take_add_one, HX.out]
          intro h
          rcases List.mem_append.1 h with h | h
          · exact HAll.out h
          · simp at h; exact e h)
        clear e
        go_wp2
        go_roundw
        case rel => exact ⟨i + 1, by omega, by go_num, HA2.out, by trivial⟩
        case measure => simp [intOf]; omega
    · have hltI : ¬ (i : Int) < (n : Int) := by omega
      have HF : Hid (ans = false) := Hid.mk (by
        rw [HA.out]
        refine decide_eq_false (fun h => HAll.out ?_)
        rw [List.take_of_length_le (by rw [← HN.out]; omega)]
        exact h)
      go_wp2
      go_ret
      exact ⟨⟨_, rfl, by rw [HF.out]; rfl⟩, rfl⟩

set_option maxRecDepth 100000 in
set_option maxHeartbeats 2000000 in
theorem containsZ_any {S : Nat → Prop} {w : World} {v : Value} {L : List Int} (h : IntZ S w v L) (hl : L.length ≤ 9223372036854775806) (z : Int) :
    Calls Try.prog 43 #[v, .int .i64 z] w fun e w' => e = .returned (.bool (decide (z ∈ L))) ∧ w' = w := by
  have C := Hid.mk (indexZ_any h hl z)
  obtain ⟨ans, hans⟩ : ∃ a, a = decide (z ∈ L) := ⟨_, rfl⟩
  rw [← hans] at C ⊢
  clear h hl hans
  go_enter Try.func43, Try.ntmps43
  go_wp2_with fail
  refine C.out.mono ?_
  rintro e w1 ⟨⟨y, rfl, hy⟩, rfl⟩
  have HY := Hid.mk hy
  clear hy
  go_wp2
  go_ret
  exact ⟨by rw [← HY.out]; rfl, rfl⟩

set_option maxHeartbeats 4000000 in
set_option maxRecDepth 100000 in
theorem ends_any {S : Nat → Prop} {w : World} {m : Mu} (h : UOk S w m) (z : Int) :
    Calls Try.prog 18 #[encU m, .int .i64 z] w fun e w' => e = .returned (.bool (endsA m.au z)) ∧ Below w.heap.size w w' := by
  obtain ⟨wa, wc, fa, fc, la, lc, oa, oc, e1, e2, e3, e4⟩ := h.slices
  obtain ⟨b, hb⟩ : ∃ b, b = mayA m.au := ⟨_, rfl⟩
  obtain ⟨c, hc⟩ : ∃ b, b = decide (z ∈ m.ls) := ⟨_, rfl⟩
  have HM : Hid (∀ wr, Below w.heap.size w wr → Calls Try.prog 36 #[encU m] wr fun e w' => e = .returned (.bool b) ∧ Below wr.heap.size wr w') := Hid.mk (fun wr hb2 => by rw [hb]; exact mayBeA_any (h.below hb2))
  have HCO : Hid (∀ wr, Below w.heap.size w wr → Calls Try.prog 43 #[m.lv, .int .i64 z] wr fun e w' => e = .returned (.bool c) ∧ w' = wr) := Hid.mk (fun wr hb2 => by rw [hc]; exact containsZ_any (h.ls.below hb2) h.ll z)
  obtain ⟨R, hR⟩ : ∃ R, R = endsA m.au z := ⟨_, rfl⟩
  rw [← hR]
  have HR1 : Hid (b = false → R = false) := Hid.mk (fun h1 => by rw [hR]; exact ends_no (fun h2 => by rw [hb, h2.1] at h1; cases h1))
  have HR2 : Hid (b = true → z = -1 → R = m.em) := Hid.mk (fun h1 h2 => by
    rw [hR, ends_yes (hb.symm.trans h1) (by rw [h2, isPl]; simp; omega), if_pos (by omega)]
    rfl)
  have HR3 : Hid (b = true → z ≠ -1 → R = c) := Hid.mk (fun h1 h2 => by
    have hg := may_last (hb.symm.trans h1)
    cases hp : isPl m.au z with
    | true =>
      have hp2 := hp
      simp only [isPl, Bool.and_eq_true, decide_eq_true_eq] at hp2
      rw [hR, ends_yes (hb.symm.trans h1) hp, if_neg (by omega), hc]
      rfl
    | false =>
      rw [hR, ends_no (fun h3 => by rw [hp] at h3; cases h3.2), hc]
      refine (decide_eq_false (fun hin => ?_)).symm
      have := good_mem hg (x := z) hin
      have hp2 : isPl m.au z = true := by
        simp only [isPl, Bool.and_eq_true, decide_eq_true_eq]
        omega
      rw [hp] at hp2
      cases hp2)
  clear hR hb hc
  obtain ⟨wv, ws, fv, fs, lv, ls, ov, os, em⟩ := m
  dsimp only at e1 e2 e3 e4 HCO HR2
  subst e1 e2 e3 e4
  clear h
  have HM2 : Hid (∀ wr, Below w.heap.size w wr → Calls Try.prog 36 #[.agg #[.slice wa ws.length wc, .slice fa fs.length fc, .slice la ls.length lc, .slice oa os.length oc, .bool em]] wr fun e w' => e = .returned (.bool b) ∧ Below wr.heap.size wr w') := HM
  clear HM
  show Calls Try.prog _ #[.agg #[.slice wa ws.length wc, .slice fa fs.length fc, .slice la ls.length lc, .slice oa os.length oc, .bool em], _] w _
  obtain ⟨n, hn⟩ : ∃ n, n = ws.length := ⟨_, rfl⟩
  obtain ⟨no, hno⟩ : ∃ n, n = os.length := ⟨_, rfl⟩
  obtain ⟨nf, hnf⟩ : ∃ n, n = fs.length := ⟨_, rfl⟩
  obtain ⟨nl, hnl⟩ : ∃ n, n = ls.length := ⟨_, rfl⟩
  rw [← hn, ← hno, ← hnf, ← hnl] at HM2 ⊢
  rw [← hnl] at HCO
  obtain ⟨o, ho⟩ : ∃ o, o = Obj.cells #[.slice wa n wc, .slice fa nf fc, .slice la nl lc, .slice oa no oc, .bool em] 31 := ⟨_, rfl⟩
  have HOB := Hid.mk ho
  have HC : Hid (∀ wr, Below (w.alloc o).heap.size (w.alloc o) wr → wr.cell? ⟨w.heap.size, 2, none⟩ = some (.slice la nl lc) ∧ wr.cell? ⟨w.heap.size, 4, none⟩ = some (.bool em)) := Hid.mk (fun wr hb => by
    have h := box_keptQ hb
    rw [HOB.out] at h
    exact ⟨(cells5 h).2.2.1, (cells5 h).2.2.2.2⟩)
  have HB0 : Hid (Below (w.alloc o).heap.size (w.alloc o) (w.alloc (.cells #[.slice wa n wc, .slice fa nf fc, .slice la nl lc, .slice oa no oc, .bool em] 31))) := Hid.mk (by rw [HOB.out]; exact Below.refl _ _)
  clear ho hn hno hnf hnl
  cases b with
  | false =>
    have HX : Hid (R = false) := Hid.mk (HR1.out rfl)
    go_enter Try.func18, Try.ntmps18
    go_wp2_with fail
    refine (HM2.out _ (below_boxQ HB0.out)).mono ?_
    rintro e w1 ⟨rfl, hb1⟩
    have HB1 := Hid.mk (HB0.out.trans (hb1.mono HB0.out.size))
    clear hb1
    go_wp2
    go_ret
    exact ⟨by rw [HX.out]; rfl, below_boxQ HB1.out⟩
  | true =>
    by_cases hz : z = -1
    · have HX : Hid (R = em) := Hid.mk (HR2.out rfl hz)
      subst hz
      go_enter Try.func18, Try.ntmps18
      go_wp2_with fail
      refine (HM2.out _ (below_boxQ HB0.out)).mono ?_
      rintro e w1 ⟨rfl, hb1⟩
      have HB1 := Hid.mk (HB0.out.trans (hb1.mono HB0.out.size))
      obtain ⟨c2, c4⟩ := HC.out _ HB1.out
      clear hb1
      go_wp2
      go_ret
      exact ⟨by rw [HX.out]; rfl, below_boxQ HB1.out⟩
    · obtain ⟨e1, e2⟩ := not_both hz
      have HX : Hid (R = c) := Hid.mk (HR3.out rfl hz)
      clear hz
      go_enter Try.func18, Try.ntmps18
      go_wp2_with fail
      refine (HM2.out _ (below_boxQ HB0.out)).mono ?_
      rintro e w1 ⟨rfl, hb1⟩
      have HB1 := Hid.mk (HB0.out.trans (hb1.mono HB0.out.size))
      obtain ⟨c2, c4⟩ := HC.out _ HB1.out
      clear hb1
      go_wp2_with fail
      refine (HCO.out _ (below_boxQ HB1.out)).mono ?_
      rintro e w2 ⟨rfl, rfl⟩
      go_wp2
      go_ret
      exact ⟨by rw [HX.out]; rfl, below_boxQ HB1.out⟩
end Go.Proofs.Ythdnpddfdlhlaaa
