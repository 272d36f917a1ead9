/- Accepts of the document. -/
import Derived.Test.YthdnpddfdlhlaaaACross
namespace Go.Proofs.Ythdnpddfdlhlaaa
open Go.RowKit Go.Shelf

/-- 'append(v, list...)' at a step of a region that draws its order. -/
theorem step_append_many {w : World} {ops : Array Oper} {o : Oper} {a : Act} {K : Act → World → Prop} {Q : Exit → Act → World → Prop} {E : Prop} (hgd : o.guard = none) (sl x : Operand) {t : TypeId}
    (ho : o.op = .call { callee := .builtin .append, args := #[sl, x], argTypes := #[t, t] })
    {B n k : Nat} {v : Value} {xs : List Value} {e : TypeId} {i0 : TypeInfo} {z : Value} {bytes : Nat} (ht : Try.prog.underlying t = some (.slice e)) (hi : Try.prog.info? e = some i0) (hz0 : i0.zero = some z) (hz1 : i0.size = k) (hz2 : i0.bytes = bytes) (hz3 : z.cells.size = k) (hk : 0 < k)
    (hs : a.eval sl = v) (hown : w.ownsRow B e k v n xs) (ao : Option Addr) (us : List Value) (m cap : Nat) (hx : a.eval x = .slice ao m cap) (hm : us.length = m * k) (hnone : ao = none → m = 0 ∧ cap = 0) (hc : ∀ ad, ao = some ad → ∀ j u, us[j]? = some u → w.cell? (ad.add j) = some u) (h1 : ∀ u ∈ us, u.oneCell' = true)
    (h63 : n + m ≤ maxLen) (hb : (n + m) * bytes ≤ 140737488355328) (hB : B ≤ w.heap.size)
    (h : ∀ v' w', w'.ownsRow B e k v' (n + m) (xs ++ us) → w.grownBy w' v.ownBlock → K (a.put o.dst v') w') :
    if Region.wanted o (yielded ops a.tmps) = true then Oper.wp Try.prog o a w K Q else E := by
  have hw : Region.wanted o (yielded ops a.tmps) = true := by simp [Region.wanted, hgd]
  rw [if_pos hw]
  obtain ⟨v', w', hr, h2, h3⟩ := run_append_many ht hi hz0 hz1 hz2 hz3 hk hown ao us m cap hm hnone hc h1 h63 hb hB o.type
  unfold Oper.wp execOp
  simp only [ho, resolve, invoke, builtin, Sem.run_bind, Sem.run_pure, Result.andThen_ok, List.map_toArray, List.map_cons, List.map_nil, hs, hx, hr]
  exact h v' w' h2 h3
theorem setA_snoc {a : Au} (u : Wd) : ∀ (l : List Wd) (S : List Int), setA a S (l ++ [u]) = riseI a.words.length ((setA a S l).flatMap fun s => nextA a s u)
  | [], _ => rfl
  | w :: l, S => by
    rw [List.cons_append, setA, setA_snoc u l]
    rfl
theorem next_len (a : Au) (s : Int) (u : Wd) : (nextA a s u).length ≤ a.words.length := by
  unfold nextA
  split
  · rename_i h
    refine Nat.le_trans (List.length_filter_le _ _) ?_
    unfold outA
    split
    · exact goodL_len (may_first h.1)
    · rw [List.getD]
      cases hg : a.follow[s.toNat]? with
      | none => simp
      | some l => exact goodL_len (may_follow h.1 (List.mem_of_getElem? hg))
  · simp
theorem set_len {a : Au} (l : List Wd) (h : a.words.length ≤ 24) : (setA a [-1] l).length ≤ 24 := by
  rcases List.eq_nil_or_concat l with rfl | ⟨l', u, rfl⟩
  · simp [setA]
  · rw [List.concat_eq_append, setA_snoc]
    exact Nat.le_trans (riseI_len _ _) h
theorem flat_le {f : Int → List Int} (h : ∀ s, (f s).length ≤ 24) : ∀ l : List Int, (l.flatMap f).length ≤ l.length * 24
  | [] => by simp
  | x :: l => by
    rw [List.flatMap_cons, List.length_append, List.length_cons, Nat.succ_mul]
    have := flat_le h l
    have := h x
    omega
set_option maxHeartbeats 8000000 in
set_option maxRecDepth 100000 in
theorem rAcc_any {S T : Nat → Prop} {w : World} {m : Mu} {v : Value} {L : List Wd} (h : UOk S w m) (hv : TxtS T w v L) (hl : L.length ≤ 9223372036854775806) :
    Calls Try.prog 17 #[encU m, v] w fun e w' => e = .returned (.bool (accB m.au L)) ∧ Below w.heap.size w w' := by
  obtain ⟨i0, hi0, hz0, hz1, hz2⟩ := info_parts infoZ
  obtain ⟨wa, wc, fa, fc, la, lc, oa, oc, e1, e2, e3, e4⟩ := h.slices
  obtain ⟨va, vc, rfl⟩ := hv.slice
  have HV := Hid.mk hv
  obtain ⟨n, hn⟩ : ∃ n, n = L.length := ⟨_, rfl⟩
  rw [← hn] at HV hl ⊢
  have HN := Hid.mk hn
  clear hv hn
  obtain ⟨A, hA⟩ : ∃ A, A = m.au := ⟨_, rfl⟩
  obtain ⟨b, hb⟩ : ∃ b, b = mayA A := ⟨_, rfl⟩
  have HM : Hid (∀ wr, Below w.heap.size w wr → Calls Try.prog 15 #[encU m] wr fun e w' => e = .returned (.bool b) ∧ Below wr.heap.size wr w') := Hid.mk (fun wr hb2 => by rw [hb, hA]; exact rMay_any (h.below hb2))
  have HNX : Hid (∀ wr, Below w.heap.size w wr → ∀ (z : Int) (u : Wd), Calls Try.prog 22 #[encU m, .int .i64 z, .string ⟨u.toArray⟩] wr fun e w' => ∃ v', e = .returned v' ∧ w'.ownsRow wr.heap.size 3 1 v' (nextA A z u).length ((nextA A z u).flatMap csZ) ∧ Below wr.heap.size wr w') := Hid.mk (fun wr hb2 z u => by rw [hA]; exact rNext_any (h.below hb2) z u)
  have HEN : Hid (∀ wr, Below w.heap.size w wr → ∀ (z : Int), Calls Try.prog 19 #[encU m, .int .i64 z] wr fun e w' => e = .returned (.bool (endsA A z)) ∧ Below wr.heap.size wr w') := Hid.mk (fun wr hb2 z => by rw [hA]; exact rEnds_any (h.below hb2) z)
  obtain ⟨R, hR⟩ : ∃ R, R = accB A L := ⟨_, rfl⟩
  rw [← hA, ← hR]
  have HWS : Hid (A.words.length = m.ws.length) := Hid.mk (by rw [hA]; rfl)
  have HR := Hid.mk hR
  have HB := Hid.mk hb
  have hwl := h.wl
  clear hR hb hA h
  obtain ⟨wv, ws, fv, fs, lv, ls, ov, os, em⟩ := m
  dsimp only at e1 e2 e3 e4 HWS hwl
  subst e1 e2 e3 e4
  have HM2 : Hid (∀ wr, Below w.heap.size w wr → Calls Try.prog 15 #[.agg #[.slice wa ws.length wc, .slice fa fs.length fc, .slice la ls.length lc, .slice oa os.length oc, .bool em]] wr fun e w' => e = .returned (.bool b) ∧ Below wr.heap.size wr w') := HM
  have HNX2 : Hid (∀ wr, Below w.heap.size w wr → ∀ (z : Int) (u : Wd), Calls Try.prog 22 #[.agg #[.slice wa ws.length wc, .slice fa fs.length fc, .slice la ls.length lc, .slice oa os.length oc, .bool em], .int .i64 z, .string ⟨u.toArray⟩] wr fun e w' => ∃ v', e = .returned v' ∧ w'.ownsRow wr.heap.size 3 1 v' (nextA A z u).length ((nextA A z u).flatMap csZ) ∧ Below wr.heap.size wr w') := HNX
  have HEN2 : Hid (∀ wr, Below w.heap.size w wr → ∀ (z : Int), Calls Try.prog 19 #[.agg #[.slice wa ws.length wc, .slice fa fs.length fc, .slice la ls.length lc, .slice oa os.length oc, .bool em], .int .i64 z] wr fun e w' => e = .returned (.bool (endsA A z)) ∧ Below wr.heap.size wr w') := HEN
  clear HM HNX HEN
  show Calls Try.prog _ #[.agg #[.slice wa ws.length wc, .slice fa fs.length fc, .slice la ls.length lc, .slice oa os.length oc, .bool em], _] w _
  obtain ⟨nw, hnw⟩ : ∃ n, n = ws.length := ⟨_, rfl⟩
  obtain ⟨no, hno⟩ : ∃ n, n = os.length := ⟨_, rfl⟩
  obtain ⟨nf, hnf⟩ : ∃ n, n = fs.length := ⟨_, rfl⟩
  obtain ⟨nl, hnl⟩ : ∃ n, n = ls.length := ⟨_, rfl⟩
  rw [← hnw, ← hno, ← hnf, ← hnl] at HM2 HNX2 HEN2 ⊢
  rw [← hnw] at HWS hwl
  obtain ⟨o, ho⟩ : ∃ o, o = Obj.cells #[.slice wa nw wc, .slice fa nf fc, .slice la nl lc, .slice oa no oc, .bool em] 31 := ⟨_, rfl⟩
  have HOB := Hid.mk ho
  have HC : Hid (∀ wr, Below (w.alloc o).heap.size (w.alloc o) wr → wr.cell? ⟨w.heap.size, 0, none⟩ = some (.slice wa nw wc) ∧ wr.cell? ⟨w.heap.size, 1, none⟩ = some (.slice fa nf fc) ∧ wr.cell? ⟨w.heap.size, 2, none⟩ = some (.slice la nl lc) ∧ wr.cell? ⟨w.heap.size, 3, none⟩ = some (.slice oa no oc) ∧ wr.cell? ⟨w.heap.size, 4, none⟩ = some (.bool em)) := Hid.mk (fun wr hb => by
    have h := box_keptQ hb
    rw [HOB.out] at h
    exact cells5 h)
  have HB0 : Hid (Below (w.alloc o).heap.size (w.alloc o) (w.alloc (.cells #[.slice wa nw wc, .slice fa nf fc, .slice la nl lc, .slice oa no oc, .bool em] 31))) := Hid.mk (by rw [HOB.out]; exact Below.refl _ _)
  clear ho hno hnf hnl hnw
  cases b with
  | false =>
    have HX : Hid (R = false) := Hid.mk (by rw [HR.out, accB, ← HB.out]; rfl)
    go_enter Try.func17, Try.ntmps17
    go_wp2_with fail
    refine (HM2.out _ (below_boxQ HB0.out)).mono ?_
    rintro e w1 ⟨rfl, hb1⟩
    have HB1 := Hid.mk (HB0.out.trans (hb1.mono HB0.out.size))
    clear hb1
    go_wp2
    go_ret
    exact ⟨by rw [HX.out]; rfl, below_boxQ HB1.out⟩
  | true =>
    have HX : Hid (R = (setA A [-1] L).any (endsA A)) := Hid.mk (by rw [HR.out, accB, ← HB.out]; rfl)
    have h24 : nw ≤ 24 := by have := (may_len HB.out.symm).1; have h2 := HWS.out; omega
    have HNL : Hid (∀ s u, (nextA A s u).length ≤ 24) := Hid.mk (fun s u => by have := next_len A s u; have h2 := HWS.out; omega)
    have HSL : Hid (∀ l, (setA A [-1] l).length ≤ 24) := Hid.mk (fun l => set_len l (by have h2 := HWS.out; omega))
    clear HR
    go_enter Try.func17, Try.ntmps17
    go_wp2_with fail
    refine (HM2.out _ (below_boxQ HB0.out)).mono ?_
    rintro e w1 ⟨rfl, hb1⟩
    have HB1 := Hid.mk (HB0.out.trans (hb1.mono HB0.out.size))
    clear hb1
    go_wp2_with fail
    go_loopw [5, 6] (fun vl c wr => ∃ (i : Nat) (u : Value), u = vl ∧ i ≤ n ∧ c = .int .i64 i ∧ Src csZ 1 wr u (setA A [-1] (L.take i)) ∧ Below (w.alloc o).heap.size (w.alloc o) wr) (fun _ c _ => n - (intOf c).toNat)
    case atStart =>
      refine ⟨0, _, rfl, Nat.zero_le _, rfl, ?_, HB1.out.trans (((Below.refl _ _).alloc (Nat.le_refl _) _).mono HB1.out.size)⟩
      refine ⟨⟨_, _, rfl, .inr ⟨w1.heap.size, 0, rfl, trivial, by simp, fun j x hx c u hu => ?_⟩⟩, fun n cap e => by cases e⟩
      rw [List.take_zero, setA] at hx
      have hj : j = 0 := by
        have := (List.getElem?_eq_some_iff.1 hx).1
        simp at this
        exact this
      subst hj
      simp at hx
      subst hx
      have hc : c = 0 := by
        have := (List.getElem?_eq_some_iff.1 hu).1
        simp at this
        exact this
      subst hc
      simp at hu
      subst hu
      show World.cell? _ ⟨w1.heap.size, 0, none⟩ = _
      simp only [World.cell?, heap_alloc_new]
      rfl
    case round =>
      obtain ⟨i, u, rfl, hi, rfl, hsrc, hbq⟩ := hrel
      obtain ⟨cur, hcur⟩ : ∃ c, c = setA A [-1] (L.take i) := ⟨_, rfl⟩
      rw [← hcur] at hsrc
      obtain ⟨ua, uc, hu⟩ := hsrc.sl.slice
      obtain ⟨nc, hnc⟩ : ∃ n, n = cur.length := ⟨_, rfl⟩
      rw [← hnc] at hu
      subst hu
      have hncb : nc ≤ 24 := by rw [hnc, hcur]; exact HSL.out _
      obtain ⟨wx, hwx⟩ : ∃ wx, wx = wr := ⟨_, rfl⟩
      subst hwx
      have HSRC := Hid.mk hsrc
      have HBQ := Hid.mk hbq
      have HCUR := Hid.mk hcur
      have HNC := Hid.mk hnc
      clear hsrc hbq hcur hnc
      by_cases hlt : i < n
      · have hltI : (i : Int) < (n : Int) := by omega
        obtain ⟨x, hx⟩ : ∃ x, L[i]? = some x := ⟨_, List.getElem?_eq_getElem (by rw [← HN.out]; exact hlt)⟩
        have HXX := Hid.mk hx
        clear hx
        go_wp2_with fail
        go_loopw [7, 8] (fun vl c wr => ∃ (k : Nat) (q : Value), q = vl ∧ k ≤ nc ∧ c = .int .i64 k ∧ wr.ownsRow wx.heap.size 3 1 q ((cur.take k).flatMap fun s => nextA A s x).length (((cur.take k).flatMap fun s => nextA A s x).flatMap csZ) ∧ Below wx.heap.size wx wr) (fun _ c _ => nc - (intOf c).toNat)
        case atStart => exact ⟨0, _, rfl, Nat.zero_le _, rfl, World.ownsRow_nil _ _ _ _, Below.refl _ _⟩
        case round =>
          obtain ⟨k, q, rfl, hk, rfl, hrow, hbr⟩ := hrel
          obtain ⟨qa, qc, hq⟩ := own_slice hrow
          obtain ⟨nq, hnq⟩ : ∃ n, n = ((cur.take k).flatMap fun s => nextA A s x).length := ⟨_, rfl⟩
          rw [← hnq] at hq
          subst hq
          have hnqb : nq ≤ 1000 := by
            have h3 := flat_le (f := fun s => nextA A s x) (fun s => HNL.out s x) (cur.take k)
            have h4 : (cur.take k).length ≤ k := List.length_take_le _ _
            omega
          have HROW := Hid.mk hrow
          have HBR := Hid.mk hbr
          have HNQ := Hid.mk hnq
          have HBQ2 := Hid.mk (HBQ.out.trans (hbr.mono HBQ.out.size))
          have hsx : wx.heap.size ≤ wr.heap.size := hbr.size
          clear hrow hbr hnq
          obtain ⟨c0, c1, c2, c3, c4⟩ := HC.out _ HBQ2.out
          by_cases hlk : k < nc
          · have hlkI : (k : Int) < (nc : Int) := by omega
            obtain ⟨s, hs⟩ : ∃ s, cur[k]? = some s := ⟨_, List.getElem?_eq_getElem (by rw [← HNC.out]; exact hlk)⟩
            obtain ⟨g, off, rfl, _, _, hcell⟩ := (HSRC.out.below HBR.out).sl.get hs
            have q0 := getZ hcell
            rw [Nat.mul_one] at q0
            obtain ⟨g1, o1, rfl, _, _, hcell1⟩ := (HV.out.below (below_boxQ HBQ2.out)).get HXX.out
            have q1 := getTx hcell1
            rw [Nat.mul_one] at q1
            have HT : Hid ((cur.take (k + 1)).flatMap (fun s => nextA A s x) = (cur.take k).flatMap (fun s => nextA A s x) ++ nextA A s x) := Hid.mk (by rw [List.take_add_one, hs, List.flatMap_append]; simp)
            clear hs hcell hcell1
            rw [HNQ.out] at HROW
            rw [← HNQ.out] at HROW
            obtain ⟨nn, hnn⟩ : ∃ n, n = (nextA A s x).length := ⟨_, rfl⟩
            have hnnb : nn ≤ 24 := by rw [hnn]; exact HNL.out s x
            have HNN := Hid.mk hnn
            have HCA := HNX2.out wr.drew (below_boxQ HBQ2.out.drew) s x
            rw [← hnn] at HCA
            have HCA := Hid.mk HCA
            clear hnn
            go_wp2_with fail
            go_region_law (first
              | (go_simp; refine HCA.out.mono ?_; rintro e w3 ⟨v3, rfl, hown3, hb3⟩; obtain ⟨a3, c3', hv3⟩ := own_slice hown3; subst hv3)
              | (refine step_append_many (by rfl) _ _ (by rfl) Try.underlying28 hi0 hz0 hz1 hz2 rfl (by decide) (v := .slice qa nq qc) (by rfl) (owns_below HROW.out.drew hb3) a3 ((nextA A s x).flatMap csZ) nn c3' (by rfl) (by rw [flat_len csZ_len, HNN.out]) (fun e => (Src.own csZ_len hown3 HNN.out).no _ _ (by rw [e])) ((Src.own csZ_len hown3 HNN.out).cells csZ_len (by decide)) (one_csZ _) (by unfold maxLen; omega) (by omega) (Nat.le_trans hsx hb3.size) ?_; intro v9 w9 hown9 hgrow9; obtain ⟨a9, c9, hv9⟩ := own_slice hown9; subst hv9))
            all_goals (
              have HB3 : Hid (Below wx.heap.size wx w3) := Hid.mk (HBR.out.drew.trans (hb3.mono hsx))
              have HB9 : Hid (Below wx.heap.size wx w9) := Hid.mk (HB3.out.grown hgrow9 HB3.out.size (fun k e => (HROW.out.lt k e).1))
              have HR9 : Hid (w9.ownsRow wx.heap.size 3 1 (.slice a9 (nq + nn) c9) ((cur.take (k + 1)).flatMap fun s => nextA A s x).length (((cur.take (k + 1)).flatMap fun s => nextA A s x).flatMap csZ)) := Hid.mk (by
                rw [HT.out, List.length_append, ← HNQ.out, ← HNN.out, List.flatMap_append]
                exact hown9)
              clear hown9 hgrow9 hown3 hb3
              go_wp2
              go_roundw
              case rel => exact ⟨k + 1, _, rfl, by omega, by go_num, HR9.out, HB9.out⟩
              case measure => simp [intOf]; omega)
          · have hlkI : ¬ (k : Int) < (nc : Int) := by omega
            have HT : Hid (cur.take k = cur) := Hid.mk (List.take_of_length_le (by rw [← HNC.out]; omega))
            rw [HT.out] at HROW HNQ
            have HIZ := Hid.mk (own_sl csZ_len HROW.out rfl)
            have HNS : Hid (riseI nw (cur.flatMap fun s => nextA A s x) = setA A [-1] (L.take (i + 1))) := Hid.mk (by
              rw [List.take_add_one, HXX.out]
              show _ = setA A [-1] (L.take i ++ [x])
              rw [setA_snoc, ← HCUR.out, HWS.out])
            have HRI : Hid (Calls Try.prog 34 #[.slice qa nq qc, .int .i64 (nw : Int)] wr fun e w' => ∃ v', e = .returned v' ∧ w'.ownsRow wr.heap.size 3 1 v' (riseI nw (cur.flatMap fun s => nextA A s x)).length ((riseI nw (cur.flatMap fun s => nextA A s x)).flatMap csZ) ∧ Below wr.heap.size wr w') := Hid.mk (rising_any HIZ.out (by rw [← HNQ.out]; omega) nw (by omega))
            rw [HNS.out] at HRI
            go_wp2_with fail
            refine HRI.out.mono ?_
            rintro e w4 ⟨v4, rfl, hown4, hb4⟩
            have HS4 := Hid.mk (Src.own csZ_len hown4 rfl)
            obtain ⟨a4, c4', hv4⟩ := own_slice hown4
            subst hv4
            have HB4 := Hid.mk (HBQ2.out.trans (hb4.mono HBQ2.out.size))
            clear hown4 hb4
            go_wp2
            go_roundw
            case rel => exact ⟨i + 1, _, rfl, by omega, by go_num, HS4.out, HB4.out⟩
            case measure => simp [intOf]; omega
      · have hltI : ¬ (i : Int) < (n : Int) := by omega
        have HX2 : Hid (R = cur.any (endsA A)) := Hid.mk (by
          rw [HX.out, HCUR.out, List.take_of_length_le (by rw [← HN.out]; omega)])
        go_wp2_with fail
        go_loopw [9] (fun c wr => ∃ (k : Nat), k ≤ nc ∧ c = .int .i64 k ∧ (cur.take k).any (endsA A) = false ∧ Below wx.heap.size wx wr) (fun c _ => nc - (intOf c).toNat)
        case atStart => exact ⟨0, Nat.zero_le _, rfl, by simp, Below.refl _ _⟩
        case round =>
          obtain ⟨k, hk, rfl, hany, hbr⟩ := hrel
          have HANY := Hid.mk hany
          have HBR := Hid.mk hbr
          have HBQ2 := Hid.mk (HBQ.out.trans (hbr.mono HBQ.out.size))
          clear hany hbr
          obtain ⟨c0, c1, c2, c3, c4⟩ := HC.out _ HBQ2.out
          by_cases hlk : k < nc
          · have hlkI : (k : Int) < (nc : Int) := by omega
            obtain ⟨s, hs⟩ : ∃ s, cur[k]? = some s := ⟨_, List.getElem?_eq_getElem (by rw [← HNC.out]; exact hlk)⟩
            obtain ⟨g, off, rfl, _, _, hcell⟩ := (HSRC.out.below HBR.out).sl.get hs
            have q0 := getZ hcell
            rw [Nat.mul_one] at q0
            have HSS := Hid.mk hs
            obtain ⟨b, hb⟩ : ∃ b, b = endsA A s := ⟨_, rfl⟩
            have HCA := HEN2.out wr.drew (below_boxQ HBQ2.out.drew) s
            rw [← hb] at HCA
            have HCA := Hid.mk HCA
            have HBB := Hid.mk hb
            clear hs hcell hb
            cases b with
            | true =>
              have HF : Hid (R = true) := Hid.mk (by
                rw [HX2.out, List.any_eq_true]
                exact ⟨s, List.mem_of_getElem? HSS.out, HBB.out.symm⟩)
              go_wp2_with fail
              go_region_law (go_simp; refine HCA.out.mono ?_; rintro e w3 ⟨rfl, hb3⟩)
              all_goals (
                have HB3 := Hid.mk (HBQ2.out.drew.trans (hb3.mono HBQ2.out.size))
                clear hb3
                go_wp2
                go_ret
                exact ⟨by rw [HF.out]; rfl, below_boxQ HB3.out⟩)
            | false =>
              have HA2 : Hid ((cur.take (k + 1)).any (endsA A) = false) := Hid.mk (by
                rw [List.take_add_one, HSS.out, List.any_append, HANY.out]
                simp [← HBB.out])
              go_wp2_with fail
              go_region_law (go_simp; refine HCA.out.mono ?_; rintro e w3 ⟨rfl, hb3⟩)
              all_goals (
                have HB3 := Hid.mk (HBR.out.drew.trans (hb3.mono HBR.out.size))
                clear hb3
                go_wp2
                go_roundw
                case rel => exact ⟨k + 1, by omega, by go_num, HA2.out, HB3.out⟩
                case measure => simp [intOf]; omega)
          · have hlkI : ¬ (k : Int) < (nc : Int) := by omega
            have HF : Hid (R = false) := Hid.mk (by
              have h1 := HANY.out
              rw [List.take_of_length_le (by rw [← HNC.out]; omega)] at h1
              rw [HX2.out]
              exact h1)
            go_wp2
            go_ret
            exact ⟨by rw [HF.out]; rfl, below_boxQ HBQ2.out⟩
end Go.Proofs.Ythdnpddfdlhlaaa
