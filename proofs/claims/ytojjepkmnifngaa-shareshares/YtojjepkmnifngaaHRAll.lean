/- All shares: the document's. -/
import Derived.Test.YtojjepkmnifngaaHRMay
import Derived.Test.YtojjepkmnifngaaHShar2
import Derived.Maps.AppendAt
namespace Go.Proofs.Ytojjepkmnifngaa
open Go.RowKit

/-- 'append(v, list...)': the list may be nil, empty or of any length. -/
theorem run_append_many {w : World} {B n k : Nat} {v : Value} {xs : List Value} {t e : TypeId} {i0 : TypeInfo} {z : Value} {bytes : Nat} (ht : Try.prog.underlying t = some (.slice e)) (hi : Try.prog.info? e = some i0) (hz0 : i0.zero = some z) (hz1 : i0.size = k) (hz2 : i0.bytes = bytes) (hz3 : z.cells.size = k) (hk : 0 < k)
    (hown : w.ownsRow B e k v n xs) (ao : Option Addr) (us : List Value) (m cap : Nat) (hm : us.length = m * k) (hnone : ao = none → m = 0 ∧ cap = 0) (hc : ∀ ad, ao = some ad → ∀ j u, us[j]? = some u → w.cell? (ad.add j) = some u) (h1 : ∀ u ∈ us, u.oneCell' = true)
    (h63 : n + m ≤ maxLen) (hb : (n + m) * bytes ≤ 140737488355328) (hB : B ≤ w.heap.size) (ty : TypeId) :
    ∃ v' w', (Builtin.append_ #[t, t] ty #[v, .slice ao m cap]).run Try.prog w = .ok v' w' ∧ w'.ownsRow B e k v' (n + m) (xs ++ us) ∧ w.grownBy w' v.ownBlock := by
  cases ao with
  | some ad =>
    obtain ⟨v', w', hr, h2, h3, _, _⟩ := run_append_own_at (P := Try.prog) w B t ty e i0 z k bytes ht hi hz0 hz1 hz2 hz3 hk v n xs hown ad m cap us hm (hc ad rfl) h1 h63 hb hB
    exact ⟨v', w', hr, h2, h3⟩
  | none =>
    obtain ⟨rfl, rfl⟩ := hnone rfl
    have e0 : us = [] := List.length_eq_zero_iff.1 (by omega)
    subst e0
    have hrun := run_append_owned_none (P := Try.prog) w B t ty e i0 k ht hi v n xs hown
    exact ⟨v, w, hrun, by simpa using hown, World.grownBy.refl _ _⟩
/-- The operation, for a walk. -/
theorem wpList_append_many {w : World} {ops : Array Oper} {rest : List Oper} {o : Oper} {a : Act} {Q : Exit → Act → World → Prop} (hgd : o.guard = none) (sl x : Operand) {t : TypeId}
    (ho : o.op = .call { callee := .builtin .append, args := #[sl, x], argTypes := #[t, t] })
    {B n k : Nat} {v : Value} {xs : List Value} {e : TypeId} {i0 : TypeInfo} {z : Value} {bytes : Nat} (ht : Try.prog.underlying t = some (.slice e)) (hi : Try.prog.info? e = some i0) (hz0 : i0.zero = some z) (hz1 : i0.size = k) (hz2 : i0.bytes = bytes) (hz3 : z.cells.size = k) (hk : 0 < k)
    (hs : a.eval sl = v) (hown : w.ownsRow B e k v n xs) (ao : Option Addr) (us : List Value) (m cap : Nat) (hx : a.eval x = .slice ao m cap) (hm : us.length = m * k) (hnone : ao = none → m = 0 ∧ cap = 0) (hc : ∀ ad, ao = some ad → ∀ j u, us[j]? = some u → w.cell? (ad.add j) = some u) (h1 : ∀ u ∈ us, u.oneCell' = true)
    (h63 : n + m ≤ maxLen) (hb : (n + m) * bytes ≤ 140737488355328) (hB : B ≤ w.heap.size)
    (h : ∀ v' w', w'.ownsRow B e k v' (n + m) (xs ++ us) → w.grownBy w' v.ownBlock → wpList Try.prog ops Q rest (a.put o.dst v') w') : wpList Try.prog ops Q (o :: rest) a w := by
  refine wpList_plain hgd fun K hK => ?_
  obtain ⟨v', w', hr, h2, h3⟩ := run_append_many ht hi hz0 hz1 hz2 hz3 hk hown ao us m cap hm hnone hc h1 h63 hb hB o.type
  unfold Oper.wp execOp
  simp only [ho, resolve, invoke, builtin, Sem.run_bind, Sem.run_pure, Result.andThen_ok, List.map_toArray, List.map_cons, List.map_nil, hs, hx, hr]
  exact hK _ _ (h v' w' h2 h3)


/-- A slice that was just built. -/
theorem own_built {w : World} {B g : Nat} {e : TypeId} {x : Value} (h : w.heap[g]? = some (.cells #[x] e (0, 0))) (hB : B ≤ g) : w.ownsRow B e 1 (.slice (some ⟨g, 0, none⟩) 1 1) 1 [x] :=
  ⟨rfl, .inr ⟨g, 1, #[x], rfl, hB, h, Nat.le_refl _, by unfold maxLen; omega, rfl, rfl⟩⟩
/-- Lists of numbers that a call has gathered. -/
structure RowsG (B : Nat) (w : World) (u : Value) (A : List Vz) : Prop where
  row : w.ownsRow B 24 1 u A.length (A.flatMap csA)
  el : ∀ p ∈ A, IntZ (fun k => B ≤ k ∧ u.ownBlock ≠ some k) w p.1 p.2
  no : ∀ p ∈ A, ∀ n cap, p.1 = .slice none n cap → n = 0 ∧ cap = 0
theorem RowsG.below {B : Nat} {w w' : World} {u : Value} {A : List Vz} (h : RowsG B w u A) (hb : Below w.heap.size w w') : RowsG B w' u A := ⟨owns_below h.row hb, fun p hp => (h.el p hp).below hb, h.no⟩
theorem own_no {w : World} {B n : Nat} {e : TypeId} {k : Nat} {v : Value} {xs : List Value} (h : w.ownsRow B e k v n xs) : ∀ m cap, v = .slice none m cap → m = 0 ∧ cap = 0 := fun m cap e => by
  rcases h.2 with ⟨h1, _⟩ | ⟨g, c, cur, h1, _⟩
  · rw [h1] at e
    injection e with _ e2 e3
    exact ⟨e2.symm, e3.symm⟩
  · rw [h1] at e
    injection e with e1
    cases e1
/-- All blocks but a row's own are kept. -/
structure Grow9 (w w9 : World) (u : Value) : Prop where
  os : w9.os = w.os
  tape : w9.tape = w.tape
  output : w9.output = w.output
  size : w.heap.size ≤ w9.heap.size
  block : ∀ k, k < w.heap.size → u.ownBlock ≠ some k → w9.heap[k]? = w.heap[k]?
/-- One list more. -/
theorem RowsG.push {B : Nat} {w w3 w9 : World} {u v' : Value} {A : List Vz} {l : List Int} {g cap n nl : Nat} (h : RowsG B w u A) (hB : B ≤ w.heap.size) (hb : Below w.heap.size w w3) (hv : w3.ownsRow w.heap.size 3 1 v' nl (l.flatMap csZ)) (hnl : nl = l.length) (hn : n = A.length)
    (hg : (w3.alloc (.cells #[v'] 24)).grownBy w9 u.ownBlock) (hat : u.ownBlock = some g ∨ g = w3.heap.size + 1) (ho : w9.ownsRow B 24 1 (.slice (some ⟨g, 0, none⟩) (n + 1) cap) (n + 1) (A.flatMap csA ++ [v'])) :
    RowsG B w9 (.slice (some ⟨g, 0, none⟩) (n + 1) cap) (A ++ [(v', l)]) ∧ Grow9 w w9 u := by
  have hz := hb.size
  have hz9 := hg.size
  simp at hz9
  have key : ∀ k, k < w3.heap.size → u.ownBlock ≠ some k → w9.heap[k]? = w3.heap[k]? := fun k hk hne => (hg.block k (by simp; omega) (fun e => hne e.symm)).trans (heap_alloc_old _ _ hk)
  have hul : ∀ k, u.ownBlock = some k → k < w.heap.size := fun k e => own_lt h.row e
  refine ⟨⟨?_, fun p hp => ?_, fun p hp => ?_⟩, ?_⟩
  · rw [List.length_append, List.length_singleton, ← hn, List.flatMap_append]; exact ho
  · rcases List.mem_append.1 hp with hp | hp
    · refine (h.el p hp).keep (by omega) (fun b hb2 hl => ⟨⟨hb2.1, fun e => ?_⟩, (key b (by omega) hb2.2).trans (hb.block b hl)⟩)
      have e : g = b := by simpa [Value.ownBlock] using e
      rcases hat with h1 | h1
      · exact hb2.2 (by rw [← e]; exact h1)
      · omega
    · rw [List.mem_singleton.1 hp]
      refine (own_int hv hnl).keep (by omega) (fun b hb2 hl => ?_)
      have hbl := hv.lt b hb2
      refine ⟨⟨by omega, fun e => ?_⟩, key b hl (fun e => by have := hul b e; omega)⟩
      have e : g = b := by simpa [Value.ownBlock] using e
      rcases hat with h1 | h1
      · have := hul g h1; omega
      · omega
  · rcases List.mem_append.1 hp with hp | hp
    · exact h.no p hp
    · rw [List.mem_singleton.1 hp]; exact own_no hv
  · exact ⟨hg.os.trans hb.os, hg.tape.trans hb.tape, hg.output.trans hb.output, by omega, fun k hk hne => (key k (by omega) hne).trans (hb.block k hk)⟩

/-- The shares up to a first one. -/
def outs (k m p : Nat) : List (List Int) := (List.range p).flatMap fun s => (allI k (m / (s + 1))).map fun r => ((s + 1 : Nat) : Int) :: r
theorem outs_all (k m : Nat) : outs k m m = allI (k + 1) m := rfl
theorem outs_succ (k m p : Nat) : outs k m (p + 1) = outs k m p ++ (allI k (m / (p + 1))).map fun r => ((p + 1 : Nat) : Int) :: r := by
  unfold outs
  rw [List.range_succ, List.flatMap_append]
  simp
theorem outs_len {k m : Nat} (hm : m ≤ 64) (p : Nat) : (outs k m p).length ≤ p * 64 ^ k := by
  induction p with
  | zero => simp [outs]
  | succ p ih =>
    rw [outs_succ, List.length_append, List.length_map, Nat.succ_mul]
    have := allI_len k (m / (p + 1)) (Nat.le_trans (Nat.div_le_self _ _) hm)
    omega
theorem pow64 {k : Nat} (hk : k ≤ 5) : 64 ^ k ≤ 1073741824 := by
  have h := Nat.pow_le_pow_right (n := 64) (by decide) hk
  have : 64 ^ 5 = 1073741824 := by decide
  omega
theorem all_mem_len {k m : Nat} {l : List Int} (h : l ∈ allI k m) : l.length = k := ((mem_allI k m l).1 h).1
def AllE (k m : Nat) (w : World) (e : Ending) (w' : World) : Prop := (∃ u A, e = .returned u ∧ A.map (·.2) = allI k m ∧ RowsG w.heap.size w' u A) ∧ Below w.heap.size w w'
theorem infoLs : (Try.prog.info? 24).map (fun i => (i.zero, i.size, i.bytes)) = some (some (.slice none 0 0), 1, 24) := by kernel_rfl
set_option maxRecDepth 100000 in
set_option maxHeartbeats 8000000 in
theorem rAll_any : ∀ (k : Nat), k ≤ 6 → ∀ (m : Nat) (w : World), m ≤ 64 → Calls Try.prog 19 #[.int .i64 (k : Int), .int .i64 (m : Int)] w (AllE k m w) := by
  obtain ⟨i0, hi0, hz0, hz1, hz2⟩ := info_parts infoZ
  obtain ⟨i1, hi1, hy0, hy1, hy2⟩ := info_parts infoLs
  intro k
  induction k with
  | zero =>
    intro _ m w _
    have HF : Hid (AllE 0 m w (.returned (.slice (some ⟨w.heap.size, 0, none⟩) 1 1)) (w.alloc (.cells #[.slice none 0 0] 24))) := Hid.mk (by
      refine ⟨⟨_, [(.slice none 0 0, [])], rfl, rfl, own_built (heap_alloc_new _ _) (Nat.le_refl _), fun p hp => ?_, fun p hp n cap e => ?_⟩, (Below.refl _ _).alloc (Nat.le_refl _) _⟩
      · rw [List.mem_singleton.1 hp]; exact SlS.nil _ _
      · rw [List.mem_singleton.1 hp] at e
        injection e with _ e2 e3
        exact ⟨e2.symm, e3.symm⟩)
    go_enter Try.func19, Try.ntmps19
    go_wp2
    go_ret
    exact HF.out
  | succ k ih =>
    intro hk6 m w hm
    obtain ⟨kk, hkk⟩ : ∃ kk, kk = k + 1 := ⟨_, rfl⟩
    have hp64 := pow64 (k := k) (by omega)
    have hkI : ((kk : Nat) : Int) - 1 = (k : Int) := by omega
    have hk0 : ¬ (kk : Int) = 0 := by omega
    have hk0B : ((kk : Int) == 0) = false := beq_eq_false_iff_ne.2 hk0
    have hkk6 : kk ≤ 6 := by omega
    have HIH : Hid (∀ (m : Nat) (w : World), m ≤ 64 → Calls Try.prog 19 #[.int .i64 (k : Int), .int .i64 (m : Int)] w (AllE k m w)) := Hid.mk (ih (by omega))
    have HF : Hid (∀ u w' A, A.map (·.2) = outs k m m → RowsG w.heap.size w' u A → Below w.heap.size w w' → AllE (k + 1) m w (.returned u) w') := Hid.mk (fun u w' A h1 h2 h3 => ⟨⟨u, A, rfl, h1, h2⟩, h3⟩)
    rw [← hkk] at HF ⊢
    have HKK := Hid.mk hkk
    clear ih hkk hk6
    go_enter Try.func19, Try.ntmps19
    go_wp2_with fail
    go_loopw [5, 6] (fun vl c wr => ∃ (p q : Nat) (u : Value) (A : List Vz), u = vl ∧ q = p + 1 ∧ p ≤ m ∧ c = .int .i64 (q : Int) ∧ A.map (·.2) = outs k m p ∧ RowsG w.heap.size wr u A ∧ Below w.heap.size w wr) (fun _ c _ => m + 1 - (intOf c).toNat)
    case atStart => exact ⟨0, 1, _, [], rfl, rfl, Nat.zero_le _, rfl, rfl, ⟨World.ownsRow_nil _ _ _ _, by simp, by simp⟩, Below.refl _ _⟩
    case round =>
      obtain ⟨p, q, u, A, rfl, hq, hp, rfl, hA, hG, hbw⟩ := hrel
      obtain ⟨wx, hwx⟩ : ∃ wx, wx = wr := ⟨_, rfl⟩
      subst hwx
      have HG := Hid.mk hG
      have HA := Hid.mk hA
      have HBW := Hid.mk hbw
      have HQ := Hid.mk hq
      have hsx : w.heap.size ≤ wx.heap.size := hbw.size
      clear hG hA hbw
      by_cases hlt : p < m
      · have hltI : (q : Int) ≤ (m : Int) := by omega
        have hq1 : 1 ≤ q := by omega
        have hdiv : ((m : Int)).tdiv (q : Int) = ((m / q : Nat) : Int) := by rw [Int.tdiv_eq_ediv_of_nonneg (by omega)]; rfl
        have hd64 : m / q ≤ 64 := Nat.le_trans (Nat.div_le_self _ _) hm
        obtain ⟨d, hd⟩ : ∃ d, d = m / q := ⟨_, rfl⟩
        rw [← hd] at hdiv hd64
        have HD : Hid (d = m / (p + 1)) := Hid.mk (by rw [hd, hq])
        have hq0 : ¬ (q : Int) = 0 := by omega
        have hq0N : ¬ q = 0 := by omega
        have CI := Hid.mk (HIH.out d wx hd64)
        obtain ⟨ua, uc, hu⟩ := own_slice HG.out.row
        obtain ⟨na, hna⟩ : ∃ na, na = A.length := ⟨_, rfl⟩
        rw [← hna] at hu
        subst hu
        have HNA := Hid.mk hna
        clear hd hna hq
        go_wp2_with fail
        refine CI.out.mono ?_
        rintro e w2 ⟨⟨rv, RA, rfl, hRA, hRG⟩, hb2⟩
        obtain ⟨ra, rc, hrv⟩ := own_slice hRG.row
        obtain ⟨nr, hnr⟩ : ∃ nr, nr = RA.length := ⟨_, rfl⟩
        rw [← hnr] at hrv
        subst hrv
        have hnr64 : nr ≤ 64 ^ k := by
          have := allI_len k d hd64
          rw [← hRA, List.length_map, ← hnr] at this
          exact this
        have HSL : Hid (SlS csA 1 (fun b => wx.heap.size ≤ b ∧ b < w2.heap.size) w2 (.slice ra nr rc) RA) := Hid.mk ((own_sl (enc := csA) (k := 1) (fun _ => rfl) (by rw [hnr]; rw [hnr] at hRG; exact hRG.row) hnr).sub (fun b hb hl => ⟨(hRG.row.lt b hb).1, hl⟩))
        have HEL : Hid (∀ p ∈ RA, IntZ (fun b => wx.heap.size ≤ b ∧ b < w2.heap.size) w2 p.1 p.2) := Hid.mk (fun p hp => (hRG.el p hp).sub (fun b hb hl => ⟨hb.1, hl⟩))
        have HNO := Hid.mk hRG.no
        have HRA : Hid (RA.map (·.2) = allI k (m / (p + 1))) := Hid.mk (by rw [hRA, HD.out])
        have HRL : Hid (∀ p ∈ RA, p.2.length = k) := Hid.mk (fun p hp => all_mem_len (k := k) (m := d) (by rw [← hRA]; exact List.mem_map.2 ⟨p, hp, rfl⟩))
        have HB2 : Hid (Below w.heap.size w w2) := Hid.mk (HBW.out.trans (hb2.mono hsx))
        have HG2 := Hid.mk (HG.out.below hb2)
        have HUL : Hid (∀ g, (Value.slice ua na uc).ownBlock = some g → g < wx.heap.size) := Hid.mk (fun g e => own_lt HG.out.row e)
        have HNR := Hid.mk hnr
        have hs2 : wx.heap.size ≤ w2.heap.size := hb2.size
        have hnaB : na + nr ≤ 64 * 64 ^ k := by
          have h1 := outs_len (k := k) hm (p + 1)
          rw [outs_succ, List.length_append, List.length_map, ← HA.out, ← HRA.out, List.length_map, List.length_map, ← HNA.out, ← hnr] at h1
          have h2 : (p + 1) * 64 ^ k ≤ 64 * 64 ^ k := Nat.mul_le_mul_right _ (by omega)
          omega
        have hb10 : na + nr ≤ 68719476736 := by omega
        clear hRA hRG hb2 hnr hnr64 hnaB
        go_wp2_with fail
        go_loopw [5, 8] (fun vl c wr => ∃ (i : Nat) (uu : Value) (AA : List Vz), uu = vl ∧ i ≤ nr ∧ c = .int .i64 (i : Int) ∧ AA.map (·.2) = outs k m p ++ ((allI k (m / (p + 1))).take i).map (fun r => ((p + 1 : Nat) : Int) :: r) ∧ AA.length = na + i ∧ RowsG w.heap.size wr uu AA ∧ (∀ g, uu.ownBlock = some g → g < wx.heap.size ∨ w2.heap.size ≤ g) ∧ Fr (fun b => wx.heap.size ≤ b ∧ b < w2.heap.size) w2 wr ∧ Below w.heap.size w wr) (fun _ c _ => nr - (intOf c).toNat)
        case atStart => exact ⟨0, _, A, rfl, Nat.zero_le _, rfl, by simpa using HA.out, by rw [HNA.out]; rfl, HG2.out, fun g e => .inl (HUL.out g e), Fr.refl _ _, HB2.out⟩
        case round =>
          obtain ⟨i, uu, AA, rfl, hi, rfl, hAA, hAL, hGG, hUU, hfr, hbb⟩ := hrel
          obtain ⟨wy, hwy⟩ : ∃ wy, wy = wr := ⟨_, rfl⟩
          subst hwy
          obtain ⟨va, vc, hv⟩ := own_slice hGG.row
          rw [hAL] at hv
          subst hv
          have HGG := Hid.mk hGG
          have HAA := Hid.mk hAA
          have HUU := Hid.mk hUU
          have HFR := Hid.mk hfr
          have HBB := Hid.mk hbb
          have HAL := Hid.mk hAL
          have hsy : w2.heap.size ≤ wy.heap.size := hfr.size
          have hsy0 : w.heap.size ≤ wy.heap.size := hbb.size
          obtain ⟨nv, hnv⟩ : ∃ nv, nv = na + i := ⟨_, rfl⟩
          rw [← hnv] at HGG HUU ⊢
          have HNV := Hid.mk hnv
          have hnvB : nv ≤ 68719476736 := by omega
          clear hGG hAA hUU hfr hbb hAL hnv
          by_cases hir : i < nr
          · have hirI : (i : Int) < (nr : Int) := by omega
            have hnvB2 : nv + 1 ≤ 68719476736 := by have := HNV.out; omega
            obtain ⟨pr, hpr⟩ : ∃ pr, RA[i]? = some pr := ⟨_, List.getElem?_eq_getElem (by rw [← HNR.out]; exact hir)⟩
            have hprm := List.mem_of_getElem? hpr
            have HSY := Hid.mk (HSL.out.fr HFR.out)
            have HPI := Hid.mk ((HEL.out pr hprm).fr HFR.out)
            have hprl := HRL.out pr hprm
            have HPN := Hid.mk (HNO.out pr hprm)
            obtain ⟨pv, pl⟩ := pr
            simp only at hprl
            obtain ⟨pa, pc, hpv⟩ := HPI.out.slice
            simp only at hpv
            rw [hprl] at hpv
            subst hpv
            obtain ⟨gr, orr, e1, hgS, hgl, hd1⟩ := HSY.out.get hpr
            have q1 : wy.cell? ⟨gr, orr + i, none⟩ = some (.slice pa k pc) := by have := hd1 0 _ rfl; rw [Nat.mul_one] at this; exact this
            subst e1
            have HSTEP : Hid (((allI k (m / (p + 1))).take (i + 1)).map (fun r => ((p + 1 : Nat) : Int) :: r) = ((allI k (m / (p + 1))).take i).map (fun r => ((p + 1 : Nat) : Int) :: r) ++ [((q : Int) :: pl)]) := Hid.mk (by
              have h1 : (allI k (m / (p + 1)))[i]? = some pl := by rw [← HRA.out, List.getElem?_map, hpr]; rfl
              rw [take_snoc h1, List.map_append, List.map_singleton, HQ.out])
            obtain ⟨W1, hW1⟩ : ∃ W, W = wy.alloc (.cells #[.int .i64 (q : Int)] 3) := ⟨_, rfl⟩
            have HB1 : Hid (Below wy.heap.size wy W1) := Hid.mk (by rw [hW1]; exact (Below.refl _ _).alloc (Nat.le_refl _) _)
            have HO1 : Hid (W1.ownsRow wy.heap.size 3 1 (.slice (some ⟨wy.heap.size, 0, none⟩) 1 1) 1 [.int .i64 (q : Int)]) := Hid.mk (by rw [hW1]; exact own_built (heap_alloc_new _ _) (Nat.le_refl _))
            have q2 : W1.cell? ⟨gr, orr + i, none⟩ = some (.slice pa k pc) := by rw [HB1.out.cell (p := ⟨gr, orr + i, none⟩) hgl]; exact q1
            have HLN : Hid ((pl.flatMap csZ).length = k * 1) := Hid.mk (by rw [flat_Z, List.length_map, hprl, Nat.mul_one])
            have HCEL : Hid (∀ ad, pa = some ad → ∀ j u, (pl.flatMap csZ)[j]? = some u → W1.cell? (ad.add j) = some u) := Hid.mk (fun ad e j u hu => by
              rw [flat_Z, List.getElem?_map] at hu
              obtain ⟨z, hz, rfl⟩ := Option.map_eq_some_iff.1 hu
              obtain ⟨g', o', e', _, _, hc'⟩ := (HPI.out.below HB1.out).get (x := z) (j := j) (by simpa using hz)
              rw [e] at e'
              injection e' with e'
              subst e'
              have := getZ hc'
              rw [Nat.mul_one] at this
              rw [← this]
              congr 1
              unfold Addr.add; split <;> simp_all)
            have HONE : Hid (∀ u ∈ pl.flatMap csZ, u.oneCell' = true) := Hid.mk (fun u hu => by rw [flat_Z] at hu; obtain ⟨z, _, rfl⟩ := List.mem_map.1 hu; rfl)
            have HPN2 : Hid (pa = none → k = 0 ∧ pc = 0) := Hid.mk (fun e => HPN.out k pc (by rw [e]))
            have hk5 : k ≤ 5 := by omega
            have HW1 := Hid.mk hW1
            rw [hW1] at q2
            clear hpr hprm hprl hd1 hgS hgl hW1
            go_wp2_with (at_builtin; rw [← HW1.out]; refine wpList_append_many rfl _ _ rfl Try.underlying24 hi0 hz0 hz1 hz2 rfl (by decide) (by rfl) HO1.out pa (pl.flatMap csZ) k pc (by rfl) HLN.out HPN2.out HCEL.out HONE.out ?c1 ?c2 HB1.out.size ?_)
            case c1 => unfold maxLen; omega
            case c2 => omega
            intro v3 w3 hown3 hgrow3
            have HB3 : Hid (Below wy.heap.size wy w3) := Hid.mk (HB1.out.grown hgrow3 HB1.out.size (fun b hb => (HO1.out.lt b hb).1))
            obtain ⟨a3, c3, rfl⟩ := own_slice hown3
            have HO3 : Hid (w3.ownsRow wy.heap.size 3 1 (.slice a3 (1 + k) c3) (1 + k) (((q : Int) :: pl).flatMap csZ)) := Hid.mk hown3
            have hs3 : wy.heap.size ≤ w3.heap.size := HB3.out.size
            have HROW3 := Hid.mk (owns_below HGG.out.row HB3.out)
            have HAL2 : Hid (nv = AA.length) := Hid.mk (by rw [HAL.out]; exact HNV.out)
            rw [← HAL2.out] at HROW3
            clear hown3 hgrow3 q1 q2
            go_wp2_with (at_builtin; refine wpList_append_lies _ rfl _ _ _ rfl w.heap.size 24 i1 _ 1 24 Try.underlying23 hi1 hy0 hy1 hy2 rfl (by decide) (.slice va nv vc) _ _ (by rfl) (HROW3.out.alloc _) ⟨w3.heap.size, 0, none⟩ 1 1 [.slice a3 (1 + k) c3] (by rfl) (by rfl) (World.news_of_block (cs := #[.slice a3 (1 + k) c3]) (t := 24) (fr := (0, 0)) (heap_alloc_new w3 _)) (by simp [Value.oneCell']) (by decide) (by unfold maxLen; omega) (by omega) (by simp; omega) (w3.heap.size + 1) (by simp) ?_)
            intro gg cap9 w9 hown9 hgrow9 hat9 hlt9
            have HPU := Hid.mk (HGG.out.push hsy0 HB3.out HO3.out (by simp only [List.length_cons]; have := HLN.out; rw [flat_Z, List.length_map] at this; omega) HAL2.out hgrow9 hat9 hown9)
            have HUU9 : Hid (∀ g, (Value.slice (some ⟨gg, 0, none⟩) (nv + 1) cap9).ownBlock = some g → g < wx.heap.size ∨ w2.heap.size ≤ g) := Hid.mk (fun g e => by
              have e : gg = g := by simpa [Value.ownBlock] using e
              subst e
              rcases hat9 with h | h
              · exact HUU.out _ h
              · exact .inr (by omega))
            have HFR9 : Hid (Fr (fun b => wx.heap.size ≤ b ∧ b < w2.heap.size) w2 w9) := Hid.mk (by
              have h9 := HPU.out.2
              exact ⟨h9.os.trans HFR.out.os, h9.tape.trans HFR.out.tape, h9.output.trans HFR.out.output, by have := h9.size; omega, fun b hb => (h9.block b (by omega) (fun e => by rcases HUU.out b e with h | h <;> omega)).trans (HFR.out.block b hb)⟩)
            have HBB9 : Hid (Below w.heap.size w w9) := Hid.mk (by
              have h9 := HPU.out.2
              exact ⟨h9.os.trans HBB.out.os, h9.tape.trans HBB.out.tape, h9.output.trans HBB.out.output, by have := h9.size; omega, fun b hb => (h9.block b (by omega) (fun e => by have := (HGG.out.row.lt b e).1; omega)).trans (HBB.out.block b hb)⟩)
            clear hown9 hgrow9 hat9 hlt9
            go_wp2
            go_roundw
            case rel => exact ⟨i + 1, _, _, rfl, by omega, by go_num, by rw [List.map_append, HAA.out, HSTEP.out, List.append_assoc]; rfl, by rw [List.length_append, HAL.out]; rfl, HPU.out.1, HUU9.out, HFR9.out, HBB9.out⟩
            case measure => simp [intOf]; omega
          · have hirI : ¬ (i : Int) < (nr : Int) := by omega
            have HFIN : Hid (AA.map (·.2) = outs k m (p + 1)) := Hid.mk (by
              rw [HAA.out, outs_succ, List.take_of_length_le]
              rw [← HRA.out, List.length_map, ← HNR.out]; omega)
            go_wp2
            go_roundw
            case rel => exact ⟨p + 1, q + 1, _, AA, rfl, by have := HQ.out; omega, by omega, by go_num, HFIN.out, HGG.out, HBB.out⟩
            case measure => simp [intOf]; omega
      · have hltI : ¬ (q : Int) ≤ (m : Int) := by omega
        obtain ⟨ua, uc, hu⟩ := own_slice HG.out.row
        subst hu
        have HFIN := Hid.mk (HF.out _ _ A (by rw [HA.out, show p = m by omega]) HG.out HBW.out)
        clear hq
        go_wp2
        go_ret
        exact HFIN.out
end Go.Proofs.Ytojjepkmnifngaa
