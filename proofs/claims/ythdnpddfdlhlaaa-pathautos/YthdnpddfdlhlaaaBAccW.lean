/- Accepts of the program. -/
import Derived.Test.YthdnpddfdlhlaaaBFol
namespace Go.Proofs.Ythdnpddfdlhlaaa
open Go.RowKit

theorem setA_app (a : Au) : ∀ (l1 l2 : List Wd) (S : List Int), setA a S (l1 ++ l2) = setA a (setA a S l1) l2
  | [], _, _ => rfl
  | w :: l, l2, S => by rw [List.cons_append, setA, setA_app a l l2, setA]
theorem setA_nil (a : Au) : ∀ l : List Wd, setA a [] l = []
  | [] => rfl
  | w :: l => by
    rw [setA]
    have : riseI a.words.length (([] : List Int).flatMap fun s => nextA a s w) = [] := by simp [riseI]
    rw [this, setA_nil a l]
theorem setA_pl {a : Au} (l : List Wd) {s : Int} (h : s ∈ setA a [-1] l) : (l = [] ∧ s = -1) ∨ (l ≠ [] ∧ 0 ≤ s ∧ s < a.words.length) := by
  rcases List.eq_nil_or_concat l with rfl | ⟨l', u, rfl⟩
  · simp [setA] at h; exact .inl ⟨rfl, h⟩
  · rw [List.concat_eq_append, setA_snoc, mem_riseI] at h
    exact .inr ⟨by simp, h.1⟩
theorem setA_isPl {a : Au} (l : List Wd) {s : Int} (h : s ∈ setA a [-1] l) : isPl a s = true := by
  rw [isPl, Bool.and_eq_true, decide_eq_true_eq, decide_eq_true_eq]
  rcases setA_pl l h with ⟨_, rfl⟩ | ⟨_, h1, h2⟩ <;> omega
theorem out_in {a : Au} (hm : mayA a = true) {s z : Int} (h : z ∈ outA a s) : 0 ≤ z ∧ z < a.words.length := by
  rw [outA] at h
  split at h
  · exact good_mem (may_first hm) h
  · rw [List.getD] at h
    cases hg : a.follow[s.toNat]? with
    | none => rw [hg] at h; simp at h
    | some l => rw [hg] at h; exact good_mem (may_follow hm (List.mem_of_getElem? hg)) h
theorem set_step {a : Au} (hm : mayA a = true) {L : List Wd} {i : Nat} {u : Wd} (hu : L[i]? = some u) (k : Nat) :
    (k : Int) ∈ setA a [-1] (L.take (i + 1)) ↔ (∃ s ∈ setA a [-1] (L.take i), (k : Int) ∈ outA a s) ∧ a.words[k]? = some u := by
  rw [List.take_add_one, hu]
  show (k : Int) ∈ setA a [-1] (L.take i ++ [u]) ↔ _
  rw [setA_snoc, mem_riseI, List.mem_flatMap]
  constructor
  · rintro ⟨_, s, hs, hn⟩
    rw [nextA, if_pos ⟨hm, setA_isPl _ hs⟩, List.mem_filter] at hn
    exact ⟨⟨s, hs, hn.1⟩, by have := of_decide_eq_true hn.2; simpa [wordA] using this⟩
  · rintro ⟨⟨s, hs, ho⟩, hw⟩
    have := out_in hm ho
    refine ⟨this, s, hs, ?_⟩
    rw [nextA, if_pos ⟨hm, setA_isPl _ hs⟩, List.mem_filter]
    exact ⟨ho, by simp [wordA, hw]⟩
theorem acc_empty {a : Au} {L : List Wd} {i : Nat} (h : setA a [-1] (L.take i) = []) : accB a L = false := by
  rw [accB, ← List.take_append_drop i L, setA_app, h, setA_nil]
  simp
theorem acc_end {a : Au} (hm : mayA a = true) {L : List Wd} (hl : L ≠ []) : accB a L = true ↔ ∃ s ∈ setA a [-1] L, s ∈ a.last := by
  rw [accB, hm, Bool.true_and, List.any_eq_true]
  constructor
  · rintro ⟨s, hs, he⟩
    rw [ends_yes hm (setA_isPl _ hs)] at he
    rcases setA_pl L hs with ⟨h, _⟩ | ⟨_, h0, _⟩
    · exact absurd h hl
    · rw [if_neg (by omega), decide_eq_true_eq] at he
      exact ⟨s, hs, he⟩
  · rintro ⟨s, hs, he⟩
    refine ⟨s, hs, ?_⟩
    rw [ends_yes hm (setA_isPl _ hs)]
    rcases setA_pl L hs with ⟨h, _⟩ | ⟨_, h0, _⟩
    · exact absurd h hl
    · rw [if_neg (by omega), decide_eq_true_eq]
      exact he
/-- The places that were reached, and those that may come next, as sets. -/
def AtN (a : Au) (l : List Wd) (A : Nat) : Prop := ∀ k : Nat, A.testBit k = true ↔ (k : Int) ∈ setA a [-1] l
def MayN (a : Au) (l : List Wd) (M : Nat) : Prop := ∀ k : Nat, M.testBit k = true ↔ ∃ s ∈ setA a [-1] l, (k : Int) ∈ outA a s
theorem mayN_first {a : Au} (hm : mayA a = true) : MayN a [] (setN a.first) := fun k => by
  rw [setN_bit (fun z hz => (good_mem (may_first hm) hz).1)]
  constructor
  · intro h
    exact ⟨-1, by simp [setA], by rw [outA, if_pos (by omega)]; exact h⟩
  · rintro ⟨s, hs, ho⟩
    simp [setA] at hs
    subst hs
    rw [outA, if_pos (by omega)] at ho
    exact ho
theorem at_step {a : Au} (hm : mayA a = true) {L : List Wd} {i M : Nat} {u : Wd} (hu : L[i]? = some u) (h : MayN a (L.take i) M) : AtN a (L.take (i + 1)) (M &&& wsetN a.words u a.words.length) := fun k => by
  rw [Nat.testBit_and, Bool.and_eq_true, h k, wset_bit, set_step hm hu]
  constructor
  · rintro ⟨h1, _, h2⟩
    exact ⟨h1, h2⟩
  · rintro ⟨h1, h2⟩
    exact ⟨h1, (List.getElem?_eq_some_iff.1 h2).1, h2⟩
theorem may_step {a : Au} (hm : mayA a = true) {L : List Wd} {i A : Nat} (h : AtN a (L.take (i + 1)) A) (hi : i < L.length) (hA : A < 16777216) : MayN a (L.take (i + 1)) (behN (folF a.follow) A 24) := fun k => by
  rw [beh_bit]
  constructor
  · rintro ⟨j, hj, h1, h2⟩
    refine ⟨j, (h j).1 h1, ?_⟩
    rw [outA, if_neg (by omega), Int.toNat_natCast]
    rw [folF, setN_bit] at h2
    · exact h2
    · intro z hz
      rw [List.getD] at hz
      cases hg : a.follow[j]? with
      | none => rw [hg] at hz; simp at hz
      | some l => rw [hg] at hz; exact (good_mem (may_follow hm (List.mem_of_getElem? hg)) hz).1
  · rintro ⟨s, hs, ho⟩
    rcases setA_pl _ hs with ⟨h1, _⟩ | ⟨_, h0, hn⟩
    · have : (L.take (i + 1)).length = 0 := by rw [h1]; rfl
      rw [List.length_take] at this
      omega
    · obtain ⟨j, rfl⟩ : ∃ j : Nat, s = j := ⟨s.toNat, by omega⟩
      have hb := (h j).2 hs
      refine ⟨j, bit_lt24 hA hb, hb, ?_⟩
      rw [outA, if_neg (by omega), Int.toNat_natCast] at ho
      rw [folF, setN_bit]
      · exact ho
      · intro z hz
        rw [List.getD] at hz
        cases hg : a.follow[j]? with
        | none => rw [hg] at hz; simp at hz
        | some l => rw [hg] at hz; exact (good_mem (may_follow hm (List.mem_of_getElem? hg)) hz).1
theorem folF_lt {a : Au} (hm : mayA a = true) (j : Nat) : folF a.follow j < 16777216 := by
  refine setN_lt (fun z hz => ?_)
  rw [List.getD] at hz
  cases hg : a.follow[j]? with
  | none => rw [hg] at hz; simp at hz
  | some l =>
    rw [hg] at hz
    have := (good_mem (may_follow hm (List.mem_of_getElem? hg)) hz).2
    have := (may_len hm).1
    omega
theorem at_none {a : Au} {l : List Wd} (h : AtN a l 0) (hl : l ≠ []) : setA a [-1] l = [] := by
  apply List.eq_nil_iff_forall_not_mem.2
  intro s hs
  rcases setA_pl _ hs with ⟨h1, _⟩ | ⟨_, h0, _⟩
  · exact hl h1
  · obtain ⟨j, rfl⟩ : ∃ j : Nat, s = j := ⟨s.toNat, by omega⟩
    have := (h j).2 hs
    rw [Nat.zero_testBit] at this
    cases this
theorem atN_last {a : Au} (hm : mayA a = true) {L : List Wd} {A : Nat} (h : AtN a L A) (hl : L ≠ []) : accB a L = true ↔ A &&& setN a.last ≠ 0 := by
  rw [acc_end hm hl]
  have hg : ∀ z ∈ a.last, 0 ≤ z := fun z hz => (good_mem (may_last hm) hz).1
  constructor
  · rintro ⟨s, hs, he⟩
    have h0 := hg s he
    obtain ⟨j, rfl⟩ : ∃ j : Nat, s = j := ⟨s.toNat, by omega⟩
    intro hz
    have h1 := and_none hz j ((h j).2 hs)
    rw [(setN_bit hg j).2 he] at h1
    cases h1
  · intro hz
    obtain ⟨k, h1, h2⟩ := and_some hz
    exact ⟨k, (h k).1 h1, (setN_bit hg k).1 h2⟩

set_option maxHeartbeats 8000000 in
set_option maxRecDepth 100000 in
theorem acc_any {S T : Nat → Prop} {w : World} {m : Mu} {v : Value} {L : List Wd} (h : UOk S w m) (hv : TxtS T w v L) (hl : L.length ≤ 9223372036854775806) :
    Calls Try.prog 16 #[encU m, v] w fun e w' => e = .returned (.bool (accB m.au L)) ∧ Below w.heap.size w w' := by
  obtain ⟨wa, wc, fa, fc, la, lc, oa, oc, e1, e2, e3, e4⟩ := h.slices
  obtain ⟨va, vc, rfl⟩ := hv.slice
  have HV := Hid.mk hv
  obtain ⟨n, hn⟩ : ∃ n, n = L.length := ⟨_, rfl⟩
  rw [← hn] at HV hl ⊢
  have HN := Hid.mk hn
  clear hv hn
  obtain ⟨A, hA⟩ : ∃ A, A = m.au := ⟨_, rfl⟩
  obtain ⟨b, hb⟩ : ∃ b, b = mayA A := ⟨_, rfl⟩
  have HM : Hid (∀ wr, Below w.heap.size w wr → Calls Try.prog 36 #[encU m] wr fun e w' => e = .returned (.bool b) ∧ Below wr.heap.size wr w') := Hid.mk (fun wr hb2 => by rw [hb, hA]; exact mayBeA_any (h.below hb2))
  have HFS : Hid (b = true → ∀ wr, Below w.heap.size w wr → Calls Try.prog 39 #[encU m] wr fun e w' => ∃ b, e = .returned (.pointer (some ⟨b, 0, none⟩)) ∧ FolAt w' b 0 (folF A.follow) ∧ wr.heap.size ≤ b ∧ b < w'.heap.size ∧ Below wr.heap.size wr w') := Hid.mk (fun h1 wr hb2 => by rw [hA]; exact followSets_any (h.below hb2) (by rw [← hA, ← hb, h1]))
  have HWS : Hid (b = true → ∀ (u : Wd) wr, Below w.heap.size w wr → Calls Try.prog 41 #[encU m, .string ⟨u.toArray⟩] wr fun e w' => e = .returned (.int .u32 (wsetN A.words u A.words.length : Int)) ∧ Below wr.heap.size wr w') := Hid.mk (fun h1 u wr hb2 => by rw [hA]; exact wordSet_any (h.below hb2) (by have := (may_len (hb.symm.trans h1)).1; rw [hA] at this; exact this) u)
  have HSF : Hid (b = true → ∀ wr, Below w.heap.size w wr → Calls Try.prog 40 #[m.fv] wr fun e w' => e = .returned (.int .u32 (setN A.first : Int)) ∧ w' = wr) := Hid.mk (fun h1 wr hb2 => by
    have hm := hb.symm.trans h1
    rw [hA] at hm ⊢
    have h24 := (may_len hm).1
    exact setOf_any (h.fs.below hb2) (by have := goodL_len (may_first hm); omega) (fun z hz => by have := good_mem (may_first hm) hz; omega))
  have HSL : Hid (b = true → ∀ wr, Below w.heap.size w wr → Calls Try.prog 40 #[m.lv] wr fun e w' => e = .returned (.int .u32 (setN A.last : Int)) ∧ w' = wr) := Hid.mk (fun h1 wr hb2 => by
    have hm := hb.symm.trans h1
    rw [hA] at hm ⊢
    have h24 := (may_len hm).1
    exact setOf_any (h.ls.below hb2) (by have := goodL_len (may_last hm); omega) (fun z hz => by have := good_mem (may_last hm) hz; omega))
  obtain ⟨R, hR⟩ : ∃ R, R = accB A L := ⟨_, rfl⟩
  rw [← hA, ← hR]
  have HR := Hid.mk hR
  have HB := Hid.mk hb
  have HEM : Hid (A.empty = m.em) := Hid.mk (by rw [hA]; rfl)
  clear hR hb hA h
  obtain ⟨wv, ws, fv, fs, lv, ls, ov, os, em⟩ := m
  dsimp only at e1 e2 e3 e4 HSF HSL HEM
  subst e1 e2 e3 e4
  have HM2 : Hid (∀ wr, Below w.heap.size w wr → Calls Try.prog 36 #[.agg #[.slice wa ws.length wc, .slice fa fs.length fc, .slice la ls.length lc, .slice oa os.length oc, .bool em]] wr fun e w' => e = .returned (.bool b) ∧ Below wr.heap.size wr w') := HM
  have HFS2 : Hid (b = true → ∀ wr, Below w.heap.size w wr → Calls Try.prog 39 #[.agg #[.slice wa ws.length wc, .slice fa fs.length fc, .slice la ls.length lc, .slice oa os.length oc, .bool em]] wr fun e w' => ∃ b, e = .returned (.pointer (some ⟨b, 0, none⟩)) ∧ FolAt w' b 0 (folF A.follow) ∧ wr.heap.size ≤ b ∧ b < w'.heap.size ∧ Below wr.heap.size wr w') := HFS
  have HWS2 : Hid (b = true → ∀ (u : Wd) wr, Below w.heap.size w wr → Calls Try.prog 41 #[.agg #[.slice wa ws.length wc, .slice fa fs.length fc, .slice la ls.length lc, .slice oa os.length oc, .bool em], .string ⟨u.toArray⟩] wr fun e w' => e = .returned (.int .u32 (wsetN A.words u A.words.length : Int)) ∧ Below wr.heap.size wr w') := HWS
  clear HM HFS HWS
  show Calls Try.prog _ #[.agg #[.slice wa ws.length wc, .slice fa fs.length fc, .slice la ls.length lc, .slice oa os.length oc, .bool em], _] w _
  obtain ⟨nw, hnw⟩ : ∃ n, n = ws.length := ⟨_, rfl⟩
  obtain ⟨no, hno⟩ : ∃ n, n = os.length := ⟨_, rfl⟩
  obtain ⟨nf, hnf⟩ : ∃ n, n = fs.length := ⟨_, rfl⟩
  obtain ⟨nl, hnl⟩ : ∃ n, n = ls.length := ⟨_, rfl⟩
  rw [← hnw, ← hno, ← hnf, ← hnl] at HM2 HFS2 HWS2 ⊢
  rw [← hnf] at HSF
  rw [← hnl] at HSL
  obtain ⟨o, ho⟩ : ∃ o, o = Obj.cells #[.slice wa nw wc, .slice fa nf fc, .slice la nl lc, .slice oa no oc, .bool em] 31 := ⟨_, rfl⟩
  have HOB := Hid.mk ho
  have HC : Hid (∀ wr, Below (w.alloc o).heap.size (w.alloc o) wr → wr.cell? ⟨w.heap.size, 0, none⟩ = some (.slice wa nw wc) ∧ wr.cell? ⟨w.heap.size, 1, none⟩ = some (.slice fa nf fc) ∧ wr.cell? ⟨w.heap.size, 2, none⟩ = some (.slice la nl lc) ∧ wr.cell? ⟨w.heap.size, 3, none⟩ = some (.slice oa no oc) ∧ wr.cell? ⟨w.heap.size, 4, none⟩ = some (.bool em)) := Hid.mk (fun wr hb => by
    have h := box_keptQ hb
    rw [HOB.out] at h
    exact cells5 h)
  have HB0 : Hid (Below (w.alloc o).heap.size (w.alloc o) (w.alloc (.cells #[.slice wa nw wc, .slice fa nf fc, .slice la nl lc, .slice oa no oc, .bool em] 31))) := Hid.mk (by rw [HOB.out]; exact Below.refl _ _)
  clear ho hno hnf hnl hnw
  cases b with
  | false =>
    have HX : Hid (R = false) := Hid.mk (by rw [HR.out, accB, ← HB.out]; rfl)
    go_enter Try.func16, Try.ntmps16
    go_wp2_with fail
    refine (HM2.out _ (below_boxQ HB0.out)).mono ?_
    rintro e w1 ⟨rfl, hb1⟩
    have HB1 := Hid.mk (HB0.out.trans (hb1.mono HB0.out.size))
    clear hb1
    go_wp2
    go_ret
    exact ⟨by rw [HX.out]; rfl, below_boxQ HB1.out⟩
  | true =>
    have HMA : Hid (mayA A = true) := Hid.mk HB.out.symm
    have HFS3 := Hid.mk (HFS2.out rfl)
    have HWS3 := Hid.mk (HWS2.out rfl)
    have HSF3 := Hid.mk (HSF.out rfl)
    have HSL3 := Hid.mk (HSL.out rfl)
    clear HFS2 HWS2 HSF HSL HB
    by_cases hn0 : n = 0
    · have HX : Hid (R = em) := Hid.mk (by
        have hLn : L = [] := List.length_eq_zero_iff.1 (by rw [← HN.out]; exact hn0)
        rw [HR.out, hLn, accB, HMA.out, ← HEM.out]
        have hp : isPl A (-1) = true := by simp [isPl]; omega
        simp [setA, ends_yes HMA.out hp])
      subst hn0
      go_enter Try.func16, Try.ntmps16
      go_wp2_with fail
      refine (HM2.out _ (below_boxQ HB0.out)).mono ?_
      rintro e w1 ⟨rfl, hb1⟩
      have HB1 := Hid.mk (HB0.out.trans (hb1.mono HB0.out.size))
      obtain ⟨c0, c1, c2, c3, c4⟩ := HC.out _ HB1.out
      clear hb1
      go_wp2
      go_ret
      exact ⟨by rw [HX.out]; rfl, below_boxQ HB1.out⟩
    · obtain ⟨d1, d2⟩ := not_both (a := (n : Int)) (b := 0) (by omega)
      have HLN : Hid (L ≠ []) := Hid.mk (fun h => hn0 (by rw [HN.out, h]; rfl))
      clear hn0
      obtain ⟨f0, hf0⟩ : ∃ f, f = setN A.first := ⟨_, rfl⟩
      rw [← hf0] at HSF3
      have HF0 : Hid (MayN A [] f0) := Hid.mk (by rw [hf0]; exact mayN_first HMA.out)
      have hf0l : f0 < 16777216 := by rw [hf0]; exact setN_lt (fun z hz => by have := (good_mem (may_first HMA.out) hz).2; have := (may_len HMA.out).1; omega)
      obtain ⟨l0, hl0⟩ : ∃ f, f = setN A.last := ⟨_, rfl⟩
      rw [← hl0] at HSL3
      have HL0 := Hid.mk hl0
      have hl0l : l0 < 16777216 := by rw [hl0]; exact setN_lt (fun z hz => by have := (good_mem (may_last HMA.out) hz).2; have := (may_len HMA.out).1; omega)
      clear hf0 hl0
      go_enter Try.func16, Try.ntmps16
      go_wp2_with fail
      refine (HM2.out _ (below_boxQ HB0.out)).mono ?_
      rintro e w1 ⟨rfl, hb1⟩
      have HB1 := Hid.mk (HB0.out.trans (hb1.mono HB0.out.size))
      obtain ⟨c0, c1, c2, c3, c4⟩ := HC.out _ HB1.out
      clear hb1
      go_wp2_with fail
      refine (HFS3.out _ (below_boxQ HB1.out)).mono ?_
      rintro e w2 ⟨fb, rfl, hfol, hge, hlt2, hb2⟩
      have HB2 := Hid.mk (HB1.out.trans (hb2.mono HB1.out.size))
      have HFOL := Hid.mk hfol
      have HLT2 := Hid.mk hlt2
      clear hb2 hfol hge hlt2 c0 c1 c2 c3 c4
      obtain ⟨c0, c1, c2, c3, c4⟩ := HC.out _ HB2.out
      go_wp2_with fail
      refine (HSF3.out _ (below_boxQ HB2.out)).mono ?_
      rintro e w3 ⟨rfl, hw3⟩
      subst hw3
      clear c0 c1 c2 c3 c4
      go_wp2_with fail
      go_loopw [6, 7, 25] (fun sa sm c wr => ∃ i A1 M1 : Nat, i ≤ n ∧ c = .int .i64 i ∧ sa = .int .u32 (A1 : Int) ∧ sm = .int .u32 (M1 : Int) ∧ (i = 0 ∨ AtN A (L.take i) A1) ∧ MayN A (L.take i) M1 ∧ A1 < 16777216 ∧ M1 < 16777216 ∧ Below w3.heap.size w3 wr) (fun _ _ c _ => n - (intOf c).toNat)
      case atStart => exact ⟨0, 0, f0, Nat.zero_le _, rfl, rfl, rfl, .inl rfl, HF0.out, by omega, hf0l, Below.refl _ _⟩
      case round =>
        obtain ⟨i, A1, M1, hi, rfl, rfl, rfl, hat, hmay, hA1, hM1, hbq0⟩ := hrel
        have HAT := Hid.mk hat
        have HMAY := Hid.mk hmay
        have HBQ0 := Hid.mk hbq0
        have HBQ := Hid.mk (HB2.out.trans (hbq0.mono HB2.out.size))
        clear hat hmay hbq0
        obtain ⟨c0, c1, c2, c3, c4⟩ := HC.out _ HBQ.out
        by_cases hlt : i < n
        · have hltI : (i : Int) < (n : Int) := by omega
          obtain ⟨x, hx⟩ : ∃ x, L[i]? = some x := ⟨_, List.getElem?_eq_getElem (by rw [← HN.out]; exact hlt)⟩
          obtain ⟨g1, o1, rfl, _, _, hcell1⟩ := (HV.out.below (below_boxQ HBQ.out)).get hx
          have q1 := getTx hcell1
          rw [Nat.mul_one] at q1
          have HSTEP := Hid.mk (at_step HMA.out hx HMAY.out)
          have C := Hid.mk (HWS3.out x)
          have hwl := wset_lt A.words x A.words.length (may_len HMA.out).1
          obtain ⟨ws1, hws1⟩ : ∃ k, k = wsetN A.words x A.words.length := ⟨_, rfl⟩
          rw [← hws1] at HSTEP C hwl
          have hand : bits .and .u32 (M1 : Int) (ws1 : Int) = ((M1 &&& ws1 : Nat) : Int) := u32_and_nat M1 ws1 (by omega) (by omega)
          have hA2 := and_lt24 (b := ws1) hM1
          obtain ⟨A2, hA2e⟩ : ∃ k, k = M1 &&& ws1 := ⟨_, rfl⟩
          rw [← hA2e] at hand HSTEP hA2
          clear hx hcell1 hws1 hA2e
          by_cases hz : A2 = 0
          · have HX : Hid (R = false) := Hid.mk (by
              rw [HR.out]
              refine acc_empty (i := i + 1) (at_none (by rw [← hz]; exact HSTEP.out) (fun h => ?_))
              have h2 : (L.take (i + 1)).length = 0 := by rw [h]; rfl
              rw [List.length_take, ← HN.out] at h2
              omega)
            rw [hz] at hand
            clear hz
            go_wp2_with fail
            refine (C.out _ (below_boxQ HBQ.out)).mono ?_
            rintro e w4 ⟨rfl, hb4⟩
            have HB4 := Hid.mk (HBQ.out.trans (hb4.mono HBQ.out.size))
            clear hb4 c0 c1 c2 c3 c4 q1
            go_wp2
            go_ret
            exact ⟨by rw [HX.out]; rfl, below_boxQ HB4.out⟩
          · obtain ⟨k1, k2⟩ := not_both (a := (A2 : Int)) (b := 0) (by omega)
            have HMS := Hid.mk (may_step HMA.out HSTEP.out (by rw [← HN.out]; exact hlt) hA2)
            have HBN := beh_lt (F := folF A.follow) (fun j _ => folF_lt HMA.out j) A2 24 (Nat.le_refl _)
            have HFA : Hid (∀ u, Below wr.heap.size wr u → FolAt u fb 0 (folF A.follow)) := Hid.mk (fun u hu => by
              refine HFOL.out.keep ?_
              exact (HBQ0.out.trans (hu.mono HBQ0.out.size)).block fb HLT2.out)
            have CB := Hid.mk (fun u (hu : Below wr.heap.size wr u) => behindAll_any (HFA.out u hu) (fun j _ => folF_lt HMA.out j) A2 hA2)
            obtain ⟨M2, hM2⟩ : ∃ k, k = behN (folF A.follow) A2 24 := ⟨_, rfl⟩
            rw [← hM2] at HMS HBN CB
            clear hM2 hz
            go_wp2_with fail
            refine (C.out _ (below_boxQ HBQ.out)).mono ?_
            rintro e w4 ⟨rfl, hb4⟩
            have HB4 := Hid.mk hb4
            clear hb4 c0 c1 c2 c3 c4 q1
            go_wp2_with fail
            refine (CB.out _ HB4.out).mono ?_
            rintro e w5 ⟨rfl, kk, hw5⟩
            have HB5 : Hid (Below w3.heap.size w3 w5) := Hid.mk (by rw [hw5]; exact below_drewN (HBQ0.out.trans (HB4.out.mono HBQ0.out.size)) _)
            clear hw5
            go_wp2
            go_roundw
            case rel => exact ⟨i + 1, A2, M2, by omega, by go_num, rfl, rfl, .inr HSTEP.out, HMS.out, hA2, HBN, HB5.out⟩
            case measure => simp [intOf]; omega
        · have hltI : ¬ (i : Int) < (n : Int) := by omega
          have HX : Hid (R = true ↔ A1 &&& l0 ≠ 0) := Hid.mk (by
            have hin : i = n := by omega
            have hat : AtN A L A1 := by
              rcases HAT.out with h | h
              · exfalso
                exact HLN.out (List.length_eq_zero_iff.1 (by rw [← HN.out]; omega))
              · rw [List.take_of_length_le (by rw [← HN.out]; omega)] at h
                exact h
            rw [HR.out, HL0.out]
            exact atN_last HMA.out hat HLN.out)
          have hand : bits .and .u32 (A1 : Int) (l0 : Int) = ((A1 &&& l0 : Nat) : Int) := u32_and_nat A1 l0 (by omega) (by omega)
          obtain ⟨q, hq⟩ : ∃ k, k = A1 &&& l0 := ⟨_, rfl⟩
          rw [← hq] at hand HX
          clear hq
          by_cases hz : q = 0
          · have HX2 : Hid (R = false) := Hid.mk (by
              cases hRb : R with
              | false => rfl
              | true => exact absurd hz (HX.out.1 hRb))
            rw [hz] at hand
            clear hz
            go_wp2_with fail
            refine (HSL3.out _ (below_boxQ HBQ.out)).mono ?_
            rintro e w4 ⟨rfl, hw4⟩
            subst hw4
            go_wp2
            go_ret
            exact ⟨by rw [HX2.out]; rfl, below_boxQ HBQ.out⟩
          · have HX2 : Hid (R = true) := Hid.mk (HX.out.2 hz)
            obtain ⟨k1, k2⟩ := not_both (a := (q : Int)) (b := 0) (by omega)
            have k3 : ((q : Int) != 0) = true := by simpa using k1
            clear hz
            go_wp2_with fail
            refine (HSL3.out _ (below_boxQ HBQ.out)).mono ?_
            rintro e w4 ⟨rfl, hw4⟩
            subst hw4
            go_wp2
            go_ret
            exact ⟨by rw [HX2.out]; simp_all, below_boxQ HBQ.out⟩
end Go.Proofs.Ythdnpddfdlhlaaa
