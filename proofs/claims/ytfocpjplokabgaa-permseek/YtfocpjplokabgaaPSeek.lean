/- Two walks of one index; the statement of Seek. -/
import Derived.Test.YtfocpjplokabgaaPOpen
namespace Go.Proofs.Ytfocpjplokabgaa
open Go.RowKit

/-- A walk's block and its ranges. -/
def KW (w : World) (b xb : Nat) (o : Od) (L : List R3) (s : Wk) : Prop := ∃ lv, KAt (fun _ => False) w b xb s.p.length lv ∧ ∀ k, k ≤ s.p.length → lv k = ((atOf o L s k : Int), (endOf o L s.p k : Int))
/-- Two walks of one index that a statement has made go on. -/
structure TwoS (S : Nat → Prop) (w wr : World) (a b xb : Nat) (v : Value) (o : Od) (L : List R3) (s t : Wk) : Prop where
  low : Low S wr
  sub : ∀ k, k < w.heap.size → S k
  x : XAt S wr xb v o L
  na : ¬ S a
  nb : ¬ S b
  ne : a ≠ b
  ka : KW wr a xb o L s
  kb : KW wr b xb o L t
  oka : WkOk o L s
  okb : WkOk o L t
  bel : Below w.heap.size w wr
def Two (w wr : World) (a b xb : Nat) (v : Value) (o : Od) (L : List R3) (s t : Wk) : Prop := ∃ S, TwoS S w wr a b xb v o L s t
section
variable {w wr : World} {a b xb : Nat} {v : Value} {o : Od} {L : List R3} {s t : Wk}
theorem Two.swap (h : Two w wr a b xb v o L s t) : Two w wr b a xb v o L t s := by
  obtain ⟨S, h⟩ := h
  exact ⟨S, h.low, h.sub, h.x, h.nb, h.na, h.ne.symm, h.kb, h.ka, h.okb, h.oka, h.bel⟩
theorem Two.bel (h : Two w wr a b xb v o L s t) : Below w.heap.size w wr := by
  obtain ⟨S, h⟩ := h
  exact h.bel
theorem Two.okb (h : Two w wr a b xb v o L s t) : WkOk o L t := by
  obtain ⟨S, h⟩ := h
  exact h.okb
theorem KW.key {w' : World} (h : KW wr b xb o L s) (hk : w'.heap[b]? = wr.heap[b]?) : KW w' b xb o L s := by
  obtain ⟨lv, h1, h2⟩ := h
  exact ⟨lv, ⟨hk.trans h1.blk, h1.out⟩, h2⟩
theorem KW.lt (h : KW wr b xb o L s) : b < wr.heap.size := by
  obtain ⟨lv, h1, _⟩ := h
  exact lt_of_block h1.blk
theorem Two.below {w' : World} (h : Two w wr a b xb v o L s t) (hb : Below wr.heap.size wr w') : Two w w' a b xb v o L s t := by
  obtain ⟨S, h⟩ := h
  exact ⟨S, h.low.size hb.size, h.sub, h.x.below hb, h.na, h.nb, h.ne, h.ka.key (hb.block a h.ka.lt), h.kb.key (hb.block b h.kb.lt), h.oka, h.okb, h.bel.trans (hb.mono h.bel.size)⟩
theorem TwoS.one {S : Nat → Prop} (h : TwoS S w wr a b xb v o L s t) : WAt (fun k => S k ∨ k = b) wr a xb v o L s := by
  obtain ⟨lv, h1, h2⟩ := h.ka
  exact ⟨h.x.sub (fun k hk _ => .inl hk), ⟨lv, ⟨h1.blk, fun hk => hk.elim h.na h.ne⟩, h2⟩, h.oka⟩
theorem Two.end_ {r : Wk × Nat} {f : Nat} {args : Array Value} (h : Two w wr a b xb v o L s t) (hc : ∀ S, WAt S wr a xb v o L s → Low S wr → Calls Try.prog f args wr (WEnd S wr a xb v o L r)) : Calls Try.prog f args wr fun e w' => e = .returned (.int .i64 (r.2 : Int)) ∧ Two w w' a b xb v o L r.1 t := by
  obtain ⟨S, h⟩ := h
  refine (hc (fun k => S k ∨ k = b) h.one (fun k hk => hk.elim (h.low k) (fun e => by rw [e]; exact h.kb.lt))).mono ?_
  rintro e w' ⟨he, hw, hf⟩
  obtain ⟨lv, h1, h2⟩ := hw.k
  have hfS : Fr S wr w' := hf.sub (fun k hk => .inl hk)
  exact ⟨he, S, h.low.fr hf, h.sub, h.x.fr hfS, h.na, h.nb, h.ne, ⟨lv, ⟨h1.blk, fun h => h⟩, h2⟩, h.kb.key (hf.block b (.inr rfl)), hw.ok, h.okb, h.bel.trans (hfS.below h.sub)⟩
theorem Two.open (h : Two w wr a b xb v o L s t) : Calls Try.prog 17 #[.pointer (some ⟨a, 0, none⟩)] wr fun e w' => e = .returned (.int .i64 ((wOpen o L s).2 : Int)) ∧ Two w w' a b xb v o L (wOpen o L s).1 t := h.end_ (fun _ h1 h2 => open_any h1 h2)
theorem Two.next (h : Two w wr a b xb v o L s t) : Calls Try.prog 21 #[.pointer (some ⟨a, 0, none⟩)] wr fun e w' => e = .returned (.int .i64 ((wNext o L s).2 : Int)) ∧ Two w w' a b xb v o L (wNext o L s).1 t := h.end_ (fun _ h1 h2 => next_any h1 h2)
theorem Two.seek (h : Two w wr a b xb v o L s t) (n : Int) : Calls Try.prog 23 #[.pointer (some ⟨a, 0, none⟩), .int .i64 n] wr fun e w' => e = .returned (.int .i64 ((wSeek o L s n).2 : Int)) ∧ Two w w' a b xb v o L (wSeek o L s n).1 t := h.end_ (fun _ h1 h2 => seek_any h1 h2 n)
theorem Two.key (h : Two w wr a b xb v o L s t) : Calls Try.prog 25 #[.pointer (some ⟨a, 0, none⟩)] wr fun e w' => e = .returned (.tuple #[.int .i64 (wKey s).1, .bool (wKey s).2]) ∧ Two w w' a b xb v o L s t := by
  have hh := h
  obtain ⟨S, h⟩ := h
  refine (key_any h.one).mono ?_
  rintro e w' ⟨he, hb⟩
  exact ⟨he, hh.below hb⟩
/-- Another walk of the index. -/
theorem Trod.also (h : Trod w wr a xb v o L s) : Calls Try.prog 16 #[.pointer (some ⟨xb, 0, none⟩)] wr fun e w' => e = .returned (.pointer (some ⟨wr.heap.size, 0, none⟩)) ∧ Two w w' a wr.heap.size xb v o L s ⟨[], false⟩ := by
  obtain ⟨S, h1, h2, h3, h4⟩ := h
  refine (walk_any h3.x h1).mono ?_
  rintro e w' ⟨he, hw, hb, hz⟩
  obtain ⟨lv, k1, k2⟩ := h3.k
  obtain ⟨lv2, k3, k4⟩ := hw.k
  have hal := lt_of_block k1.blk
  exact ⟨he, S, h1.size hb.size, h2, h3.x.below hb, k1.out, k3.out, by omega, ⟨lv, ⟨(hb.block a hal).trans k1.blk, fun h => h⟩, k2⟩, ⟨lv2, ⟨k3.blk, fun h => h⟩, k4⟩, h3.ok, hw.ok, h4.trans (hb.mono h4.size)⟩
end

/-! Seek and Next. -/
theorem find_later {o : Od} {L : List R3} {q : List Int} {m n z : Int} (h : nextNum o L q m = some z) (hmn : m ≤ n) (hnz : n ≤ z) : nextNum o L q n = some z := by
  unfold nextNum at *
  rw [Option.map_eq_some_iff] at *
  obtain ⟨r, hr, hz⟩ := h
  refine ⟨r, ?_, hz⟩
  rw [List.find?_eq_some_iff_getElem] at *
  obtain ⟨h1, i, h2, h3, h4⟩ := hr
  simp only [Bool.and_eq_true, decide_eq_true_eq] at h1
  refine ⟨by simp only [Bool.and_eq_true, decide_eq_true_eq]; exact ⟨h1.1, by omega⟩, i, h2, h3, fun j hj => ?_⟩
  have := h4 j hj
  cases hm : mt o q L[j] with
  | false => rfl
  | true =>
    rw [hm] at this
    simp at this ⊢
    omega
theorem find_none {o : Od} {L : List R3} {q : List Int} {m n : Int} (h : nextNum o L q m = none) (hmn : m ≤ n) : nextNum o L q n = none := by
  unfold nextNum at *
  rw [Option.map_eq_none_iff] at *
  rw [List.find?_eq_none] at *
  intro r hr
  have := h r hr
  simp only [Bool.and_eq_true, decide_eq_true_eq, not_and] at this ⊢
  intro h1
  have := this h1
  omega
/-- Where a walk comes to that seeks. -/
def soughtK (o : Od) (L : List R3) (q : List Int) (y n : Int) : Int × Bool := if n ≤ y then (y, true) else match nextNum o L q n with | some z => (z, true) | none => (0, false)
theorem soughtK_eq (o : Od) (L : List R3) (q : List Int) (y n : Int) : wKey (wSeek o L ⟨q ++ [y], false⟩ n).1 = soughtK o L q y n := by
  unfold wSeek soughtK
  rw [if_neg (by simp), lastN_snoc]
  by_cases h : n ≤ y
  · rw [if_pos h, if_pos h]
    unfold wKey
    rw [if_neg (by simp), lastN_snoc]
  · rw [if_neg h, if_neg h]
    unfold onTo
    rw [List.dropLast_concat]
    cases nextNum o L q n with
    | none =>
      show wKey ⟨q ++ [y], true⟩ = (0, false)
      unfold wKey
      rw [if_pos (.inr rfl)]
    | some z =>
      show wKey ⟨q ++ [z], false⟩ = (z, true)
      unfold wKey
      rw [if_neg (by simp), lastN_snoc]
/-- One step on: a walk that is not there yet. -/
theorem step_on {o : Od} {L : List R3} (hs : Strict o L) {q : List Int} {y n : Int} (hq : q.length < 3) (h : Has o L (q ++ [y])) (hy : y < n) :
    (∃ z, wNext o L ⟨q ++ [y], false⟩ = (⟨q ++ [z], false⟩, 0) ∧ soughtK o L q z n = soughtK o L q y n ∧ lo o L (q ++ [y]) + 1 ≤ lo o L (q ++ [z])) ∨ ((wNext o L ⟨q ++ [y], false⟩).1.bh = true ∧ (wNext o L ⟨q ++ [y], false⟩).1.p ≠ [] ∧ soughtK o L q y n = (0, false)) := by
  have e : wNext o L ⟨q ++ [y], false⟩ = (onTo o L (q ++ [y]) (y + 1), 0) := by unfold wNext; rw [if_neg (by simp), lastN_snoc]
  rw [e]
  obtain ⟨z, bh, e1, e2, e3⟩ := next_wk hs hq h
  have e4 : onTo o L (q ++ [y]) (y + 1) = match nextNum o L q (y + 1) with | some y' => ⟨q ++ [y'], false⟩ | none => ⟨q ++ [y], true⟩ := by
    unfold onTo
    rw [List.dropLast_concat]
    cases nextNum o L q (y + 1) <;> rfl
  cases hn : nextNum o L q (y + 1) with
  | some z' =>
    left
    rw [hn] at e4
    simp only at e4
    rw [e4] at e1 ⊢
    injection e1 with e5 e6
    have e7 : z' = z := by simpa using e5
    subst e7 e6
    refine ⟨z', rfl, ?_, ?_⟩
    · unfold soughtK
      rw [if_neg (show ¬ n ≤ y by omega)]
      by_cases h1 : n ≤ z'
      · rw [if_pos h1, find_later hn (by omega) h1]
      · rw [if_neg h1]
    · have := atOf_here (o := o) (L := L) (p := q ++ [z'])
      simp only [List.length_append, List.length_singleton] at this
      rw [this] at e2
      unfold Has at h
      omega
  | none =>
    right
    rw [hn] at e4
    simp only at e4
    rw [e4]
    refine ⟨rfl, by simp, ?_⟩
    unfold soughtK
    rw [if_neg (by omega), find_none hn (by omega)]

theorem wSeek_err (o : Od) (L : List R3) (s : Wk) (n : Int) : ((wSeek o L s n).2 = 0 ∧ (wKey s).2 = true) ∨ ((wSeek o L s n).2 = 3 ∧ (wKey s).2 = false) := by
  unfold wSeek wKey
  by_cases h : s.p = [] ∨ s.bh = true
  · rw [if_pos h, if_pos h]; exact .inr ⟨rfl, rfl⟩
  · rw [if_neg h, if_neg h]
    split
    · exact .inl ⟨rfl, rfl⟩
    · exact .inl ⟨rfl, rfl⟩
theorem wOpen_err (o : Od) (L : List R3) (s : Wk) : (wOpen o L s).2 = 0 ∨ (wOpen o L s).2 = 3 := by
  unfold wOpen
  split
  · exact .inr rfl
  · exact .inl rfl
/-- Where both walks stand ahead of the loop: nowhere, or at a number. -/
def Begun (s : Wk) : Prop := s.p = [] ∨ ∃ q x, s = ⟨q ++ [x], false⟩ ∧ q.length < 3
theorem begun_root : Begun ⟨[], false⟩ := .inl rfl
theorem Begun.open {o : Od} {L : List R3} {s : Wk} (h : Begun s) : Begun (wOpen o L s).1 := by
  unfold wOpen
  by_cases hc : s.p.length = 3 ∨ s.bh = true ∨ L = []
  · rw [if_pos hc]; exact h
  · rw [if_neg hc]
    refine .inr ⟨s.p, _, rfl, ?_⟩
    rcases h with h | ⟨q, x, rfl, hq⟩
    · rw [h]; simp
    · simp at hc ⊢
      omega
/-- What the loop comes to, from where the other walk stands. -/
structure Goes (o : Od) (L : List R3) (n : Int) (K : Int × Bool) (t : Wk) (i : Nat) : Prop where
  key : (wKey t).2 = false → K = wKey t
  at_ : (wKey t).2 = true → ∃ q y, t = ⟨q ++ [y], false⟩ ∧ q.length < 3 ∧ soughtK o L q y n = K ∧ i ≤ lo o L (q ++ [y])
  le : i ≤ L.length
theorem goes_start {o : Od} {L : List R3} {s : Wk} (h : Begun s) (n : Int) : Goes o L n (wKey (wSeek o L s n).1) s 0 := by
  rcases h with h | ⟨q, x, rfl, hq⟩
  · have e : wKey s = (0, false) := by unfold wKey; rw [if_pos (.inl h)]
    have e2 : (wSeek o L s n).1 = s := by unfold wSeek; rw [if_pos (.inl h)]
    rw [e2]
    exact ⟨fun _ => rfl, fun h => (by rw [e] at h; cases h), Nat.zero_le _⟩
  · have e : wKey ⟨q ++ [x], false⟩ = (x, true) := by unfold wKey; rw [if_neg (by simp), lastN_snoc]
    exact ⟨fun h => (by rw [e] at h; cases h), fun _ => ⟨q, x, rfl, hq, (soughtK_eq o L q x n).symm, Nat.zero_le _⟩, Nat.zero_le _⟩
theorem Goes.step {o : Od} {L : List R3} {n : Int} {K : Int × Bool} {t : Wk} {i : Nat} (h : Goes o L n K t i) (hs : Strict o L) (hok : WkOk o L t) (hk : (wKey t).2 = true) (hn : (wKey t).1 < n) : Goes o L n K (wNext o L t).1 (i + 1) := by
  obtain ⟨q, y, rfl, hq, hK, hi⟩ := h.at_ hk
  have e : wKey ⟨q ++ [y], false⟩ = (y, true) := by unfold wKey; rw [if_neg (by simp), lastN_snoc]
  rw [e] at hn
  have hh : Has o L (q ++ [y]) := hok.at_ rfl (by simp)
  have hhl := hi_le o L (q ++ [y])
  have hh2 := hh
  unfold Has at hh2
  rcases step_on hs hq hh hn with ⟨z, e1, e2, e3⟩ | ⟨e1, e2, e3⟩
  · rw [e1]
    have e4 : wKey ⟨q ++ [z], false⟩ = (z, true) := by unfold wKey; rw [if_neg (by simp), lastN_snoc]
    exact ⟨fun h => (by rw [e4] at h; cases h), fun _ => ⟨q, z, rfl, hq, by rw [e2, hK], by omega⟩, by omega⟩
  · have e4 : wKey (wNext o L ⟨q ++ [y], false⟩).1 = (0, false) := by unfold wKey; rw [if_pos (.inr e1)]
    exact ⟨fun _ => by rw [e4, ← hK, e3], fun h => (by rw [e4] at h; cases h), by omega⟩
theorem Goes.there {o : Od} {L : List R3} {n : Int} {K : Int × Bool} {t : Wk} {i : Nat} (h : Goes o L n K t i) (hn : (wKey t).2 = false ∨ n ≤ (wKey t).1) : K = wKey t := by
  cases hk : (wKey t).2 with
  | false => exact h.key hk
  | true =>
    obtain ⟨q, y, rfl, hq, hK, hi⟩ := h.at_ hk
    have e : wKey ⟨q ++ [y], false⟩ = (y, true) := by unfold wKey; rw [if_neg (by simp), lastN_snoc]
    rw [e] at hn ⊢
    rw [← hK]
    unfold soughtK
    rw [if_pos (by rcases hn with h | h; cases h; exact h)]

set_option maxHeartbeats 8000000 in
set_option maxRecDepth 100000 in
theorem permSeek_walk (v : Value) (rs : List R3) (deep : Bool) (n : Int) (w : World) (hv : RowsAt w v rs) (_h2 : (Lit.int .i64 n).wf = true) :
    Calls Try.prog 8 #[v, .bool deep, .int .i64 n] w fun e w' => e = .returned (.bool true) ∧ Below w.heap.size w w' := by
  have C1 := Hid.mk (indx_new (w := w) O3_ok hv (Below.refl _ _))
  obtain ⟨_, _, ao, cap, rfl, _⟩ := hv
  obtain ⟨N, hN⟩ : ∃ N, N = rs.length := ⟨_, rfl⟩
  have HN := Hid.mk hN
  rw [← hN] at C1 ⊢
  clear hN
  by_cases hbig : 60 < N
  · have hbigI : (60 : Int) < (N : Int) := by omega
    go_enter Try.func8, Try.ntmps8
    go_wp2_with fail
    refine C1.out.mono ?_
    rintro e w2 ⟨xb, va, L, rfl, hia, _, hb2⟩
    have HB2 := Hid.mk hb2
    clear hia hb2
    go_wp2_with fail
    refine (awake_any _).mono ?_
    rintro e w3 ⟨rfl, hb3⟩
    have HF : Hid (Below w.heap.size w w3) := Hid.mk (HB2.out.trans (hb3.mono HB2.out.size))
    clear hb3
    go_wp2
    go_ret
    exact ⟨rfl, HF.out⟩
  · have hbigI : ¬ (60 : Int) < (N : Int) := by omega
    go_enter Try.func8, Try.ntmps8
    go_wp2_with fail
    refine C1.out.mono ?_
    rintro e w2 ⟨xb, va, L, rfl, hia, hda, _⟩
    have hLl : L.length ≤ 60 := by have := hda.len; rw [← HN.out] at this; omega
    have HX := Hid.mk hia
    have HST := Hid.mk hda.strict
    clear hia hda
    go_wp2_with fail
    refine HX.out.walk.mono ?_
    rintro e w3 ⟨rfl, ht⟩
    obtain ⟨a, ha⟩ : ∃ a, a = w2.heap.size := ⟨_, rfl⟩
    rw [← ha] at ht ⊢
    have T3 := Hid.mk ht
    clear ht ha
    go_wp2_with fail
    refine T3.out.also.mono ?_
    rintro e w4 ⟨rfl, ht⟩
    obtain ⟨b, hb⟩ : ∃ b, b = w3.heap.size := ⟨_, rfl⟩
    rw [← hb] at ht ⊢
    have T4 := Hid.mk ht
    clear ht hb T3
    go_wp2_with fail
    refine T4.out.open.mono ?_
    rintro e w5 ⟨rfl, ht⟩
    have T5 := Hid.mk ht.swap
    obtain ⟨s1, hs1⟩ : ∃ s1, s1 = (wOpen O3 L ⟨[], false⟩).1 := ⟨_, rfl⟩
    have HG1 : Hid (Begun s1) := Hid.mk (by rw [hs1]; exact begun_root.open)
    have C6 := Hid.mk T5.out.open
    obtain ⟨er, her⟩ : ∃ er, er = (wOpen O3 L ⟨[], false⟩).2 := ⟨_, rfl⟩
    rw [← hs1] at T5
    rw [← hs1, ← her] at C6
    rw [← her]
    clear ht T4 hs1 her
    go_wp2_with fail
    refine C6.out.mono ?_
    rintro e w6 ⟨rfl, ht⟩
    have T6 := Hid.mk ht.swap
    clear ht T5 C6
    cases deep with
    | false =>
      obtain ⟨s0, hs0⟩ : ∃ s0, s0 = s1 := ⟨_, rfl⟩
      subst hs0
      go_wp2_with fail
      refine T6.out.key.mono ?_
      rintro e w8 ⟨rfl, ht⟩
      have T8 := Hid.mk ht
      clear ht T6
      obtain ⟨k0, hk0⟩ : ∃ k0, k0 = (wKey s0).1 := ⟨_, rfl⟩
      obtain ⟨at0, hat0⟩ : ∃ at0, at0 = (wKey s0).2 := ⟨_, rfl⟩
      rw [← hk0, ← hat0]
      have C9 := Hid.mk (T8.out.seek n)
      have HGO := Hid.mk (goes_start (o := O3) (L := L) HG1.out n)
      obtain ⟨KT, hKT⟩ : ∃ KT, KT = wKey (wSeek O3 L s0 n).1 := ⟨_, rfl⟩
      rw [← hKT] at HGO
      obtain ⟨sT, hsT⟩ : ∃ sT, sT = (wSeek O3 L s0 n).1 := ⟨_, rfl⟩
      have hE := wSeek_err O3 L s0 n
      obtain ⟨E, hEE⟩ : ∃ E, E = (wSeek O3 L s0 n).2 := ⟨_, rfl⟩
      rw [← hEE, ← hat0] at hE
      rw [← hEE, ← hsT] at C9
      rw [← hsT] at hKT
      have HKT := Hid.mk hKT
      clear hEE hsT hKT hk0 hat0
      have hEb : (((E : Int) == 0) != at0) = false := by
        rcases hE with ⟨e1, e2⟩ | ⟨e1, e2⟩ <;> rw [e1, e2] <;> rfl
      have hEc : ¬ ((E : Int) = 0 ↔ ¬ at0 = true) := by
        rcases hE with ⟨e1, e2⟩ | ⟨e1, e2⟩ <;> rw [e1, e2] <;> simp
      go_wp2_with fail
      refine C9.out.mono ?_
      rintro e w9 ⟨rfl, ht⟩
      have T9 := Hid.mk ht.swap
      clear ht T8 C9
      rcases hE with ⟨rfl, rfl⟩ | ⟨rfl, rfl⟩
      all_goals (
        go_wp2
        go_loopw [13] (fun c wr => ∃ (i : Nat) (t : Wk), c = .int .i64 i ∧ Two w wr b a xb va O3 L t sT ∧ Goes O3 L n KT t i) (fun c _ => 70 - (intOf c).toNat)
        case atStart => exact ⟨0, _, rfl, T9.out, HGO.out⟩
        case round =>
          obtain ⟨i, t, rfl, ht, hgo⟩ := hrel
          have TT := Hid.mk ht
          have HH := Hid.mk hgo
          have hi60 : i ≤ 60 := Nat.le_trans hgo.le hLl
          have hi70 : (i : Int) < 70 := by omega
          clear ht hgo
          obtain ⟨k1, hk1⟩ : ∃ k1, k1 = (wKey t).1 := ⟨_, rfl⟩
          obtain ⟨at1, hat1⟩ : ∃ at1, at1 = (wKey t).2 := ⟨_, rfl⟩
          have CK := Hid.mk TT.out.key
          rw [← hk1, ← hat1] at CK
          have HK1 := Hid.mk hk1
          have HA1 := Hid.mk hat1
          clear hk1 hat1
          by_cases hgo : at1 = true ∧ k1 < n
          · obtain ⟨rfl, hlt⟩ := hgo
            have hge : ¬ n ≤ k1 := by omega
            go_wp2_with fail
            refine CK.out.mono ?_
            rintro e w10 ⟨rfl, ht⟩
            have T10 := Hid.mk ht
            clear ht CK
            go_wp2_with fail
            refine T10.out.next.mono ?_
            rintro e w11 ⟨rfl, ht⟩
            have T11 := Hid.mk ht
            have H11 : Hid (Goes O3 L n KT (wNext O3 L t).1 (i + 1)) := Hid.mk (HH.out.step HST.out TT.out.swap.okb HA1.out.symm (by rw [← HK1.out]; exact hlt))
            clear ht
            go_wp2
            go_roundw
            case rel => exact ⟨i + 1, _, by go_num, T11.out, H11.out⟩
            case measure => simp [intOf]; omega
          · have HTH : Hid (KT = (k1, at1)) := Hid.mk (by
              have := HH.out.there (by
                rw [← HK1.out, ← HA1.out]
                cases at1 with
                | false => exact .inl rfl
                | true => exact .inr (by have : ¬ k1 < n := fun h => hgo ⟨rfl, h⟩; omega))
              rw [this, HK1.out, HA1.out])
            have hor : at1 = false ∨ (at1 = true ∧ n ≤ k1) := by
              cases at1 with
              | false => exact .inl rfl
              | true => exact .inr ⟨rfl, by have : ¬ k1 < n := fun h => hgo ⟨rfl, h⟩; omega⟩
            clear hgo
            rcases hor with rfl | ⟨rfl, hge⟩
            all_goals (
              go_wp2_with fail
              refine CK.out.mono ?_
              rintro e w10 ⟨rfl, ht⟩
              have T10 := Hid.mk ht.swap
              clear ht CK
              have CKA := Hid.mk T10.out.key
              rw [← HKT.out, HTH.out] at CKA
              go_wp2_with fail
              refine CKA.out.mono ?_
              rintro e w11 ⟨rfl, ht⟩
              have T11 := Hid.mk ht.swap
              clear ht CKA
              have CKB := Hid.mk T11.out.key
              rw [← HK1.out, ← HA1.out] at CKB
              go_wp2_with fail
              refine CKB.out.mono ?_
              rintro e w12 ⟨rfl, ht⟩
              have HB12 := Hid.mk ht.bel
              clear ht CKB
              go_wp2_with fail
              refine (awake_any _).mono ?_
              rintro e w13 ⟨rfl, hb13⟩
              have HF : Hid (Below w.heap.size w w13) := Hid.mk (HB12.out.trans (hb13.mono HB12.out.size))
              clear hb13
              go_wp2
              go_ret
              exact ⟨rfl, HF.out⟩))
    | true =>
      go_wp2_with fail
      refine T6.out.open.mono ?_
      rintro e w61 ⟨rfl, ht⟩
      have T61 := Hid.mk ht.swap
      clear ht T6
      go_wp2_with fail
      refine T61.out.open.mono ?_
      rintro e w7 ⟨rfl, ht⟩
      have T7 := Hid.mk ht.swap
      clear ht T61
      obtain ⟨s0, hs0⟩ : ∃ s0, s0 = (wOpen O3 L s1).1 := ⟨_, rfl⟩
      have HG2 : Hid (Begun s0) := Hid.mk (by rw [hs0]; exact HG1.out.open)
      rw [← hs0] at T7
      clear hs0
      go_wp2_with fail
      refine T7.out.key.mono ?_
      rintro e w8 ⟨rfl, ht⟩
      have T8 := Hid.mk ht
      clear ht T7
      obtain ⟨k0, hk0⟩ : ∃ k0, k0 = (wKey s0).1 := ⟨_, rfl⟩
      obtain ⟨at0, hat0⟩ : ∃ at0, at0 = (wKey s0).2 := ⟨_, rfl⟩
      rw [← hk0, ← hat0]
      have C9 := Hid.mk (T8.out.seek n)
      have HGO := Hid.mk (goes_start (o := O3) (L := L) HG2.out n)
      obtain ⟨KT, hKT⟩ : ∃ KT, KT = wKey (wSeek O3 L s0 n).1 := ⟨_, rfl⟩
      rw [← hKT] at HGO
      obtain ⟨sT, hsT⟩ : ∃ sT, sT = (wSeek O3 L s0 n).1 := ⟨_, rfl⟩
      have hE := wSeek_err O3 L s0 n
      obtain ⟨E, hEE⟩ : ∃ E, E = (wSeek O3 L s0 n).2 := ⟨_, rfl⟩
      rw [← hEE, ← hat0] at hE
      rw [← hEE, ← hsT] at C9
      rw [← hsT] at hKT
      have HKT := Hid.mk hKT
      clear hEE hsT hKT hk0 hat0
      have hEb : (((E : Int) == 0) != at0) = false := by
        rcases hE with ⟨e1, e2⟩ | ⟨e1, e2⟩ <;> rw [e1, e2] <;> rfl
      have hEc : ¬ ((E : Int) = 0 ↔ ¬ at0 = true) := by
        rcases hE with ⟨e1, e2⟩ | ⟨e1, e2⟩ <;> rw [e1, e2] <;> simp
      go_wp2_with fail
      refine C9.out.mono ?_
      rintro e w9 ⟨rfl, ht⟩
      have T9 := Hid.mk ht.swap
      clear ht T8 C9
      rcases hE with ⟨rfl, rfl⟩ | ⟨rfl, rfl⟩
      all_goals (
        go_wp2
        go_loopw [13] (fun c wr => ∃ (i : Nat) (t : Wk), c = .int .i64 i ∧ Two w wr b a xb va O3 L t sT ∧ Goes O3 L n KT t i) (fun c _ => 70 - (intOf c).toNat)
        case atStart => exact ⟨0, _, rfl, T9.out, HGO.out⟩
        case round =>
          obtain ⟨i, t, rfl, ht, hgo⟩ := hrel
          have TT := Hid.mk ht
          have HH := Hid.mk hgo
          have hi60 : i ≤ 60 := Nat.le_trans hgo.le hLl
          have hi70 : (i : Int) < 70 := by omega
          clear ht hgo
          obtain ⟨k1, hk1⟩ : ∃ k1, k1 = (wKey t).1 := ⟨_, rfl⟩
          obtain ⟨at1, hat1⟩ : ∃ at1, at1 = (wKey t).2 := ⟨_, rfl⟩
          have CK := Hid.mk TT.out.key
          rw [← hk1, ← hat1] at CK
          have HK1 := Hid.mk hk1
          have HA1 := Hid.mk hat1
          clear hk1 hat1
          by_cases hgo : at1 = true ∧ k1 < n
          · obtain ⟨rfl, hlt⟩ := hgo
            have hge : ¬ n ≤ k1 := by omega
            go_wp2_with fail
            refine CK.out.mono ?_
            rintro e w10 ⟨rfl, ht⟩
            have T10 := Hid.mk ht
            clear ht CK
            go_wp2_with fail
            refine T10.out.next.mono ?_
            rintro e w11 ⟨rfl, ht⟩
            have T11 := Hid.mk ht
            have H11 : Hid (Goes O3 L n KT (wNext O3 L t).1 (i + 1)) := Hid.mk (HH.out.step HST.out TT.out.swap.okb HA1.out.symm (by rw [← HK1.out]; exact hlt))
            clear ht
            go_wp2
            go_roundw
            case rel => exact ⟨i + 1, _, by go_num, T11.out, H11.out⟩
            case measure => simp [intOf]; omega
          · have HTH : Hid (KT = (k1, at1)) := Hid.mk (by
              have := HH.out.there (by
                rw [← HK1.out, ← HA1.out]
                cases at1 with
                | false => exact .inl rfl
                | true => exact .inr (by have : ¬ k1 < n := fun h => hgo ⟨rfl, h⟩; omega))
              rw [this, HK1.out, HA1.out])
            have hor : at1 = false ∨ (at1 = true ∧ n ≤ k1) := by
              cases at1 with
              | false => exact .inl rfl
              | true => exact .inr ⟨rfl, by have : ¬ k1 < n := fun h => hgo ⟨rfl, h⟩; omega⟩
            clear hgo
            rcases hor with rfl | ⟨rfl, hge⟩
            all_goals (
              go_wp2_with fail
              refine CK.out.mono ?_
              rintro e w10 ⟨rfl, ht⟩
              have T10 := Hid.mk ht.swap
              clear ht CK
              have CKA := Hid.mk T10.out.key
              rw [← HKT.out, HTH.out] at CKA
              go_wp2_with fail
              refine CKA.out.mono ?_
              rintro e w11 ⟨rfl, ht⟩
              have T11 := Hid.mk ht.swap
              clear ht CKA
              have CKB := Hid.mk T11.out.key
              rw [← HK1.out, ← HA1.out] at CKB
              go_wp2_with fail
              refine CKB.out.mono ?_
              rintro e w12 ⟨rfl, ht⟩
              have HB12 := Hid.mk ht.bel
              clear ht CKB
              go_wp2_with fail
              refine (awake_any _).mono ?_
              rintro e w13 ⟨rfl, hb13⟩
              have HF : Hid (Below w.heap.size w w13) := Hid.mk (HB12.out.trans (hb13.mono HB12.out.size))
              clear hb13
              go_wp2
              go_ret
              exact ⟨rfl, HF.out⟩))
end Go.Proofs.Ytfocpjplokabgaa
