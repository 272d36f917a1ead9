/- So many facts, and no more: plain mathematics. -/
import Derived.Test.YtiabnjjdeikefaaSLive
import Derived.Test.YtiabnjjdeikefaaCRow
namespace Go.Proofs.Ytiabnjjdeikefaa

/-- The n-th fact. -/
def nmB (n : Nat) : List UInt8 := [UInt8.ofNat (97 + n % 26), UInt8.ofNat (97 + n / 26 % 26), UInt8.ofNat (97 + n / 676)]
def fN (n : Nat) : Tri := (nmB n, [112], [111])
theorem ofNat_toNat {k : Nat} (h : k < 256) : (UInt8.ofNat k).toNat = k := by simp; omega
theorem fN_inj {m n : Nat} (hm : m < 4096) (hn : n < 4096) (h : fN m = fN n) : m = n := by
  have h1 : nmB m = nmB n := congrArg Prod.fst h
  simp only [nmB, List.cons.injEq, and_true] at h1
  obtain ⟨e1, e2, e3⟩ := h1
  have e1 := congrArg UInt8.toNat e1
  have e2 := congrArg UInt8.toNat e2
  have e3 := congrArg UInt8.toNat e3
  rw [ofNat_toNat (by omega), ofNat_toNat (by omega)] at e1 e2 e3
  omega
theorem mayB_of {k : Nat} (h1 : 97 ≤ k) (h2 : k ≤ 122) : mayB (UInt8.ofNat k) = true := by
  unfold mayB
  rw [ofNat_toNat (by omega)]
  exact mayN_yes (by omega)
theorem isW_nm {n : Nat} (h : n < 4096) : isW (nmB n) = true := by
  simp only [isW, nmB, List.length_cons, List.length_nil, List.all_cons, List.all_nil, mayB_of (show 97 ≤ 97 + n % 26 by omega) (show 97 + n % 26 ≤ 122 by omega), mayB_of (show 97 ≤ 97 + n / 26 % 26 by omega) (show 97 + n / 26 % 26 ≤ 122 by omega), mayB_of (show 97 ≤ 97 + n / 676 by omega) (show 97 + n / 676 ≤ 122 by omega)]
  rfl
theorem isTW_fN {n : Nat} (h : n < 4096) : isTW (fN n) = true := by
  simp only [isTW, fN, isW_nm h]
  rfl
/-- Facts that come alone. -/
def adds (l : List Tri) : List Chg := l.map fun t => (false, t)
theorem mem_adds : ∀ (ts : List Tri) (l : List Tri) (t : Tri), t ∈ doneT l (adds ts) ↔ t ∈ l ∨ t ∈ ts
  | [], l, t => by simp [adds, doneT]
  | x :: ts, l, t => by
    have e : doneT l (adds (x :: ts)) = doneT (putT l x) (adds ts) := rfl
    rw [e, mem_adds ts (putT l x) t, mem_putT, List.mem_cons]
    constructor
    · rintro ((h | h) | h)
      · exact .inr (.inl h)
      · exact .inl h
      · exact .inr (.inr h)
    · rintro (h | h | h)
      · exact .inl (.inr h)
      · exact .inl (.inl h)
      · exact .inr h
theorem len_adds {l ts : List Tri} (hl : Rise l) (ht : ts.Nodup) (hd : ∀ t ∈ ts, t ∉ l) : (doneT l (adds ts)).length = l.length + ts.length := by
  rw [len_same (l2 := l ++ ts) ((hl.done _).nodup) (List.nodup_append.2 ⟨hl.nodup, ht, fun a ha b hb e => hd b hb (by rw [← e]; exact ha)⟩) (fun t => by rw [mem_adds, List.mem_append]), List.length_append]
theorem may_adds {ts : List Tri} (hl : ts.length ≤ 64) (hw : ∀ t ∈ ts, isTW t = true) : mayT (adds ts) = true := by
  simp only [mayT, Bool.and_eq_true, decide_eq_true_eq, List.all_eq_true, adds, List.length_map]
  refine ⟨hl, fun c hc => ?_⟩
  obtain ⟨t, ht, rfl⟩ := List.mem_map.1 hc
  exact hw t ht
/-- The facts base, base + 1, .., as a list. -/
def fNs (base i : Nat) : List Tri := (List.range i).map fun j => fN (base + j)
theorem fNs_succ (base i : Nat) : fNs base (i + 1) = fNs base i ++ [fN (base + i)] := by simp [fNs, List.range_succ]
theorem mem_fNs {base i : Nat} {t : Tri} : t ∈ fNs base i ↔ ∃ n, base ≤ n ∧ n < base + i ∧ t = fN n := by
  simp only [fNs, List.mem_map, List.mem_range]
  constructor
  · rintro ⟨j, hj, rfl⟩; exact ⟨base + j, by omega, by omega, rfl⟩
  · rintro ⟨n, h1, h2, rfl⟩; exact ⟨n - base, by omega, by rw [show base + (n - base) = n by omega]⟩
theorem nodup_fNs {base i : Nat} (h : base + i ≤ 4096) : (fNs base i).Nodup := by
  refine List.pairwise_map.2 ?_
  refine List.Pairwise.imp_of_mem ?_ (List.nodup_range (n := i))
  intro a b ha hb hne e
  have ha := List.mem_range.1 ha
  have hb := List.mem_range.1 hb
  have := fN_inj (by omega) (by omega) e
  omega
theorem len_fNs (base i : Nat) : (fNs base i).length = i := by simp [fNs]
theorem adds_snoc (base i : Nat) : adds (fNs base (i + 1)) = adds (fNs base i) ++ [(false, fN (base + i))] := by rw [fNs_succ]; simp [adds]
theorem adds_len (ts : List Tri) : (adds ts).length = ts.length := by simp [adds]
/-- The versions up to here have so many facts. -/
structure Filled (All : List (List Tri)) (k : Nat) : Prop where
  len : All.length = k + 1
  mem : ∀ t, t ∈ lastT All ↔ ∃ n, n < 64 * k ∧ t = fN n
  count : (lastT All).length = 64 * k
theorem filled_new : Filled [[]] 0 := ⟨rfl, fun t => by simp [lastT], rfl⟩
theorem Filled.next {All : List (List Tri)} {k : Nat} (h : Filled All k) (hr : Rise (lastT All)) (hk : k < 64) :
    apE All ((k : Int) + 1) (adds (fNs (64 * k) 64)) = 0 ∧ Filled (apA All ((k : Int) + 1) (adds (fNs (64 * k) 64))) (k + 1) := by
  have hlen : (doneT (lastT All) (adds (fNs (64 * k) 64))).length = 64 * k + 64 := by
    rw [len_adds hr (nodup_fNs (by omega)) (fun t ht h2 => ?_), h.count, len_fNs]
    obtain ⟨n, h3, h4, rfl⟩ := mem_fNs.1 ht
    obtain ⟨m, h5, h6⟩ := (h.mem _).1 h2
    have := fN_inj (by omega) (by omega) h6
    omega
  have hE : apE All ((k : Int) + 1) (adds (fNs (64 * k) 64)) = 0 := by
    unfold apE
    rw [if_neg (by rw [may_adds (by rw [len_fNs]; omega) (fun t ht => by obtain ⟨n, _, h4, rfl⟩ := mem_fNs.1 ht; exact isTW_fN (by omega))]; simp), if_neg (by rw [h.len]; simp), if_neg (by omega)]
  refine ⟨hE, ?_⟩
  unfold apA
  rw [if_pos hE]
  refine ⟨by simp [h.len], fun t => ?_, by rw [lastT_snoc, hlen]; omega⟩
  rw [lastT_snoc, mem_adds, h.mem, mem_fNs]
  constructor
  · rintro (⟨n, h1, rfl⟩ | ⟨n, _, h2, rfl⟩)
    · exact ⟨n, by omega, rfl⟩
    · exact ⟨n, by omega, rfl⟩
  · rintro ⟨n, h1, rfl⟩
    by_cases h2 : n < 64 * k
    · exact .inl ⟨n, h2, rfl⟩
    · exact .inr ⟨n, by omega, by omega, rfl⟩
/-- New ones. -/
def nwT (i : Nat) : Tri := ([110, 101, 119], [112], [UInt8.ofNat (97 + i)])
def nws (k : Nat) : List Tri := (List.range k).map nwT
theorem nws_succ (k : Nat) : nws (k + 1) = nws k ++ [nwT k] := by simp [nws, List.range_succ]
def lastB (gone : Bool) (k : Nat) : List Chg := (if gone = true then [(true, fN 0)] else []) ++ adds (nws k)
theorem lastB_succ (gone : Bool) (k : Nat) : lastB gone (k + 1) = lastB gone k ++ [(false, nwT k)] := by simp [lastB, nws_succ, adds]
theorem nw_not {i n : Nat} (h : n < 4096) : nwT i ≠ fN n := fun e => by
  have h1 : ([110, 101, 119] : List UInt8) = nmB n := congrArg Prod.fst e
  simp only [nmB, List.cons.injEq, and_true] at h1
  have h3 := congrArg UInt8.toNat h1.2.2
  rw [ofNat_toNat (by omega)] at h3
  have : (119 : UInt8).toNat = 119 := rfl
  omega
def zzT : Tri := ([122, 122], [112], [111])
theorem zz_not {n : Nat} : zzT ≠ fN n := fun e => by
  have h1 : ([122, 122] : List UInt8) = nmB n := congrArg Prod.fst e
  have := congrArg List.length h1
  simp [nmB] at this
theorem zz_nw {i : Nat} : zzT ≠ nwT i := fun e => by
  have h1 : ([122, 122] : List UInt8) = [110, 101, 119] := congrArg Prod.fst e
  simp at h1
theorem nodup_nws {k : Nat} (h : k ≤ 3) : (nws k).Nodup := by
  match k, h with
  | 0, _ => decide
  | 1, _ => decide
  | 2, _ => decide
  | 3, _ => decide
theorem full_end {All : List (List Tri)} (h : Filled All 64) (hr : Rise (lastT All)) (gone : Bool) {k : Nat} (hk : k ≤ 3) :
    mayT (lastB gone k) = true ∧ (doneT (lastT All) (lastB gone k)).length + (if gone = true then 1 else 0) = 4096 + k ∧ (∀ t ∈ doneT (lastT All) (lastB gone k), t ≠ zzT) ∧ Rise (doneT (lastT All) (lastB gone k)) := by
  have hw : mayT (lastB gone k) = true := by
    have hn : ∀ t ∈ nws k, isTW t = true := by
      match k, hk with
      | 0, _ => decide
      | 1, _ => decide
      | 2, _ => decide
      | 3, _ => decide
    simp only [mayT, Bool.and_eq_true, decide_eq_true_eq, List.all_eq_true]
    refine ⟨?_, fun c hc => ?_⟩
    · simp [lastB, adds, nws]
      split <;> simp <;> omega
    · rcases List.mem_append.1 hc with hc | hc
      · cases gone with
        | true => simp at hc; rw [hc]; exact isTW_fN (by omega)
        | false => simp at hc
      · obtain ⟨t, ht, rfl⟩ := List.mem_map.1 hc
        exact hn t ht
  have h0 : fN 0 ∈ lastT All := (h.mem _).2 ⟨0, by omega, rfl⟩
  have e : doneT (lastT All) (lastB gone k) = doneT (if gone = true then dropT (lastT All) (fN 0) else lastT All) (adds (nws k)) := by
    unfold lastB doneT
    rw [List.foldl_append]
    cases gone <;> rfl
  have hr2 : Rise (if gone = true then dropT (lastT All) (fN 0) else lastT All) := by
    split
    · exact hr.drop
    · exact hr
  have hsub : ∀ t, t ∈ (if gone = true then dropT (lastT All) (fN 0) else lastT All) → ∃ n, n < 4096 ∧ t = fN n := fun t ht => by
    split at ht
    · obtain ⟨n, h1, h2⟩ := (h.mem t).1 (mem_dropT.1 ht).2
      exact ⟨n, by omega, h2⟩
    · obtain ⟨n, h1, h2⟩ := (h.mem t).1 ht
      exact ⟨n, by omega, h2⟩
  refine ⟨hw, ?_, ?_, hr.done _⟩
  · rw [e, len_adds hr2 (nodup_nws hk) (fun t ht h2 => ?_)]
    · have hd := len_drop hr.nodup (fN 0)
      rw [if_pos h0] at hd
      have hc := h.count
      have : (nws k).length = k := by simp [nws]
      cases gone
      · simp; omega
      · simp; omega
    · obtain ⟨n, h3, h4⟩ := hsub t h2
      obtain ⟨i, _, rfl⟩ := List.mem_map.1 ht
      exact nw_not h3 h4
  · intro t ht e2
    rw [e, mem_adds] at ht
    subst e2
    rcases ht with ht | ht
    · obtain ⟨n, h3, h4⟩ := hsub _ ht
      exact zz_not h4
    · obtain ⟨i, _, h4⟩ := List.mem_map.1 ht
      exact zz_nw h4.symm
theorem room_zz {All : List (List Tri)} (hr : Rise (lastT All)) (hz : ∀ t ∈ lastT All, t ≠ zzT) : roomB All [(false, zzT)] = decide ((lastT All).length + 1 ≤ 4096) := by
  have hm : mayT [(false, zzT)] = true := by decide
  unfold roomB
  have := len_adds (ts := [zzT]) hr (by simp) (fun t ht h2 => hz t h2 (List.mem_singleton.1 ht))
  have e : adds [zzT] = [(false, zzT)] := rfl
  rw [e] at this
  rw [hm, this]
  rfl
/-- Whether the last batch fits. -/
def fitsK (gone : Bool) (k : Nat) : Bool := decide (k = 0) || (gone && decide (k = 1))
theorem full_answers {All : List (List Tri)} (h : Filled All 64) (hR : ∀ F ∈ All, Rise F) (gone : Bool) {k : Nat} (hk : k ≤ 3) :
    apE All 65 (lastB gone k) = (if fitsK gone k = true then 0 else 2) ∧ roomB (apA All 65 (lastB gone k)) [(false, zzT)] = (gone && decide (k = 0)) := by
  have hm : lastT All ∈ All := lastT_mem (by rw [h.len]; omega)
  have hr := hR _ hm
  obtain ⟨hw, hc, hz, hr2⟩ := full_end h hr gone hk
  have hz0 : ∀ t ∈ lastT All, t ≠ zzT := fun t ht e => by
    obtain ⟨n, _, h2⟩ := (h.mem t).1 ht
    exact zz_not (n := n) (by rw [← e]; exact h2)
  have hE : apE All 65 (lastB gone k) = (if fitsK gone k = true then 0 else 2) := by
    unfold apE
    rw [if_neg (by rw [hw]; simp), if_neg (by rw [h.len]; simp)]
    cases gone
    · simp only [fitsK, Bool.false_and, Bool.or_false, decide_eq_true_eq] at hc ⊢
      simp at hc
      by_cases e : k = 0
      · rw [if_neg (by omega), if_pos e]
      · rw [if_pos (by omega), if_neg e]
    · simp only [fitsK, Bool.true_and, Bool.or_eq_true, decide_eq_true_eq] at hc ⊢
      simp at hc
      by_cases e : k = 0 ∨ k = 1
      · rw [if_neg (by omega), if_pos e]
      · rw [if_pos (by omega), if_neg e]
  refine ⟨hE, ?_⟩
  have hcount := h.count
  by_cases hf : fitsK gone k = true
  · rw [if_pos hf] at hE
    unfold apA
    rw [if_pos hE, room_zz (by rw [lastT_snoc]; exact hr2) (by rw [lastT_snoc]; exact hz), lastT_snoc]
    cases gone
    · simp only [fitsK, Bool.false_and, Bool.or_false, decide_eq_true_eq] at hf
      simp at hc
      rw [Bool.false_and]
      exact decide_eq_false (by omega)
    · simp only [Bool.true_and]
      simp at hc
      exact decide_eq_decide.2 (by omega)
  · rw [if_neg hf] at hE
    unfold apA
    rw [if_neg (by rw [hE]; omega), room_zz hr hz0]
    cases gone
    · rw [Bool.false_and]
      exact decide_eq_false (by omega)
    · simp only [fitsK, Bool.true_and, Bool.or_eq_true, decide_eq_true_eq] at hf
      simp only [Bool.true_and]
      rw [decide_eq_false (by omega), decide_eq_false (by omega)]
end Go.Proofs.Ytiabnjjdeikefaa
