/- The statement of words that are put in another order. -/
import Derived.Test.YtapdjolgdocilaaVLaws1
import Derived.Lib.BitFns
namespace Go.Proofs.Ytapdjolgdocilaa
open Go.RowKit

theorem i64_and65535 (n : Int) : bits .and .i64 n 65535 = n % 65536 := by
  have hm : (BitVec.ofInt 64 65535).toNat = 2 ^ 16 - 1 := by decide
  have key : (BitVec.ofInt 64 n &&& BitVec.ofInt 64 65535).toNat = (n % ((2 ^ 64 : Nat) : Int)).toNat % 2 ^ 16 := by
    rw [BitVec.toNat_and, BitVec.toNat_ofInt, hm, Nat.and_two_pow_sub_one_eq_mod]
  show IntKind.i64.wrap ((BitVec.ofInt 64 n &&& BitVec.ofInt 64 65535).toNat : Nat) = n % 65536
  rw [key, IntKind.wrap_i64]
  omega

theorem eq_of_rising_mem : ∀ {l1 l2 : List (List UInt8)}, (∀ x, x ∈ l1 ↔ x ∈ l2) → l1.Pairwise (fun a b => less a b = true) → l2.Pairwise (fun a b => less a b = true) → l1 = l2
  | [], [], _, _, _ => rfl
  | [], b :: l2, h, _, _ => by have := (h b).2 (by simp); simp at this
  | a :: l1, [], h, _, _ => by have := (h a).1 (by simp); simp at this
  | a :: l1, b :: l2, h, h1, h2 => by
    rw [List.pairwise_cons] at h1 h2
    have hab : a = b := by
      have ha : a ∈ b :: l2 := (h a).1 (by simp)
      have hb : b ∈ a :: l1 := (h b).2 (by simp)
      rcases List.mem_cons.1 ha with e | ha
      · exact e
      · rcases List.mem_cons.1 hb with e | hb
        · exact e.symm
        · have := less_asymm (h1.1 b hb)
          rw [h2.1 a ha] at this; cases this
    subst hab
    have ht : ∀ x, x ∈ l1 ↔ x ∈ l2 := fun x => by
      constructor
      · intro hx
        rcases List.mem_cons.1 ((h x).1 (List.mem_cons_of_mem _ hx)) with e | hx2
        · exact absurd e.symm (geq_less _ _ (h1.1 x hx))
        · exact hx2
      · intro hx
        rcases List.mem_cons.1 ((h x).2 (List.mem_cons_of_mem _ hx)) with e | hx2
        · exact absurd e.symm (geq_less _ _ (h2.1 x hx))
        · exact hx2
    rw [eq_of_rising_mem ht h1.2 h2.2]
theorem Sorts.alike {wa wb : List (List UInt8)} {ia ib : List Nat} (ha : Sorts wa ia) (hb : Sorts wb ib) (hm : ∀ s, s ∈ wa ↔ s ∈ wb) : ia.map (wordAt wa) = ib.map (wordAt wb) := by
  obtain ⟨p1, q1⟩ := ha.words
  obtain ⟨p2, q2⟩ := hb.words
  exact eq_of_rising_mem (fun x => by rw [p1.mem_iff, p2.mem_iff]; exact hm x) q1 q2
theorem alike_len {wa wb : List (List UInt8)} {ia ib : List Nat} (h : ia.map (wordAt wa) = ib.map (wordAt wb)) : ia.length = ib.length := by
  have := congrArg List.length h; simpa using this
theorem alike_at {wa wb : List (List UInt8)} {ia ib : List Nat} (h : ia.map (wordAt wa) = ib.map (wordAt wb)) {j x y : Nat} (hx : ia[j]? = some x) (hy : ib[j]? = some y) : wordAt wa x = wordAt wb y := by
  have : (ia.map (wordAt wa))[j]? = (ib.map (wordAt wb))[j]? := by rw [h]
  rw [List.getElem?_map, List.getElem?_map, hx, hy] at this
  simpa using this

/-- Two dictionaries that a statement has made; they share no block. -/
def Pair (w wr : World) (a b : Nat) (wa wb : List (List UInt8)) : Prop :=
  ∃ S T : Nat → Prop, Low S wr ∧ Low T wr ∧ (∀ k, k < wr.heap.size → S k ∨ T k) ∧ (∀ k, k < w.heap.size → S k ∧ T k) ∧ V S wr a wa ∧ V T wr b wb ∧ Fr (fun k => k < w.heap.size) w wr
theorem Pair.swap {w wr : World} {a b : Nat} {wa wb : List (List UInt8)} (h : Pair w wr a b wa wb) : Pair w wr b a wb wa := by
  obtain ⟨S, T, h1, h2, h3, h4, h5, h6, h7⟩ := h
  exact ⟨T, S, h2, h1, fun k hk => (h3 k hk).symm, fun k hk => (h4 k hk).symm, h6, h5, h7⟩
theorem Pair.va {w wr : World} {a b : Nat} {wa wb : List (List UInt8)} (h : Pair w wr a b wa wb) : ∃ S, V S wr a wa := by
  obtain ⟨S, T, h1, h2, h3, h4, h5, h6, h7⟩ := h
  exact ⟨S, h5⟩
theorem Pair.bel {w wr : World} {a b : Nat} {wa wb : List (List UInt8)} (h : Pair w wr a b wa wb) : Below w.heap.size w wr := by
  obtain ⟨S, T, h1, h2, h3, h4, h5, h6, h7⟩ := h
  exact h7.below (fun _ hk => hk)
theorem Pair.below {w wr w' : World} {a b : Nat} {wa wb : List (List UInt8)} (h : Pair w wr a b wa wb) (hb : Below wr.heap.size wr w') : Pair w w' a b wa wb := by
  obtain ⟨S, T, h1, h2, h3, h4, h5, h6, h7⟩ := h
  refine ⟨Plus S wr.heap.size w'.heap.size, T, h1.plus hb.size, h2.below hb, fun k hk => ?_, fun k hk => ⟨.inl (h4 k hk).1, (h4 k hk).2⟩, h5.plus hb, h6.below hb, h7.next (low0 w) hb⟩
  by_cases hl : k < wr.heap.size
  · exact (h3 k hl).imp .inl id
  · exact .inl (.inr ⟨by omega, hk⟩)
theorem Pair.put {w wr : World} {a b : Nat} {wa wb : List (List UInt8)} (h : Pair w wr a b wa wb) (s : List UInt8) (hs : s.length ≤ maxLen) (hl : wa.length ≤ 1000000) :
    Calls Try.prog 15 #[.pointer (some ⟨a, 0, none⟩), .string ⟨s.toArray⟩] wr fun e w' => ∃ (wa' : List (List UInt8)) (k er : Nat), e = .returned (.tuple #[.int .i64 (k : Int), .int .i64 (er : Int)]) ∧ PutR wa s wa' k er ∧ Pair w w' a b wa' wb := by
  obtain ⟨S, T, h1, h2, h3, h4, h5, h6, h7⟩ := h
  refine (put_any h5 h1 s hs hl).mono ?_
  rintro e w' ⟨ws', k, er, e1, e2, e3, e4⟩
  refine ⟨ws', k, er, e1, e2, S, Plus T wr.heap.size w'.heap.size, h1.fr e4, h2.plus e4.size, fun k hk => ?_, fun k hk => ⟨(h4 k hk).1, .inl (h4 k hk).2⟩, e3, h6.beside e4 h3, h7.trans (e4.sub (fun k hk => (h4 k hk).1))⟩
  by_cases hl : k < wr.heap.size
  · exact (h3 k hl).imp id .inl
  · exact .inr (.inr ⟨by omega, hk⟩)
theorem Goes.pair {w wr w' : World} {a b : Nat} (h : Goes w wr a []) (hv : V (fun k => k < wr.heap.size) w' b []) (hb : Below wr.heap.size wr w') : Pair w w' a b [] [] := by
  refine ⟨Plus (fun k => k < w.heap.size) wr.heap.size w'.heap.size, fun k => k < wr.heap.size, h.low.plus hb.size, (low0 wr).below hb, fun k hk => ?_, fun k hk => ⟨.inl hk, ?_⟩, h.v.plus hb, hv, h.f.next (low0 w) hb⟩
  · by_cases hl : k < wr.heap.size
    · exact .inr hl
    · exact .inl (.inr ⟨by omega, hk⟩)
  · exact Nat.lt_of_lt_of_le hk h.f.size

/-- The words among those at the places f 0, f 1 .. -/
def Those (ls : List (List UInt8)) (f : Nat → Nat) (i : Nat) (ws : List (List UInt8)) : Prop := ∀ s, s ∈ ws ↔ isW s = true ∧ ∃ j, j < i ∧ ls[f j]? = some s
theorem Those.zero (ls : List (List UInt8)) (f : Nat → Nat) : Those ls f 0 [] := by intro s; simp
theorem Those.step {ls : List (List UInt8)} {f : Nat → Nat} {i : Nat} {ws ws' : List (List UInt8)} {t : List UInt8} {k er : Nat} (h : Those ls f i ws) (hp : PutR ws t ws' k er) (ht : ls[f i]? = some t) : Those ls f (i + 1) ws' := by
  intro s
  rw [hp.mem, h s]
  constructor
  · rintro (⟨h1, j, h2, h3⟩ | ⟨rfl, h1⟩)
    · exact ⟨h1, j, by omega, h3⟩
    · exact ⟨h1, i, by omega, ht⟩
  · rintro ⟨h1, j, h2, h3⟩
    by_cases hj : j = i
    · subst hj
      rw [ht] at h3
      have e := Option.some.inj h3
      subst e
      exact .inr ⟨rfl, h1⟩
    · exact .inl ⟨h1, j, by omega, h3⟩
theorem those_turned {ls wa wb : List (List UInt8)} {n q : Nat} (ha : Those ls (fun j => j) n wa) (hb : Those ls (fun j => (j + q) % n) n wb) : ∀ s, s ∈ wa ↔ s ∈ wb := by
  intro s
  rw [ha s, hb s]
  constructor
  · rintro ⟨h1, j, h2, h3⟩
    refine ⟨h1, (j + (n - q % n)) % n, Nat.mod_lt _ (by omega), ?_⟩
    have hq : q % n < n := Nat.mod_lt _ (by omega)
    have e : ((j + (n - q % n)) % n + q) % n = j := by
      rw [Nat.mod_add_mod, ← Nat.add_mod_mod (j + (n - q % n)) q n, show j + (n - q % n) + q % n = j + n by omega, Nat.add_mod_right, Nat.mod_eq_of_lt h2]
    simp only
    rw [e]
    exact h3
  · rintro ⟨h1, j, h2, h3⟩
    exact ⟨h1, (j + q) % n, Nat.mod_lt _ (by omega), h3⟩

set_option maxRecDepth 100000 in
set_option maxHeartbeats 8000000 in
theorem wordsTurns_walk (v : Value) (ls : List (List UInt8)) (turn : Int) (w : World) (hv : StrsAt w v ls) (_ : (Lit.int .i64 turn).wf = true) :
    Calls Try.prog 8 #[v, .int .i64 turn] w fun e w' => e = .returned (.bool true) ∧ Below w.heap.size w w' := by
  obtain ⟨hlen, hall, ao, cap, rfl, hc⟩ := hv
  have HC := Hid.mk hc
  have HALL := Hid.mk hall
  clear hc hall
  have C := Hid.mk (goes_new w)
  obtain ⟨n, hm, hn2, hnl⟩ : ∃ n : Nat, min (ls.length : Int) 100 = (n : Int) ∧ n ≤ 100 ∧ n ≤ ls.length := ⟨min ls.length 100, by omega, by omega, by omega⟩
  obtain ⟨q, hq, hq2⟩ : ∃ q : Nat, bits .and .i64 turn 65535 = (q : Int) ∧ q ≤ 65535 := ⟨(turn % 65536).toNat, by rw [i64_and65535]; omega, by omega⟩
  go_enter Try.func8, Try.ntmps8
  go_wp2_with fail
  refine C.out.mono ?_
  rintro e w1 ⟨rfl, hg1⟩
  have G1 := Hid.mk hg1
  clear hg1 C
  go_wp2_with fail
  refine (new_any (fun k => k < w1.heap.size) w1 (low0 w1)).mono ?_
  rintro e w2 ⟨rfl, hv2, hb2⟩
  have P2 := Hid.mk (G1.out.pair hv2 hb2)
  clear hv2 hb2 G1
  obtain ⟨a, ha⟩ : ∃ a, a = w.heap.size + 1 := ⟨_, rfl⟩
  obtain ⟨b, hb⟩ : ∃ b, b = w1.heap.size + 1 := ⟨_, rfl⟩
  rw [← ha, ← hb] at P2
  rw [← ha, ← hb]
  clear ha hb
  go_wp2_with fail
  clear hm
  go_loopw [8] (fun c wr => ∃ (i : Nat) (wa wb : List (List UInt8)), c = .int .i64 i ∧ i ≤ n ∧ wa.length ≤ i ∧ wb.length ≤ i ∧ Pair w wr a b wa wb ∧ Those ls (fun j => j) i wa ∧ Those ls (fun j => (j + q) % n) i wb) (fun c _ => n - (intOf c).toNat)
  case atStart => exact ⟨0, [], [], rfl, Nat.zero_le _, Nat.le_refl _, Nat.le_refl _, P2.out, Those.zero _ _, Those.zero _ _⟩
  case round =>
    obtain ⟨i, wa, wb, rfl, hin, hal, hbl, hP, hTA, hTB⟩ := hrel
    have HP := Hid.mk hP
    have TA := Hid.mk hTA
    have TB := Hid.mk hTB
    clear hP hTA hTB P2
    by_cases hlt : i < n
    · obtain ⟨t, ht⟩ : ∃ t, ls[i]? = some t := ⟨_, List.getElem?_eq_getElem (by omega)⟩
      obtain ⟨r, hr⟩ : ∃ r, r = (i + q) % n := ⟨_, rfl⟩
      have hml : r < n := by rw [hr]; exact Nat.mod_lt _ (by omega)
      have hrI : ((i : Int) + (q : Int)) % (n : Int) = (r : Int) := by rw [hr, Int.natCast_emod, Int.natCast_add]
      have HR := Hid.mk hr
      clear hr
      obtain ⟨u, hu⟩ : ∃ u, ls[r]? = some u := ⟨_, List.getElem?_eq_getElem (by omega)⟩
      have hrl : (r : Int) < (ls.length : Int) := by omega
      have hltI : (i : Int) < (n : Int) := by omega
      rcases HC.out with hnil | ⟨b1, o, rfl, _, hb, hcs⟩
      · rw [hnil] at ht; simp at ht
      · have CU : Hid (∀ wr, Below w.heap.size w wr → wr.cell? ⟨b1, o + r, none⟩ = some (.string ⟨u.toArray⟩)) := Hid.mk (fun wr h => (h.cell (p := ⟨b1, o + r, none⟩) hb).trans (hcs _ u hu))
        have hcx := (HP.out.bel.cell (p := ⟨b1, o + i, none⟩) hb).trans (hcs i t ht)
        have htl := HALL.out t (List.mem_of_getElem? ht)
        have hul := HALL.out u (List.mem_of_getElem? hu)
        have HT := Hid.mk ht
        have HU := Hid.mk hu
        clear hcs ht hu
        go_wp2_with fail
        refine (HP.out.put t htl (by omega)).mono ?_
        rintro e w3 ⟨wa', k, er, rfl, hp, hP3⟩
        have P3 := Hid.mk hP3
        have hpl := hp.len
        have TA2 := Hid.mk (TA.out.step hp HT.out)
        have hcu := CU.out _ P3.out.bel
        clear hp hP3 HP TA hcx
        go_wp2_with fail
        refine (P3.out.swap.put u hul (by omega)).mono ?_
        rintro e w4 ⟨wb', k2, er2, rfl, hp2, hP4⟩
        have P4 := Hid.mk hP4.swap
        have hpl2 := hp2.len
        have TB2 := Hid.mk (TB.out.step hp2 (show ls[(i + q) % n]? = some u by rw [← HR.out]; exact HU.out))
        clear hp2 hP4 P3 TB hcu CU
        go_wp2
        go_roundw
        case rel => exact ⟨i + 1, wa', wb', by go_num, by omega, by omega, by omega, P4.out, TA2.out, TB2.out⟩
        case measure => simp [intOf]; omega
    · obtain rfl : i = n := by omega
      have HMEM := Hid.mk (those_turned TA.out TB.out)
      clear TA TB HC HALL
      obtain ⟨S, hvS⟩ := HP.out.va
      go_wp2_with fail
      refine (sorted_any hvS (by omega)).mono ?_
      rintro e w3 ⟨g, cap2, is, rfl, hrow, _, hsorts, hb3⟩
      have P3 := Hid.mk (HP.out.below hb3)
      have HSA := Hid.mk hsorts
      have hisl : is.length ≤ 100 := by rw [hsorts.len]; omega
      have RA := Hid.mk hrow
      clear hsorts hrow hb3 hvS HP
      obtain ⟨T, hvT⟩ := P3.out.swap.va
      go_wp2_with fail
      refine (sorted_any hvT (by omega)).mono ?_
      rintro e w4 ⟨g2, cap3, is2, rfl, hrow2, _, hsorts2, hb4⟩
      have P4 := Hid.mk (P3.out.below hb4)
      have HSB := Hid.mk hsorts2
      have RA4 := Hid.mk (RA.out.below hb4)
      have RB := Hid.mk hrow2
      have EQ := Hid.mk (HSA.out.alike HSB.out HMEM.out)
      clear hsorts2 hrow2 hb4 hvT P3 RA
      obtain ⟨S2, hvA⟩ := P4.out.va
      obtain ⟨T2, hvB⟩ := P4.out.swap.va
      have VA := Hid.mk hvA
      have VB := Hid.mk hvB
      clear hvA hvB
      have hle := alike_len EQ.out
      have hla := HSA.out.len
      have hlb := HSB.out.len
      have C1 : Hid (Calls Try.prog 19 #[.pointer (some ⟨a, 0, none⟩)] w4 fun e w' => e = .returned (.int .i64 (is2.length : Int)) ∧ w' = w4) := Hid.mk (by rw [← hle, hla]; exact len_any VA.out)
      have C2 : Hid (Calls Try.prog 19 #[.pointer (some ⟨b, 0, none⟩)] w4 fun e w' => e = .returned (.int .i64 (is2.length : Int)) ∧ w' = w4) := Hid.mk (by rw [hlb]; exact len_any VB.out)
      have hisl2 : is2.length ≤ 100 := by rw [← hle]; exact hisl
      rw [hle]
      have HLE := Hid.mk hle
      clear hla hlb hle
      go_wp2_with fail
      refine C1.out.mono ?_
      rintro e w5 ⟨rfl, hw⟩
      subst hw
      go_wp2_with fail
      refine C2.out.mono ?_
      rintro e w6 ⟨rfl, hw⟩
      subst hw
      go_wp2
      go_loopw [11] (fun c wr => ∃ (j : Nat), c = .int .i64 j ∧ j ≤ is2.length ∧ wr = w6) (fun c _ => is2.length - (intOf c).toNat)
      case atStart => exact ⟨0, rfl, Nat.zero_le _, rfl⟩
      case round =>
        obtain ⟨j, rfl, hjl, rfl⟩ := hrel
        by_cases hj : j < is2.length
        · have hjI : (j : Int) < (is2.length : Int) := by omega
          obtain ⟨x, hx⟩ : ∃ x, is[j]? = some x := ⟨_, List.getElem?_eq_getElem (by rw [HLE.out]; exact hj)⟩
          obtain ⟨y, hy⟩ : ∃ y, is2[j]? = some y := ⟨_, List.getElem?_eq_getElem hj⟩
          have hcx := (RA4.out.2 j x hx).1
          have hcy := (RB.out.2 j y hy).1
          obtain ⟨sx, hax, hay⟩ : ∃ sx, wa[x]? = some sx ∧ wb[y]? = some sx := ⟨wordAt wa x, HSA.out.at_ hx, by rw [alike_at EQ.out hx hy]; exact HSB.out.at_ hy⟩
          have AX := Hid.mk hax
          have AY := Hid.mk hay
          clear hx hy hax hay
          go_wp2_with fail
          refine (word_any VA.out (x : Int)).mono ?_
          rintro e w7 ⟨s1, er1, rfl, hw1, hw7⟩
          subst hw7
          obtain ⟨rfl, rfl⟩ := hw1.ok AX.out
          clear hw1
          go_wp2_with fail
          refine (word_any VB.out (y : Int)).mono ?_
          rintro e w8 ⟨s2, er2, rfl, hw2, hw8⟩
          subst hw8
          obtain ⟨rfl, rfl⟩ := hw2.ok AY.out
          clear hw2
          go_wp2
          go_roundw
          case rel => exact ⟨j + 1, by go_num, by omega, by trivial⟩
          case measure => simp [intOf]; omega
        · go_wp2_with fail
          refine (awake_any _).mono ?_
          rintro e w7 ⟨rfl, hb7⟩
          have HB : Hid (Below w.heap.size w w7) := Hid.mk ((P4.out.below hb7).bel)
          clear hb7
          go_wp2
          go_ret
          exact ⟨rfl, HB.out⟩
end Go.Proofs.Ytapdjolgdocilaa
