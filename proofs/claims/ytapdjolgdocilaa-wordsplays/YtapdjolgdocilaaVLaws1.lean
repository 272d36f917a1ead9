/- The statement of the order of Sorted. -/
import Derived.Test.YtapdjolgdocilaaVAwake
import Derived.Test.YtapdjolgdocilaaVRef
import Derived.Shelf.SlSorted.Search
namespace Go.Proofs.Ytapdjolgdocilaa
open Go.RowKit

/-- A dictionary that a statement has made, and that goes on. -/
structure Goes (w : World) (wr : World) (d : Nat) (ws : List (List UInt8)) : Prop where
  v : V (fun k => k < w.heap.size) wr d ws
  f : Fr (fun k => k < w.heap.size) w wr
theorem low0 (w : World) : Low (fun k => k < w.heap.size) w := fun _ hk => hk
theorem Goes.below {w wr w' : World} {d : Nat} {ws : List (List UInt8)} (h : Goes w wr d ws) (hb : Below wr.heap.size wr w') : Goes w w' d ws := ⟨h.v.below hb, h.f.next (low0 w) hb⟩
theorem Goes.bel {w wr : World} {d : Nat} {ws : List (List UInt8)} (h : Goes w wr d ws) : Below w.heap.size w wr := h.f.below (fun _ hk => hk)
theorem Goes.low {w wr : World} {d : Nat} {ws : List (List UInt8)} (h : Goes w wr d ws) : Low (fun k => k < w.heap.size) wr := (low0 w).fr h.f
theorem Goes.put {w wr : World} {d : Nat} {ws : List (List UInt8)} (h : Goes w wr d ws) (s : List UInt8) (hs : s.length ≤ maxLen) (hl : ws.length ≤ 1000000) :
    Calls Try.prog 15 #[.pointer (some ⟨d, 0, none⟩), .string ⟨s.toArray⟩] wr fun e w' => ∃ (ws' : List (List UInt8)) (k er : Nat), e = .returned (.tuple #[.int .i64 (k : Int), .int .i64 (er : Int)]) ∧ PutR ws s ws' k er ∧ Goes w w' d ws' := by
  refine (put_any h.v h.low s hs hl).mono ?_
  rintro e w' ⟨ws', k, er, h1, h2, h3, h4⟩
  exact ⟨ws', k, er, h1, h2, h3, h.f.trans h4⟩
theorem goes_new (w : World) : Calls Try.prog 11 #[] w fun e w' => e = .returned (.pointer (some ⟨w.heap.size + 1, 0, none⟩)) ∧ Goes w w' (w.heap.size + 1) [] := by
  refine (new_any (fun k => k < w.heap.size) w (low0 w)).mono ?_
  rintro e w' ⟨h1, h2, h3⟩
  exact ⟨h1, h2, fr_below (low0 w) h3⟩

theorem WordR.ok {ws : List (List UInt8)} {id : Nat} {s t : List UInt8} {er : Nat} (h : WordR ws (id : Int) s er) (ht : ws[id]? = some t) : s = t ∧ er = 0 := by
  rcases h with ⟨k, h1, h2, h3⟩ | ⟨h1, _, _⟩
  · have : id = k := by omega
    subst this
    rw [ht] at h2
    exact ⟨(Option.some.inj h2).symm, h3⟩
  · have := (List.getElem?_eq_some_iff.1 ht).1
    omega
theorem Sorts.at_ {ws : List (List UInt8)} {is : List Nat} (h : Sorts ws is) {i : Nat} {x : Nat} (hi : is[i]? = some x) : ws[x]? = some (wordAt ws x) := at_wordAt (h.lt (List.mem_of_getElem? hi))
theorem Sorts.lt_at {ws : List (List UInt8)} {is : List Nat} (h : Sorts ws is) {i j x y : Nat} (hij : i < j) (hi : is[i]? = some x) (hj : is[j]? = some y) : less (wordAt ws x) (wordAt ws y) = true := by
  obtain ⟨a1, a2⟩ := List.getElem?_eq_some_iff.1 hi
  obtain ⟨b1, b2⟩ := List.getElem?_eq_some_iff.1 hj
  have := List.pairwise_iff_getElem.1 h.2 i j a1 b1 hij
  rw [a2, b2] at this
  exact this

set_option maxRecDepth 100000 in
set_option maxHeartbeats 4000000 in
theorem wordsSort_walk (v : Value) (ls : List (List UInt8)) (w : World) (hv : StrsAt w v ls) :
    Calls Try.prog 6 #[v] w fun e w' => e = .returned (.bool true) ∧ Below w.heap.size w w' := by
  obtain ⟨hlen, hall, ao, cap, rfl, hc⟩ := hv
  have HC := Hid.mk hc
  have HALL := Hid.mk hall
  clear hc hall
  have C := Hid.mk (goes_new w)
  go_enter Try.func6, Try.ntmps6
  go_wp2_with fail
  refine C.out.mono ?_
  rintro e w1 ⟨rfl, hg1⟩
  have G1 := Hid.mk hg1
  obtain ⟨d, hd⟩ : ∃ d, d = w.heap.size + 1 := ⟨_, rfl⟩
  rw [← hd] at G1 ⊢
  clear hg1 hd C
  go_wp2
  go_loopw [4] (fun c wr => ∃ (i : Nat) (ws : List (List UInt8)), c = .int .i64 i ∧ i ≤ 200 ∧ i ≤ ls.length ∧ ws.length ≤ i ∧ Goes w wr d ws) (fun c _ => 200 - (intOf c).toNat)
  case atStart => exact ⟨0, [], rfl, Nat.zero_le _, Nat.zero_le _, Nat.le_refl _, G1.out⟩
  case round =>
    obtain ⟨i, ws, rfl, hi2, hil, hwl, hg⟩ := hrel
    have HG := Hid.mk hg
    clear hg G1
    by_cases hlt : i < ls.length ∧ i < 200
    · obtain ⟨hlt, hlt2⟩ := hlt
      obtain ⟨t, ht⟩ : ∃ t, ls[i]? = some t := ⟨_, List.getElem?_eq_getElem hlt⟩
      have hltI : (i : Int) < (ls.length : Int) := by omega
      have hlt2I : (i : Int) < 200 := by omega
      rcases HC.out with hnil | ⟨b, o, rfl, _, hb, hcs⟩
      · rw [hnil] at ht; simp at ht
      · have hcx := (HG.out.bel.cell (p := ⟨b, o + i, none⟩) hb).trans (hcs i t ht)
        have htl := HALL.out t (List.mem_of_getElem? ht)
        clear hcs ht
        go_wp2_with fail
        refine (HG.out.put t htl (by omega)).mono ?_
        rintro e w2 ⟨ws', k, er, rfl, hp, hg2⟩
        have G2 := Hid.mk hg2
        have hpl := hp.len
        clear hg2 hp HG
        go_wp2
        go_roundw
        case rel => exact ⟨i + 1, ws', by go_num, by omega, by omega, by omega, G2.out⟩
        case measure => simp [intOf]; omega
    · go_wp2_with fail
      all_goals (
        refine (sorted_any HG.out.v (by omega)).mono ?_
        rintro e w2 ⟨g, cap2, is, rfl, hrow, _, hsorts, hb2⟩
        have HROW := Hid.mk hrow
        have HSO := Hid.mk hsorts
        have HLEN := Hid.mk hsorts.len
        have hisl : is.length ≤ 200 := by rw [hsorts.len]; omega
        have G2 := Hid.mk (HG.out.below hb2)
        clear hrow hsorts hb2 HG HC HALL
        go_wp2
        go_loopw [6] (fun c wr => ∃ (j : Nat), c = .int .i64 j ∧ j ≤ is.length ∧ wr = w2) (fun c _ => is.length - (intOf c).toNat)
        case atStart => exact ⟨0, rfl, Nat.zero_le _, rfl⟩
        case round =>
          obtain ⟨j, rfl, hjl, rfl⟩ := hrel
          by_cases hj : j < is.length
          · have hjI : (j : Int) < (is.length : Int) := by omega
            obtain ⟨x, hx⟩ : ∃ x, is[j]? = some x := ⟨_, List.getElem?_eq_getElem hj⟩
            have hcx := (HROW.out.2 j x hx).1
            have HX := Hid.mk hx
            clear hx
            go_wp2_with fail
            refine (word_any G2.out.v (x : Int)).mono ?_
            rintro e w3 ⟨s, er, rfl, hw, hw3⟩
            subst hw3
            obtain ⟨rfl, rfl⟩ := hw.ok (HSO.out.at_ HX.out)
            obtain ⟨sx, hsx⟩ : ∃ sx, sx = wordAt ws x := ⟨_, rfl⟩
            rw [← hsx]
            have HSX := Hid.mk hsx
            clear hw hsx
            by_cases h0 : j = 0
            · subst h0
              go_wp2
              go_roundw
              case rel => exact ⟨1, by rfl, by omega, by trivial⟩
              case measure => simp [intOf]; omega
            · obtain ⟨k, rfl⟩ : ∃ k, j = k + 1 := ⟨j - 1, by omega⟩
              have hk0 : 0 < ((k + 1 : Nat) : Int) := by omega
              have hk1 : ((k + 1 : Nat) : Int) - 1 = (k : Int) := by omega
              obtain ⟨y, hy⟩ : ∃ y, is[k]? = some y := ⟨_, List.getElem?_eq_getElem (by omega)⟩
              have hcy := (HROW.out.2 k y hy).1
              have HY := Hid.mk hy
              clear hy
              have hls := HSO.out.lt_at (Nat.lt_succ_self k) HY.out HX.out
              rw [← HSX.out] at hls
              go_wp2_with fail
              refine (word_any G2.out.v (y : Int)).mono ?_
              rintro e w4 ⟨s2, er2, rfl, hw2, hw4⟩
              subst hw4
              obtain ⟨rfl, rfl⟩ := hw2.ok (HSO.out.at_ HY.out)
              obtain ⟨sy, hsy⟩ : ∃ sy, sy = wordAt ws y := ⟨_, rfl⟩
              rw [← hsy] at hls ⊢
              clear hw2 hsy
              have hls2 : Op.bytesLess sy sx = true := hls
              clear hls
              go_wp2
              go_roundw
              case rel => exact ⟨k + 1 + 1, by go_num, by omega, by trivial⟩
              case measure => simp [intOf]; omega
          · go_wp2_with fail
            refine (len_any G2.out.v).mono ?_
            rintro e w3 ⟨rfl, hw3⟩
            subst hw3
            have hle : ws.length = is.length := HLEN.out.symm
            rw [hle]
            go_wp2_with fail
            refine (awake_any _).mono ?_
            rintro e w4 ⟨rfl, hb4⟩
            have HB : Hid (Below w.heap.size w w4) := Hid.mk ((G2.out.below hb4).bel)
            clear hb4 hle
            go_wp2
            go_ret
            exact ⟨rfl, HB.out⟩)
end Go.Proofs.Ytapdjolgdocilaa
