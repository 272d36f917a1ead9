/- The statement of words that keep their numbers. -/
import Derived.Test.YtapdjolgdocilaaVLaws1
namespace Go.Proofs.Ytapdjolgdocilaa
open Go.RowKit

def intCs (ns : List Int) : List Value := ns.map (Value.int .i64)
theorem intCs_snoc (l : List Int) (x : Int) : intCs (l ++ [x]) = intCs l ++ [.int .i64 x] := by simp [intCs]
theorem intCs_len (l : List Int) : (intCs l).length = l.length := by simp [intCs]

/-- A row of numbers is none of a dictionary's blocks. -/
theorem V.row {S : Nat → Prop} {w : World} {b : Nat} {ws : List (List UInt8)} (h : V S w b ws) {B n : Nat} {v : Value} {xs : List Value} (ho : w.ownsRow B 3 1 v n xs) : V (fun k => S k ∨ v.ownBlock = some k) w b ws := by
  obtain ⟨mb, vw, D, h⟩ := h
  refine ⟨mb, vw, D, { h with out := ?_, outw := ?_, outm := ?_ }⟩
  · rintro (hk | hk)
    · exact h.out hk
    · exact own_ne ho h.blk (by decide) hk
  · rintro g hg (hk | hk)
    · exact h.outw g hg hk
    · rcases h.ow.2 with ⟨e, _⟩ | ⟨g2, cap, cur, e1, _, e3, _⟩
      · rw [e] at hg; simp [Value.ownBlock] at hg
      · have : g2 = g := by rw [e1] at hg; simpa [Value.ownBlock] using hg
        subst this
        exact own_ne ho e3 (by decide) hk
  · rintro (hk | hk)
    · exact h.outm hk
    · exact own_ne_map ho h.om hk
theorem Goes.put_row {w wr : World} {d : Nat} {ws : List (List UInt8)} (h : Goes w wr d ws) {B n : Nat} {v : Value} {xs : List Value} (ho : wr.ownsRow B 3 1 v n xs) (s : List UInt8) (hs : s.length ≤ maxLen) (hl : ws.length ≤ 1000000) :
    Calls Try.prog 15 #[.pointer (some ⟨d, 0, none⟩), .string ⟨s.toArray⟩] wr fun e w' => ∃ (ws' : List (List UInt8)) (k er : Nat), e = .returned (.tuple #[.int .i64 (k : Int), .int .i64 (er : Int)]) ∧ PutR ws s ws' k er ∧ Goes w w' d ws' ∧ w'.ownsRow B 3 1 v n xs := by
  have hlow : Low (fun k => k < w.heap.size ∨ v.ownBlock = some k) wr := fun k hk => by
    rcases hk with hk | hk
    · exact h.low k hk
    · exact own_lt ho hk
  refine (put_any (h.v.row ho) hlow s hs hl).mono ?_
  rintro e w' ⟨ws', k, er, h1, h2, h3, h4⟩
  refine ⟨ws', k, er, h1, h2, ⟨h3.more (fun k hk => .inl (.inl hk)), h.f.trans (h4.sub (fun k hk => .inl hk))⟩, ?_⟩
  exact owns_key ho (fun g o hg hgo => (h4.block g (.inr hg)).trans hgo)
theorem Goes.grown_row {w wr w' : World} {d : Nat} {ws : List (List UInt8)} (h : Goes w wr d ws) {n : Nat} {v : Value} {xs : List Value} (ho : wr.ownsRow w.heap.size 3 1 v n xs) (hg : wr.grownBy w' v.ownBlock) : Goes w w' d ws := by
  refine ⟨?_, h.f.grown (low0 w) hg (fun g hk hl => by have := (ho.lt g hk).1; omega)⟩
  have hr := h.v.row ho
  refine (hr.keepOut (fun k o hk hko => (hg.block k (lt_of_block hko) (fun e => hk (.inr e.symm))).trans hko)).more (fun k hk => .inl (.inl hk))

/-- The number that was noted for a text. -/
def AtR (ws : List (List UInt8)) (t : List UInt8) (x : Int) : Prop := (isW t = false ∧ x = -1) ∨ (isW t = true ∧ ∃ k : Nat, x = (k : Int) ∧ ws[k]? = some t)
def AtsOk (ls ws : List (List UInt8)) (ats : List Int) : Prop := ∀ (j : Nat) t x, ls[j]? = some t → ats[j]? = some x → AtR ws t x
theorem AtsOk.snoc {ls ws ws' : List (List UInt8)} {ats : List Int} {t : List UInt8} {k er : Nat} {x : Int} (h : AtsOk ls ws ats) (hp : PutR ws t ws' k er) (ht : ls[ats.length]? = some t) (hx : x = if er = 0 then (k : Int) else -1) : AtsOk ls ws' (ats ++ [x]) := by
  intro j u y hj hy
  by_cases hl : j < ats.length
  · rw [List.getElem?_append_left hl] at hy
    rcases h j u y hj hy with ⟨a, b⟩ | ⟨a, q, b, c⟩
    · exact .inl ⟨a, b⟩
    · exact .inr ⟨a, q, b, hp.keeps c⟩
  · have hjl : j = ats.length := by
      have := (List.getElem?_eq_some_iff.1 hy).1
      simp at this; omega
    subst hjl
    rw [List.getElem?_append_right (Nat.le_refl _), Nat.sub_self] at hy
    simp at hy
    rw [ht] at hj
    have e := Option.some.inj hj
    subst e
    rw [← hy, hx]
    rcases hp.has with ⟨h1, h2, h3⟩ | ⟨h1, h2⟩
    · exact .inr ⟨h2, k, by rw [if_pos h1], h3⟩
    · exact .inl ⟨h2, by rw [if_neg (by omega)]⟩

theorem owns_int {w : World} {B n : Nat} {v : Value} {l : List Int} (h : w.ownsRow B 3 1 v n (intCs l)) {k : Nat} {x : Int} (hk : l[k]? = some x) : ∃ g cap, v = .slice (some ⟨g, 0, none⟩) n cap ∧ w.cell? ⟨g, k, none⟩ = some (.int .i64 x) := by
  have hl : n = l.length := by have := h.1; simp [intCs] at this; omega
  have hk2 := (List.getElem?_eq_some_iff.1 hk).1
  rcases h.2 with ⟨_, h0⟩ | ⟨g, cap, cur, rfl, _⟩
  · omega
  · have hc := h.cellAt k (by omega)
    exact ⟨g, cap, rfl, by rw [hc, intCs, List.getElem?_map, hk]; rfl⟩
/-- What the second half of the statement keeps. -/
structure Still (w wr : World) (d : Nat) (ws : List (List UInt8)) (v : Value) (ats : List Int) : Prop where
  g : Goes w wr d ws
  o : wr.ownsRow w.heap.size 3 1 v ats.length (intCs ats)
theorem Still.drewN {w wr : World} {d : Nat} {ws : List (List UInt8)} {v : Value} {ats : List Int} (h : Still w wr d ws v ats) (q : Nat) : Still w (wr.drewN q) d ws v ats :=
  ⟨h.g.below (below_drewN (Below.refl _ _) q), owns_below h.o (below_drewN (Below.refl _ _) q)⟩
theorem Still.at_ {w wr : World} {d : Nat} {ws : List (List UInt8)} {ats : List Int} {g n cap : Nat} (h : Still w wr d ws (.slice (some ⟨g, 0, none⟩) n cap) ats) {k : Nat} {x : Int} (hk : ats[k]? = some x) : wr.cell? ⟨g, k, none⟩ = some (.int .i64 x) := by
  obtain ⟨g2, cap2, e, hc⟩ := owns_int h.o hk
  injection e with e _ _
  injection e with e
  injection e with e _ _
  subst e
  exact hc

set_option maxRecDepth 100000 in
set_option maxHeartbeats 8000000 in
theorem wordsKeep_walk (v : Value) (ls : List (List UInt8)) (w : World) (hv : StrsAt w v ls) :
    Calls Try.prog 5 #[v] w fun e w' => e = .returned (.bool true) ∧ Below w.heap.size w w' := by
  obtain ⟨hlen, hall, ao, cap, rfl, hc⟩ := hv
  have HC := Hid.mk hc
  have HALL := Hid.mk hall
  clear hc hall
  obtain ⟨i0, hi0, hz0, hz1, hz2⟩ := info_parts infoI
  have C := Hid.mk (goes_new w)
  obtain ⟨n, hm, hn2, hnl⟩ : ∃ n : Nat, min (ls.length : Int) 200 = (n : Int) ∧ n ≤ 200 ∧ n ≤ ls.length := ⟨min ls.length 200, by omega, by omega, by omega⟩
  go_enter Try.func5, Try.ntmps5
  go_wp2_with fail
  refine C.out.mono ?_
  rintro e w1 ⟨rfl, hg1⟩
  have G1 := Hid.mk hg1
  obtain ⟨d, hd⟩ : ∃ d, d = w.heap.size + 1 := ⟨_, rfl⟩
  rw [← hd] at G1 ⊢
  clear hg1 hd C
  go_wp2_with fail
  clear hm
  go_loopw [5, 6] (fun va c wr => ∃ (i : Nat) (ws : List (List UInt8)) (ats : List Int), c = .int .i64 i ∧ i ≤ n ∧ ats.length = i ∧ ws.length ≤ i ∧ Goes w wr d ws ∧ wr.ownsRow w.heap.size 3 1 va i (intCs ats) ∧ AtsOk ls ws ats) (fun _ c _ => n - (intOf c).toNat)
  case atStart => exact ⟨0, [], [], rfl, Nat.zero_le _, rfl, Nat.le_refl _, G1.out, World.ownsRow_nil _ _ _ _, by intro j t x _ h; simp at h⟩
  case round =>
    obtain ⟨i, ws, ats, rfl, hin, hal, hwl, hg, ho, hok⟩ := hrel
    have HG := Hid.mk hg
    have HO := Hid.mk ho
    have HOK := Hid.mk hok
    obtain ⟨ao1, cap1, hva⟩ := own_slice ho
    subst hva
    clear hg ho hok G1
    by_cases hlt : i < n
    · obtain ⟨t, ht⟩ : ∃ t, ls[i]? = some t := ⟨_, List.getElem?_eq_getElem (by omega)⟩
      have hltI : (i : Int) < (n : Int) := by omega
      rcases HC.out with hnil | ⟨b, o, rfl, _, hb, hcs⟩
      · rw [hnil] at ht; simp at ht
      · have hcx := (HG.out.bel.cell (p := ⟨b, o + i, none⟩) hb).trans (hcs i t ht)
        have htl := HALL.out t (List.mem_of_getElem? ht)
        have HT := Hid.mk (show ls[ats.length]? = some t by rw [hal]; exact ht)
        clear hcs ht
        go_wp2_with fail
        refine (HG.out.put_row HO.out t htl (by omega)).mono ?_
        rintro e w2 ⟨ws', k, er, rfl, hp, hg2, ho2⟩
        have G2 := Hid.mk hg2
        have HP := Hid.mk hp
        have hpl := hp.len
        have her : er = 0 ∨ er = 1 := by
          rcases hp.has with h | h
          · exact .inl h.1
          · exact .inr h.1
        clear hg2 hp HG HO
        have hsz2 := G2.out.bel.size
        rcases her with rfl | rfl
        all_goals (
          go_wp2_with (at_builtin; refine wpList_append_lies _ rfl _ _ _ rfl w.heap.size 3 i0 _ 1 8 Try.underlying34 hi0 hz0 hz1 hz2 rfl (by decide) (.slice ao1 i cap1) _ _ (by rfl) (ho2.alloc _) ⟨w2.heap.size, 0, none⟩ 1 1 [.int .i64 _] (by rfl) (by rfl) (World.news_of_block (cs := #[.int .i64 _]) (t := 3) (fr := (0, 0)) (heap_alloc_new w2 _)) (by simp [Value.oneCell']) (by decide) (by unfold maxLen; omega) (by omega) (by simp; omega) (w2.heap.size + 1) (by simp) ?_; intro gg cap3 w3 hown3 hgrow3 hat3 hlt3)
          have G3 := Hid.mk ((G2.out.below ((Below.refl _ _).alloc (Nat.le_refl _) _)).grown_row (ho2.alloc _) hgrow3)
          have hok3 := HOK.out.snoc HP.out HT.out rfl
          rw [← intCs_snoc] at hown3
          have O3 := Hid.mk hown3
          have HOK3 := Hid.mk hok3
          clear hown3 hgrow3 hat3 hlt3 hok3 ho2
          go_wp2
          go_roundw
          case rel => exact ⟨i + 1, ws', _, by go_num, by omega, by rw [List.length_append, hal]; rfl, by omega, G3.out, O3.out, HOK3.out⟩
          case measure => simp [intOf]; omega)
    · obtain rfl : i = n := by omega
      subst hal
      have ST := Hid.mk (show Still w wr d ws (.slice ao1 ats.length cap1) ats from ⟨HG.out, HO.out⟩)
      have ONCE := Hid.mk HG.out.v.once
      clear HG HO hi0 hz0 hz1 hz2
      obtain ⟨W, hW⟩ : ∃ W, W = wr := ⟨_, rfl⟩
      subst hW
      go_wp2_with fail
      go_loopw [9] (fun c wr => ∃ (j : Nat), c = .int .i64 j ∧ j ≤ ats.length ∧ Still w wr d ws (.slice ao1 ats.length cap1) ats) (fun c _ => ats.length - (intOf c).toNat)
      case atStart => exact ⟨0, rfl, Nat.zero_le _, ST.out⟩
      case round =>
        obtain ⟨j, rfl, hjl, hst⟩ := hrel
        have HST := Hid.mk hst
        clear hst ST
        by_cases hj : j < ats.length
        · have hjI : (j : Int) < (ats.length : Int) := by omega
          obtain ⟨x, hx⟩ : ∃ x, ats[j]? = some x := ⟨_, List.getElem?_eq_getElem hj⟩
          obtain ⟨t, ht⟩ : ∃ t, ls[j]? = some t := ⟨_, List.getElem?_eq_getElem (by omega)⟩
          obtain ⟨g, cap2, ev, _⟩ := owns_int HST.out.o hx
          injection ev with e1 _ e2
          subst e1 e2
          rcases HC.out with hnil | ⟨b, o, rfl, _, hb, hcs⟩
          · rw [hnil] at ht; simp at ht
          · have LC : Hid (∀ wr k u, Goes w wr d ws → ls[k]? = some u → wr.cell? ⟨b, o + k, none⟩ = some (.string ⟨u.toArray⟩)) := Hid.mk (fun wr k u hg hk => (hg.bel.cell (p := ⟨b, o + k, none⟩) hb).trans (hcs k u hk))
            have HX := Hid.mk hx
            have HT := Hid.mk ht
            have AX := Hid.mk (HOK.out j t x ht hx)
            have htl := HALL.out t (List.mem_of_getElem? ht)
            clear hcs hx ht
            go_wp2_with fail
            go_loopw [10] (fun c wr => ∃ (m : Nat), c = .int .i64 m ∧ m ≤ j ∧ Still w wr d ws (.slice (some ⟨g, 0, none⟩) ats.length cap1) ats) (fun c _ => j - (intOf c).toNat)
            case atStart => exact ⟨0, rfl, Nat.zero_le _, HST.out⟩
            case round =>
              obtain ⟨m, rfl, hmj, hst2⟩ := hrel
              have HS2 := Hid.mk hst2
              clear hst2 HST
              by_cases hm : m < j
              · have hmI : (m : Int) < (j : Int) := by omega
                obtain ⟨y, hy⟩ : ∃ y, ats[m]? = some y := ⟨_, List.getElem?_eq_getElem (by omega)⟩
                obtain ⟨u, hu⟩ : ∃ u, ls[m]? = some u := ⟨_, List.getElem?_eq_getElem (by omega)⟩
                have cx := HS2.out.at_ HX.out
                have cy := HS2.out.at_ hy
                have ct := LC.out _ _ _ HS2.out.g HT.out
                have cu := LC.out _ _ _ HS2.out.g hu
                have AY := Hid.mk (HOK.out m u y hu hy)
                clear hy hu
                have hmA : (m : Int) < (ats.length : Int) := by omega
                have hjL : (j : Int) < (ls.length : Int) := by omega
                have hmL : (m : Int) < (ls.length : Int) := by omega
                rcases AX.out with ⟨_, rfl⟩ | ⟨_, k, rfl, hk⟩
                · go_wp2_with fail
                  go_quiet (fail)
                  have HS3 := Hid.mk (HS2.out.drewN nq)
                  go_wp2
                  go_roundw
                  case rel => exact ⟨m + 1, by go_num, by omega, HS3.out⟩
                  case measure => simp [intOf]; omega
                · rcases AY.out with ⟨_, rfl⟩ | ⟨_, k2, rfl, hk2⟩
                  · have HK := Hid.mk hk
                    clear hk
                    go_wp2_with fail
                    go_quiet (fail)
                    have HS3 := Hid.mk (HS2.out.drewN nq)
                    go_wp2
                    go_roundw
                    case rel => exact ⟨m + 1, by go_num, by omega, HS3.out⟩
                    case measure => simp [intOf]; omega
                  · by_cases htu : t = u
                    · subst htu
                      have e := ONCE.out k k2 t hk hk2
                      subst e
                      have HK := Hid.mk hk
                      clear hk hk2
                      go_wp2_with fail
                      go_quiet (fail)
                      have HS3 := Hid.mk (HS2.out.drewN nq)
                      go_wp2
                      go_roundw
                      case rel => exact ⟨m + 1, by go_num, by omega, HS3.out⟩
                      case measure => simp [intOf]; omega
                    · have hne : ¬ (k : Int) = (k2 : Int) := by
                        intro e
                        have e2 : k = k2 := by omega
                        subst e2
                        rw [hk] at hk2
                        exact htu (Option.some.inj hk2)
                      have hne2 : ((k : Int) == (k2 : Int)) = false := beq_eq_false_iff_ne.2 hne
                      have htu2 : (t == u) = false := beq_eq_false_iff_ne.2 htu
                      have HK := Hid.mk hk
                      clear hk hk2
                      go_wp2_with fail
                      go_quiet (fail)
                      have HS3 := Hid.mk (HS2.out.drewN nq)
                      go_wp2
                      go_roundw
                      case rel => exact ⟨m + 1, by go_num, by omega, HS3.out⟩
                      case measure => simp [intOf]; omega
              · have cx := HS2.out.at_ HX.out
                have ct := LC.out _ _ _ HS2.out.g HT.out
                have hjL : (j : Int) < (ls.length : Int) := by omega
                rcases AX.out with ⟨_, rfl⟩ | ⟨_, k, rfl, hk⟩
                · go_wp2
                  go_roundw
                  case rel => exact ⟨j + 1, by go_num, by omega, HS2.out⟩
                  case measure => simp [intOf]; omega
                · have HK := Hid.mk hk
                  have hkl : k < ws.length := (List.getElem?_eq_some_iff.1 hk).1
                  have hklI : ¬ (ws.length : Int) ≤ (k : Int) := by omega
                  clear hk
                  go_wp2_with fail
                  refine (word_any HS2.out.g.v (k : Int)).mono ?_
                  rintro e w3 ⟨s, er, rfl, hw, hw3⟩
                  subst hw3
                  obtain ⟨rfl, rfl⟩ := hw.ok HK.out
                  clear hw
                  go_wp2_with fail
                  refine (id_any HS2.out.g.v s htl).mono ?_
                  rintro e w4 ⟨k2, er2, rfl, hid, hw4⟩
                  subst hw4
                  obtain ⟨rfl, rfl⟩ := hid.one ONCE.out (show IdR ws s k 0 from .inr ⟨HK.out, rfl⟩)
                  clear hid
                  have CL : Hid (∀ q, Calls Try.prog 19 #[.pointer (some ⟨d, 0, none⟩)] (w4.drewN q) fun e w' => e = .returned (.int .i64 (ws.length : Int)) ∧ w' = w4.drewN q) := Hid.mk (fun q => len_any (HS2.out.drewN q).g.v)
                  go_wp2_with fail
                  go_quiet ((go_at_call 19; refine Calls.quiet_of_same (CL.out _)))
                  have HS3 := Hid.mk (HS2.out.drewN nq)
                  go_wp2
                  go_roundw
                  case rel => exact ⟨j + 1, by go_num, by omega, HS3.out⟩
                  case measure => simp [intOf]; omega
        · go_wp2_with fail
          refine (awake_any _).mono ?_
          rintro e w4 ⟨rfl, hb4⟩
          have HB : Hid (Below w.heap.size w w4) := Hid.mk ((HST.out.g.below hb4).bel)
          clear hb4
          go_wp2
          go_ret
          exact ⟨rfl, HB.out⟩
end Go.Proofs.Ytapdjolgdocilaa
