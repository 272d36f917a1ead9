/- The statement of a dictionary that tells what was put. -/
import Derived.Test.YtapdjolgdocilaaVRefS
namespace Go.Proofs.Ytapdjolgdocilaa
open Go.RowKit

/-- The program's dictionary and the document's list hold the same. -/
def Both (w wr : World) (d : Nat) (vq : Value) (ws : List (List UInt8)) : Prop :=
  ∃ S : Nat → Prop, Low S wr ∧ (∀ k, k < w.heap.size → S k) ∧ V S wr d ws ∧ StrsS S wr vq ws ∧ (vq = .slice none 0 0 ∨ ws ≠ []) ∧ Fr (fun k => k < w.heap.size) w wr
theorem Goes.both {w wr : World} {d : Nat} (h : Goes w wr d []) : Both w wr d (.slice none 0 0) [] := ⟨_, h.low, fun _ hk => hk, h.v, StrsS.nil _ _, .inl rfl, h.f⟩
theorem Both.bel {w wr : World} {d : Nat} {vq : Value} {ws : List (List UInt8)} (h : Both w wr d vq ws) : Below w.heap.size w wr := by
  obtain ⟨S, h1, h2, h3, h4, h5, h6⟩ := h
  exact h6.below (fun _ hk => hk)
theorem Both.below {w wr w' : World} {d : Nat} {vq : Value} {ws : List (List UInt8)} (h : Both w wr d vq ws) (hb : Below wr.heap.size wr w') : Both w w' d vq ws := by
  obtain ⟨S, h1, h2, h3, h4, h5, h6⟩ := h
  exact ⟨S, h1.below hb, h2, h3.below hb, h4.below hb, h5, h6.next (low0 w) hb⟩
theorem Both.v {w wr : World} {d : Nat} {vq : Value} {ws : List (List UInt8)} (h : Both w wr d vq ws) : ∃ S, V S wr d ws ∧ StrsS S wr vq ws := by
  obtain ⟨S, h1, h2, h3, h4, h5, h6⟩ := h
  exact ⟨S, h3, h4⟩
theorem Both.slice {w wr : World} {d : Nat} {vq : Value} {ws : List (List UInt8)} (h : Both w wr d vq ws) : ∃ ao cap, vq = .slice ao ws.length cap := by
  obtain ⟨S, h1, h2, h3, ⟨_, _, ao, cap, e, _⟩, h5, h6⟩ := h
  exact ⟨ao, cap, e⟩
/-- Put on both sides: first the document's, then the program's. -/
def Mid (w wr : World) (d : Nat) (vq : Value) (ws ss : List (List UInt8)) : Prop :=
  ∃ S : Nat → Prop, Low S wr ∧ (∀ k, k < w.heap.size → S k) ∧ V S wr d ws ∧ StrsS S wr vq ss ∧ (vq = .slice none 0 0 ∨ ss ≠ []) ∧ Fr (fun k => k < w.heap.size) w wr
theorem Mid.bel {w wr : World} {d : Nat} {vq : Value} {ws ss : List (List UInt8)} (h : Mid w wr d vq ws ss) : Below w.heap.size w wr := by
  obtain ⟨S, h1, h2, h3, h4, h5, h6⟩ := h
  exact h6.below (fun _ hk => hk)
theorem Both.rput {w wr : World} {d : Nat} {vq : Value} {ws : List (List UInt8)} (h : Both w wr d vq ws) (s : List UInt8) (hs : s.length ≤ maxLen) (hl : ws.length ≤ 1000000) :
    Calls Try.prog 14 #[vq, .string ⟨s.toArray⟩] wr fun e w' => ∃ (ao : Option Addr) (c : Nat) (ss : List (List UInt8)) (k er : Nat), e = .returned (.tuple #[.slice ao ss.length c, .int .i64 (k : Int), .int .i64 (er : Int)]) ∧ PutR ws s ss k er ∧ Mid w w' d (.slice ao ss.length c) ws ss := by
  obtain ⟨S, h1, h2, h3, h4, h5, h6⟩ := h
  refine (rPut_any h4 s hs hl h5).mono ?_
  rintro e w' ⟨ao, c, ss, k, er, e1, e2, e3, e4, e5⟩
  exact ⟨ao, c, ss, k, er, e1, e2, Plus S wr.heap.size w'.heap.size, h1.plus e5.size, fun k hk => .inl (h2 k hk), h3.plus e5, e3, e4, h6.next (low0 w) e5⟩
theorem Mid.put {w wr : World} {d : Nat} {vq : Value} {ws ss : List (List UInt8)} (h : Mid w wr d vq ws ss) (s : List UInt8) (hs : s.length ≤ maxLen) (hl : ws.length ≤ 1000000) {k er : Nat} (hp : PutR ws s ss k er) :
    Calls Try.prog 15 #[.pointer (some ⟨d, 0, none⟩), .string ⟨s.toArray⟩] wr fun e w' => e = .returned (.tuple #[.int .i64 (k : Int), .int .i64 (er : Int)]) ∧ Both w w' d vq ss := by
  obtain ⟨S, h1, h2, h3, h4, h5, h6⟩ := h
  refine (put_any h3 h1 s hs hl).mono ?_
  rintro e w' ⟨ws', k2, er2, e1, e2, e3, e4⟩
  obtain ⟨rfl, rfl, rfl⟩ := e2.one h3.once hp
  exact ⟨e1, S, h1.fr e4, h2, e3, h4.fr e4, h5, h6.trans (e4.sub (fun k hk => h2 k hk))⟩

set_option maxRecDepth 100000 in
set_option maxHeartbeats 8000000 in
theorem wordsPlays_walk (v : Value) (ls : List (List UInt8)) (id : Int) (w : World) (hv : StrsAt w v ls) (_ : (Lit.int .i64 id).wf = true) :
    Calls Try.prog 4 #[v, .int .i64 id] w fun e w' => e = .returned (.bool true) ∧ Below w.heap.size w w' := by
  obtain ⟨hlen, hall, ao, cap, rfl, hc⟩ := hv
  have HC := Hid.mk hc
  have HALL := Hid.mk hall
  clear hc hall
  have C := Hid.mk (goes_new w)
  go_enter Try.func4, Try.ntmps4
  go_wp2_with fail
  refine C.out.mono ?_
  rintro e w1 ⟨rfl, hg1⟩
  have G1 := Hid.mk hg1.both
  obtain ⟨d, hd⟩ : ∃ d, d = w.heap.size + 1 := ⟨_, rfl⟩
  rw [← hd] at G1 ⊢
  clear hg1 hd C
  go_wp2
  go_loopw [6, 7] (fun vq c wr => ∃ (i : Nat) (ws : List (List UInt8)), c = .int .i64 i ∧ i ≤ 200 ∧ i ≤ ls.length ∧ ws.length ≤ i ∧ Both w wr d vq ws) (fun _ c _ => 200 - (intOf c).toNat)
  case atStart => exact ⟨0, [], rfl, Nat.zero_le _, Nat.zero_le _, Nat.le_refl _, G1.out⟩
  case round =>
    obtain ⟨i, ws, rfl, hi2, hil, hwl, hg⟩ := hrel
    obtain ⟨aq, cq, hvq⟩ := hg.slice
    subst hvq
    have HG := Hid.mk hg
    obtain ⟨S, hvS, hsS⟩ := hg.v
    have VS := Hid.mk hvS
    have SS := Hid.mk hsS
    have ONCE := Hid.mk hvS.once
    clear hg hvS hsS G1
    by_cases hlt : i < ls.length ∧ i < 200
    · obtain ⟨hlt, hlt2⟩ := hlt
      obtain ⟨t, ht⟩ : ∃ t, ls[i]? = some t := ⟨_, List.getElem?_eq_getElem hlt⟩
      have hltI : (i : Int) < (ls.length : Int) := by omega
      have hlt2I : (i : Int) < 200 := by omega
      rcases HC.out with hnil | ⟨b, o, rfl, _, hb, hcs⟩
      · rw [hnil] at ht; simp at ht
      · have CT : Hid (∀ wr, Below w.heap.size w wr → wr.cell? ⟨b, o + i, none⟩ = some (.string ⟨t.toArray⟩)) := Hid.mk (fun wr h => (h.cell (p := ⟨b, o + i, none⟩) hb).trans (hcs i t ht))
        have hcx := CT.out _ HG.out.bel
        have htl := HALL.out t (List.mem_of_getElem? ht)
        clear hcs ht
        go_wp2_with fail
        refine (id_any VS.out t htl).mono ?_
        rintro e w2 ⟨k1, e1, rfl, hid1, hw2⟩
        subst hw2
        go_wp2_with fail
        refine (rId_any SS.out t).mono ?_
        rintro e w3 ⟨k2, e2, rfl, hid2, hw3⟩
        subst hw3
        obtain ⟨rfl, rfl⟩ := hid1.one ONCE.out hid2
        clear hid1 hid2
        go_wp2_with fail
        refine (HG.out.rput t htl (by omega)).mono ?_
        rintro e w4 ⟨aq2, cq2, ss, k, er, rfl, hp, hmid⟩
        have HP := Hid.mk hp
        have hpl := hp.len
        have MID := Hid.mk hmid
        have hcx4 := CT.out _ hmid.bel
        clear hp hmid hcx HG VS SS
        go_wp2_with fail
        refine (MID.out.put t htl (by omega) HP.out).mono ?_
        rintro e w5 ⟨rfl, hboth⟩
        have HB5 := Hid.mk hboth
        clear hboth MID hcx4
        go_wp2
        go_roundw
        case rel => exact ⟨i + 1, ss, by go_num, by omega, by omega, by omega, HB5.out⟩
        case measure => simp [intOf]; omega
    · clear HC HALL
      have hws2 : ws.length ≤ 200 := by omega
      by_cases hid0 : id < 0
      · go_wp2_with fail
        all_goals (
          refine (word_any VS.out id).mono ?_
          rintro e w2 ⟨s, er, rfl, hw, hw2⟩
          subst hw2
          have hs : s = [] ∧ er = 3 := by
            rcases hw with ⟨k, h1, _⟩ | ⟨_, h2, h3⟩
            · omega
            · exact ⟨h2, h3⟩
          obtain ⟨rfl, rfl⟩ := hs
          clear hw
          have hid1 : ¬ 0 ≤ id := by omega
          go_wp2_with fail
          refine (sorted_any VS.out (by omega)).mono ?_
          rintro e w3 ⟨g, cap2, is, rfl, hrow, _, hsorts, hb3⟩
          have HS3 := Hid.mk hsorts
          have hisl : is.length ≤ 200 := by rw [hsorts.len]; omega
          have HLEN := Hid.mk hsorts.len
          have SS3 := Hid.mk (SS.out.below hb3)
          have G3 := Hid.mk (HG.out.below hb3)
          have RA := Hid.mk hrow
          clear hsorts hrow hb3
          go_wp2_with fail
          refine (rSorted_any SS3.out ONCE.out (by omega)).mono ?_
          rintro e w4 ⟨ar, cr, is2, rfl, hsorts2, hown4, hb4⟩
          obtain rfl := hsorts2.one ONCE.out HS3.out
          have OWN := Hid.mk hown4
          have RA4 := Hid.mk (RA.out.below hb4)
          have G4 := Hid.mk (G3.out.below hb4)
          clear hsorts2 hown4 hb4 G3 SS3 RA VS SS HG
          obtain ⟨S4, hv4, _⟩ := G4.out.v
          have V4 := Hid.mk hv4
          clear hv4
          go_wp2_with fail
          refine (len_any V4.out).mono ?_
          rintro e w5 ⟨rfl, hw5⟩
          subst hw5
          go_wp2
          go_loopw [21] (fun c wr => ∃ (j : Nat), c = .int .i64 j ∧ j ≤ is2.length ∧ Below w5.heap.size w5 wr) (fun c _ => is2.length - (intOf c).toNat)
          case atStart => exact ⟨0, rfl, Nat.zero_le _, Below.refl _ _⟩
          case round =>
            obtain ⟨j, rfl, hjl, hbr⟩ := hrel
            have HBR := Hid.mk hbr
            by_cases hj : j < is2.length
            · have hjI : (j : Int) < (is2.length : Int) := by omega
              obtain ⟨x, hx⟩ : ∃ x, is2[j]? = some x := ⟨_, List.getElem?_eq_getElem hj⟩
              have cx := ((RA4.out.below hbr).2 j x hx).1
              obtain ⟨gr, c2, ev2, _, cy⟩ := owns_nat (owns_below OWN.out hbr) hx
              injection ev2 with e1 _ e2
              subst e1 e2
              clear hx hbr
              go_wp2_with fail
              go_quiet (fail)
              have HBQ := Hid.mk (below_drewN HBR.out nq)
              go_wp2
              go_roundw
              case rel => exact ⟨j + 1, by go_num, by omega, HBQ.out⟩
              case measure => simp [intOf]; omega
            · clear hbr
              go_wp2_with fail
              refine (awake_any _).mono ?_
              rintro e w6 ⟨rfl, hb6⟩
              have HB : Hid (Below w.heap.size w w6) := Hid.mk (((G4.out.below HBR.out).below hb6).bel)
              clear hb6
              go_wp2
              go_ret
              exact ⟨rfl, HB.out⟩)
      · by_cases hid1 : (ws.length : Int) ≤ id
        · go_wp2_with fail
          all_goals (
            refine (word_any VS.out id).mono ?_
            rintro e w2 ⟨s, er, rfl, hw, hw2⟩
            subst hw2
            have hs : s = [] ∧ er = 3 := by
              rcases hw with ⟨k, h1, h2, _⟩ | ⟨_, h2, h3⟩
              · have := (List.getElem?_eq_some_iff.1 h2).1
                omega
              · exact ⟨h2, h3⟩
            obtain ⟨rfl, rfl⟩ := hs
            clear hw
            have hid2 : ¬ id < (ws.length : Int) := by omega
            have hid3 : 0 ≤ id := by omega
            go_wp2_with fail
            refine (sorted_any VS.out (by omega)).mono ?_
            rintro e w3 ⟨g, cap2, is, rfl, hrow, _, hsorts, hb3⟩
            have HS3 := Hid.mk hsorts
            have hisl : is.length ≤ 200 := by rw [hsorts.len]; omega
            have HLEN := Hid.mk hsorts.len
            have SS3 := Hid.mk (SS.out.below hb3)
            have G3 := Hid.mk (HG.out.below hb3)
            have RA := Hid.mk hrow
            clear hsorts hrow hb3
            go_wp2_with fail
            refine (rSorted_any SS3.out ONCE.out (by omega)).mono ?_
            rintro e w4 ⟨ar, cr, is2, rfl, hsorts2, hown4, hb4⟩
            obtain rfl := hsorts2.one ONCE.out HS3.out
            have OWN := Hid.mk hown4
            have RA4 := Hid.mk (RA.out.below hb4)
            have G4 := Hid.mk (G3.out.below hb4)
            clear hsorts2 hown4 hb4 G3 SS3 RA VS SS HG
            obtain ⟨S4, hv4, _⟩ := G4.out.v
            have V4 := Hid.mk hv4
            clear hv4
            go_wp2_with fail
            refine (len_any V4.out).mono ?_
            rintro e w5 ⟨rfl, hw5⟩
            subst hw5
            go_wp2
            go_loopw [21] (fun c wr => ∃ (j : Nat), c = .int .i64 j ∧ j ≤ is2.length ∧ Below w5.heap.size w5 wr) (fun c _ => is2.length - (intOf c).toNat)
            case atStart => exact ⟨0, rfl, Nat.zero_le _, Below.refl _ _⟩
            case round =>
              obtain ⟨j, rfl, hjl, hbr⟩ := hrel
              have HBR := Hid.mk hbr
              by_cases hj : j < is2.length
              · have hjI : (j : Int) < (is2.length : Int) := by omega
                obtain ⟨x, hx⟩ : ∃ x, is2[j]? = some x := ⟨_, List.getElem?_eq_getElem hj⟩
                have cx := ((RA4.out.below hbr).2 j x hx).1
                obtain ⟨gr, c2, ev2, _, cy⟩ := owns_nat (owns_below OWN.out hbr) hx
                injection ev2 with e1 _ e2
                subst e1 e2
                clear hx hbr
                go_wp2_with fail
                go_quiet (fail)
                have HBQ := Hid.mk (below_drewN HBR.out nq)
                go_wp2
                go_roundw
                case rel => exact ⟨j + 1, by go_num, by omega, HBQ.out⟩
                case measure => simp [intOf]; omega
              · clear hbr
                go_wp2_with fail
                refine (awake_any _).mono ?_
                rintro e w6 ⟨rfl, hb6⟩
                have HB : Hid (Below w.heap.size w w6) := Hid.mk (((G4.out.below HBR.out).below hb6).bel)
                clear hb6
                go_wp2
                go_ret
                exact ⟨rfl, HB.out⟩)
        · obtain ⟨k, rfl⟩ : ∃ k : Nat, id = (k : Int) := ⟨id.toNat, by omega⟩
          have hk : k < ws.length := by omega
          obtain ⟨s0, hs0⟩ : ∃ s, ws[k]? = some s := ⟨_, List.getElem?_eq_getElem hk⟩
          have hkI : (k : Int) < (ws.length : Int) := by omega
          obtain ⟨_, _, aq1, cq1, ev, hcq⟩ := SS.out
          injection ev with e1 _ e2
          subst e1 e2
          rcases hcq with hnil | ⟨b, o, rfl, _, hb, hcs⟩
          · rw [hnil] at hs0; simp at hs0
          · have hcx := hcs k s0 hs0
            have HS0 := Hid.mk hs0
            clear hcs hs0
            go_wp2_with fail
            all_goals (
              refine (word_any VS.out (k : Int)).mono ?_
              rintro e w2 ⟨s, er, rfl, hw, hw2⟩
              subst hw2
              obtain ⟨rfl, rfl⟩ := hw.ok HS0.out
              clear hw
              go_wp2_with fail
              refine (sorted_any VS.out (by omega)).mono ?_
              rintro e w3 ⟨g, cap2, is, rfl, hrow, _, hsorts, hb3⟩
              have HS3 := Hid.mk hsorts
              have hisl : is.length ≤ 200 := by rw [hsorts.len]; omega
              have HLEN := Hid.mk hsorts.len
              have SS3 := Hid.mk (SS.out.below hb3)
              have G3 := Hid.mk (HG.out.below hb3)
              have RA := Hid.mk hrow
              clear hsorts hrow hb3
              go_wp2_with fail
              refine (rSorted_any SS3.out ONCE.out (by omega)).mono ?_
              rintro e w4 ⟨ar, cr, is2, rfl, hsorts2, hown4, hb4⟩
              obtain rfl := hsorts2.one ONCE.out HS3.out
              have OWN := Hid.mk hown4
              have RA4 := Hid.mk (RA.out.below hb4)
              have G4 := Hid.mk (G3.out.below hb4)
              clear hsorts2 hown4 hb4 G3 SS3 RA VS SS HG
              obtain ⟨S4, hv4, _⟩ := G4.out.v
              have V4 := Hid.mk hv4
              clear hv4
              go_wp2_with fail
              refine (len_any V4.out).mono ?_
              rintro e w5 ⟨rfl, hw5⟩
              subst hw5
              go_wp2
              go_loopw [21] (fun c wr => ∃ (j : Nat), c = .int .i64 j ∧ j ≤ is2.length ∧ Below w5.heap.size w5 wr) (fun c _ => is2.length - (intOf c).toNat)
              case atStart => exact ⟨0, rfl, Nat.zero_le _, Below.refl _ _⟩
              case round =>
                obtain ⟨j, rfl, hjl, hbr⟩ := hrel
                have HBR := Hid.mk hbr
                by_cases hj : j < is2.length
                · have hjI : (j : Int) < (is2.length : Int) := by omega
                  obtain ⟨x, hx⟩ : ∃ x, is2[j]? = some x := ⟨_, List.getElem?_eq_getElem hj⟩
                  have cx := ((RA4.out.below hbr).2 j x hx).1
                  obtain ⟨gr, c2, ev2, _, cy⟩ := owns_nat (owns_below OWN.out hbr) hx
                  injection ev2 with e1 _ e2
                  subst e1 e2
                  clear hx hbr
                  go_wp2_with fail
                  go_quiet (fail)
                  have HBQ := Hid.mk (below_drewN HBR.out nq)
                  go_wp2
                  go_roundw
                  case rel => exact ⟨j + 1, by go_num, by omega, HBQ.out⟩
                  case measure => simp [intOf]; omega
                · clear hbr
                  go_wp2_with fail
                  refine (awake_any _).mono ?_
                  rintro e w6 ⟨rfl, hb6⟩
                  have HB : Hid (Below w.heap.size w w6) := Hid.mk (((G4.out.below HBR.out).below hb6).bel)
                  clear hb6
                  go_wp2
                  go_ret
                  exact ⟨rfl, HB.out⟩)
end Go.Proofs.Ytapdjolgdocilaa
