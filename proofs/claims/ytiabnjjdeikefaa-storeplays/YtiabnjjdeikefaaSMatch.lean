/- Match, Facts, Homes of the program. -/
import Derived.Test.YtiabnjjdeikefaaSFacts
namespace Go.Proofs.Ytiabnjjdeikefaa
open Go.RowKit

/-- The facts of a version, if there is one. -/
def verO (All : List (List Tri)) (ver : Int) : Option (List Tri) := if ver < 0 then none else All[ver.toNat]?
def maL (All : List (List Tri)) (ver : Int) (like : Tri) : List Tri := ((verO All ver).getD []).filter (likeT like)
def maE (All : List (List Tri)) (ver : Int) : Nat := if (verO All ver).isSome = true then 0 else 71
theorem verO_nat (All : List (List Tri)) (v : Nat) : verO All (v : Int) = All[v]? := by
  unfold verO
  rw [if_neg (by omega)]; rfl
theorem ts_few {All : List (List Tri)} {ts : List (Nat × Tri)} (h : Hist All ts) (hl : All.length ≤ 1000000) : ts.length ≤ 100000000 := by have := h.len; omega

set_option maxHeartbeats 4000000 in
set_option maxRecDepth 100000 in
theorem match_any {S : Nat → Prop} {w : World} {b : Nat} {All : List (List Tri)} (hQ : Q S w b All) (hAl : All.length ≤ 1000000) (ver : Int) (like : Tri) :
    Calls Try.prog 18 #[.pointer (some ⟨b, 0, none⟩), .int .i64 ver, encT like] w fun e w' => ∃ ao cap, e = .returned (.tuple #[.slice ao (maL All ver like).length cap, .int .i64 (maE All ver : Int)]) ∧ LTri w.heap.size w' (.slice ao (maL All ver like).length cap) (maL All ver like) ∧ Below w.heap.size w w' := by
  obtain ⟨mb, N, vt, ts, hA, hN, hH⟩ := hQ
  obtain ⟨W1, hW1⟩ : ∃ W1, W1 = w.alloc (.cells #[strV like.1, strV like.2.1, strV like.2.2] 25) := ⟨_, rfl⟩
  have hB1 : Below w.heap.size w W1 := by rw [hW1]; exact (Below.refl _ _).alloc (Nat.le_refl _) _
  have hbx : W1.heap[w.heap.size]? = some (.cells #[strV like.1, strV like.2.1, strV like.2.2] 25) := by rw [hW1]; exact box_at w _
  have A1 := hA.below hB1
  obtain ⟨⟨g0, g1, g2, g3⟩, _⟩ := four_cells A1.blk
  have C := Hid.mk (given_any b W1 g0)
  have HA1 := Hid.mk A1
  have HB1 := Hid.mk hB1
  have HBX := Hid.mk hbx
  have HW1 := Hid.mk hW1
  have HH := Hid.mk hH
  have htl := ts_few hH hAl
  have hlb : w.heap.size < W1.heap.size := lt_of_block hbx
  have g1' := g1
  clear hA A1 hB1 hbx hH
  by_cases hbad : ver < 0 ∨ (N : Int) < ver
  · have hv : verO All ver = none := by
      unfold verO
      by_cases h0 : ver < 0
      · rw [if_pos h0]
      · rw [if_neg h0, List.getElem?_eq_none (by omega)]
    have e1 : maL All ver like = [] := by unfold maL; rw [hv]; rfl
    have e2 : maE All ver = 71 := by unfold maE; rw [hv]; rfl
    rw [e1, e2]
    clear e1 e2 hv hN hW1
    by_cases h0 : ver < 0
    · clear hbad
      go_enter Try.func18, Try.ntmps18
      go_wp2_with fail
      rw [← HW1.out]
      refine C.out.mono ?_
      rintro e w1 ⟨rfl, hw⟩
      have hw := hw.symm
      subst hw
      go_wp2
      go_ret2
      exact ⟨none, 0, rfl, .inl ⟨rfl, rfl⟩, HB1.out⟩
    · have h2 : (N : Int) < ver := by omega
      clear hbad
      go_enter Try.func18, Try.ntmps18
      go_wp2_with fail
      rw [← HW1.out]
      refine C.out.mono ?_
      rintro e w1 ⟨rfl, hw⟩
      have hw := hw.symm
      subst hw
      go_wp2
      go_ret2
      exact ⟨none, 0, rfl, .inl ⟨rfl, rfl⟩, HB1.out⟩
  · obtain ⟨v, hv⟩ : ∃ v : Nat, ver = (v : Int) := ⟨ver.toNat, by omega⟩
    subst hv
    have hvN : v ≤ N := by omega
    obtain ⟨G, hG⟩ : ∃ G, All[v]? = some G := ⟨_, List.getElem?_eq_getElem (by omega)⟩
    have e1 : maL All (v : Int) like = matchT G like := by unfold maL; rw [verO_nat, hG]; rfl
    have e2 : maE All (v : Int) = 0 := by unfold maE; rw [verO_nat, hG]; rfl
    rw [e1, e2]
    have h0I : ¬ (v : Int) < 0 := by omega
    have h1I : ¬ (N : Int) < (v : Int) := by omega
    have HD1 : Hid (Below W1.heap.size W1 W1.drew) := Hid.mk (Below.refl _ _).drew
    have HGr := Hid.mk (HH.out.rise G (List.mem_of_getElem? hG))
    have HGf := Hid.mk (HH.out.few G (List.mem_of_getElem? hG))
    have CF := Hid.mk (factsOf_any (HA1.out.below HD1.out) HH.out htl hG)
    have HCC : Hid (∀ u, Below W1.drew.heap.size W1.drew u → u.cell? ⟨w.heap.size, 0, none⟩ = some (strV like.1) ∧ u.cell? ⟨w.heap.size, 1, none⟩ = some (strV like.2.1) ∧ u.cell? ⟨w.heap.size, 2, none⟩ = some (strV like.2.2)) := Hid.mk (fun u hu => (box3 ((hu.block _ hlb).trans HBX.out)).1)
    obtain ⟨p0, p1, p2⟩ := (box3 HBX.out).1
    clear e1 e2 hbad hG hN hW1 hvN
    go_enter Try.func18, Try.ntmps18
    go_wp2_with fail
    rw [← HW1.out]
    refine C.out.mono ?_
    rintro e w1 ⟨rfl, hw⟩
    have hw := hw.symm
    subst hw
    go_wp2_with fail
    go_region_held3 (fun w' => w'.cell? ⟨w.heap.size, 0, none⟩ = some (strV like.1) ∧ w'.cell? ⟨w.heap.size, 1, none⟩ = some (strV like.2.1) ∧ w'.cell? ⟨w.heap.size, 2, none⟩ = some (strV like.2.2))
      (first | exact ⟨p0, p1, p2⟩ | exact ⟨by assumption, by assumption, by assumption⟩)
      (first | (go_at_call 36; refine CF.out.mono ?_; rintro e w2 ⟨c, rfl, hM2, hb2⟩; obtain ⟨r0, r1, r2⟩ := HCC.out w2 hb2; have HB2 := Hid.mk hb2; have HM2 := Hid.mk hM2; clear hb2 hM2) | (go_at_call 37; refine (sorted_any HM2.out HGr.out (Nat.le_trans HGf.out (by omega)) like).mono ?_; rintro e w3 ⟨v3, rfl, hL3, hb3⟩; obtain ⟨r3, r4, r5⟩ := HCC.out w3 (HB2.out.trans (hb3.mono HB2.out.size)); obtain ⟨a3, c3, hv3⟩ := hL3.slice; subst hv3; have HB3 := Hid.mk hb3; have HL3 := Hid.mk hL3; clear hb3 hL3))
    have HBF : Hid (Below w.heap.size w w3) := Hid.mk (((HB1.out.trans (HD1.out.mono HB1.out.size)).trans (HB2.out.mono (HB1.out.trans (HD1.out.mono HB1.out.size)).size)).trans (HB3.out.mono ((HB1.out.trans (HD1.out.mono HB1.out.size)).trans (HB2.out.mono (HB1.out.trans (HD1.out.mono HB1.out.size)).size)).size))
    have hsz : w.heap.size ≤ w2.heap.size := ((HB1.out.trans (HD1.out.mono HB1.out.size)).trans (HB2.out.mono (HB1.out.trans (HD1.out.mono HB1.out.size)).size)).size
    have HLF : Hid (LTri w.heap.size w3 (.slice a3 (matchT G like).length c3) (matchT G like)) := Hid.mk (by
      rcases HL3.out with h | ⟨g, cap, h1, h3, h4⟩
      · exact .inl h
      · exact .inr ⟨g, cap, h1, Nat.le_trans hsz h3, h4⟩)
    clear hsz
    go_wp2
    go_ret2
    exact ⟨a3, c3, rfl, HLF.out, HBF.out⟩

theorem maL_all (All : List (List Tri)) (ver : Int) : maL All ver ([], [], []) = (verO All ver).getD [] := by
  unfold maL
  exact matchT_all _
set_option maxHeartbeats 1000000 in
set_option maxRecDepth 100000 in
theorem facts_any {S : Nat → Prop} {w : World} {b : Nat} {All : List (List Tri)} (hQ : Q S w b All) (hAl : All.length ≤ 1000000) (ver : Int) :
    Calls Try.prog 16 #[.pointer (some ⟨b, 0, none⟩), .int .i64 ver] w fun e w' => ∃ ao cap, e = .returned (.tuple #[.slice ao ((verO All ver).getD []).length cap, .int .i64 (maE All ver : Int)]) ∧ LTri w.heap.size w' (.slice ao ((verO All ver).getD []).length cap) ((verO All ver).getD []) ∧ Below w.heap.size w w' := by
  have C := Hid.mk (match_any hQ hAl ver ([], [], []))
  rw [maL_all] at C
  obtain ⟨L, hL⟩ : ∃ L, L = (verO All ver).getD [] := ⟨_, rfl⟩
  rw [← hL] at C ⊢
  obtain ⟨er, her⟩ : ∃ er, er = maE All ver := ⟨_, rfl⟩
  rw [← her] at C ⊢
  clear hL her
  go_enter Try.func16, Try.ntmps16
  go_wp2_with fail
  refine C.out.mono ?_
  rintro e w1 ⟨ao, cap, rfl, hL1, hb1⟩
  have HL1 := Hid.mk hL1
  have HB1 := Hid.mk hb1
  clear hL1 hb1
  go_wp2
  go_ret2
  exact ⟨ao, cap, rfl, HL1.out, HB1.out⟩
end Go.Proofs.Ytiabnjjdeikefaa
