/- A batch done twice makes the same facts as once. -/
import Derived.Test.YtiabnjjdeikefabSLive
namespace Go.Proofs.Ytiabnjjdeikefab
open Go.RowKit

theorem again_math {F0 : List Tri} {b1 b2 : List Chg} (h1 : apE [[]] 1 b1 = 0) (h0 : F0 = doneT [] b1) (h2 : apE [[], F0] 2 b2 = 0) :
    apA [[]] 1 b1 = [[], F0] ∧ apA [[], F0] 2 b2 = [[], F0, doneT F0 b2] ∧ apE [[], F0, doneT F0 b2] 3 b2 = 0 ∧ apA [[], F0, doneT F0 b2] 3 b2 = [[], F0, doneT F0 b2, doneT F0 b2] := by
  have hr : Rise F0 := by rw [h0]; exact rise_nil.done b1
  have e1 : apA [[]] 1 b1 = [[], F0] := by unfold apA; rw [if_pos h1, h0]; rfl
  have e2 : apA [[], F0] 2 b2 = [[], F0, doneT F0 b2] := by unfold apA; rw [if_pos h2]; rfl
  obtain ⟨hm, _, hf, _⟩ := apE_may h2
  have hf : ¬ 4096 < (doneT F0 b2).length := by have : (doneT F0 b2).length ≤ 4096 := hf; omega
  have ht := doneT_twice hr b2
  have e3 : apE [[], F0, doneT F0 b2] 3 b2 = 0 := by
    unfold apE
    rw [if_neg (by rw [hm]; simp), if_neg (by simp), if_neg (by rw [show lastT [[], F0, doneT F0 b2] = doneT F0 b2 from rfl, ht]; exact hf)]
  refine ⟨e1, e2, e3, ?_⟩
  unfold apA
  rw [if_pos e3, show lastT [[], F0, doneT F0 b2] = doneT F0 b2 from rfl, ht]
  rfl
theorem apE_cases (All : List (List Tri)) (ver : Int) (bt : List Chg) : apE All ver bt = 0 ∨ (apE All ver bt ≠ 0 ∧ apE All ver bt ≤ 70) := by
  unfold apE
  split
  · right; omega
  · split
    · right; omega
    · split
      · right; omega
      · left; rfl

set_option maxHeartbeats 8000000 in
set_option maxRecDepth 100000 in
theorem storeAgain_walk (v1 : Value) (b1 : List Chg) (v2 : Value) (b2 : List Chg) (w : World) (h1 : ChgsA w v1 b1) (h2 : ChgsA w v2 b2) :
    Calls Try.prog 4 #[v1, v2] w fun e w' => e = .returned (.bool true) ∧ Below w.heap.size w w' := by
  obtain ⟨a1, c1, hv1⟩ := h1.1.slice
  obtain ⟨a2, c2, hv2⟩ := h2.1.slice
  subst hv1 hv2
  have H1 := Hid.mk h1
  have H2 := Hid.mk h2
  obtain ⟨n1, hn1⟩ : ∃ n, n = b1.length := ⟨_, rfl⟩
  obtain ⟨n2, hn2⟩ : ∃ n, n = b2.length := ⟨_, rfl⟩
  rw [← hn1] at H1 ⊢
  rw [← hn2] at H2 ⊢
  clear hn1 hn2 h1 h2
  have C0 := Hid.mk (live_new w)
  go_enter Try.func4, Try.ntmps4
  go_wp2_with fail
  refine C0.out.mono ?_
  rintro e w1 ⟨b, rfl, hl1⟩
  have L1 := Hid.mk hl1
  have C1 := Hid.mk (hl1.apply (hl1.chgs H1.out).1 H1.out.len 1 (by decide))
  clear hl1 C0
  rcases apE_cases [[]] 1 b1 with hE | ⟨hE, hE2⟩
  · obtain ⟨F0, hF0⟩ : ∃ F0, F0 = doneT [] b1 := ⟨_, rfl⟩
    have eA : apA [[]] 1 b1 = [[], F0] := by unfold apA; rw [if_pos hE, hF0]; rfl
    rw [hE, eA] at C1
    have HE := Hid.mk hE
    have HF0 := Hid.mk hF0
    clear hE eA hF0
    go_wp2_with fail
    refine C1.out.mono ?_
    rintro e w2 ⟨rfl, hl2, _⟩
    have C2 := Hid.mk (hl2.apply (hl2.chgs H2.out).1 H2.out.len 2 (by simp))
    have L2 := Hid.mk hl2
    clear hl2 C1 L1
    rcases apE_cases [[], F0] 2 b2 with hE2 | ⟨hE2, hE3⟩
    · obtain ⟨_, m2, m3, m4⟩ := again_math HE.out HF0.out hE2
      rw [hE2, m2] at C2
      have M3 := Hid.mk m3
      have M4 := Hid.mk m4
      clear m2 m3 m4 hE2
      obtain ⟨F2, hF2⟩ : ∃ F2, F2 = doneT F0 b2 := ⟨_, rfl⟩
      rw [← hF2] at C2 M3 M4
      clear hF2
      go_wp2_with fail
      refine C2.out.mono ?_
      rintro e w3 ⟨rfl, hl3, _⟩
      have C3 := Hid.mk (hl3.facts (by simp) 2)
      rw [show (verO [[], F0, F2] 2).getD [] = F2 from rfl, show maE [[], F0, F2] 2 = 0 from rfl] at C3
      clear hl3 C2 L2
      go_wp2_with fail
      refine C3.out.mono ?_
      rintro e w4 ⟨a4, k4, rfl, ht4, hl4, _⟩
      have C4 := Hid.mk (hl4.apply (hl4.chgs H2.out).1 H2.out.len 3 (by simp))
      rw [M3.out, M4.out] at C4
      have T4 := Hid.mk ht4
      clear ht4 hl4 C3
      go_wp2_with fail
      refine C4.out.mono ?_
      rintro e w5 ⟨rfl, hl5, hf5⟩
      have T5 := Hid.mk (T4.out.fr hf5)
      have C5 := Hid.mk (hl5.facts (by simp) 3)
      rw [show (verO [[], F0, F2, F2] 3).getD [] = F2 from rfl, show maE [[], F0, F2, F2] 3 = 0 from rfl] at C5
      have hFl : F2.length ≤ 4096 := by
        obtain ⟨ts, hh⟩ := hl5.hist
        exact hh.few F2 (by simp)
      clear hl5 hf5 C4 T4
      go_wp2_with fail
      refine C5.out.mono ?_
      rintro e w6 ⟨a6, k6, rfl, ht6, hl6, hb6⟩
      have T6 := Hid.mk (T5.out.plus hb6)
      have C6 := Hid.mk (same_any T6.out ht6 (by omega))
      rw [decide_eq_true rfl] at C6
      have L6 := Hid.mk hl6
      clear ht6 hl6 hb6 C5 T5
      obtain ⟨m, hm⟩ : ∃ m, m = F2.length := ⟨_, rfl⟩
      rw [← hm] at C6 ⊢
      clear hm
      go_wp2_with fail
      refine C6.out.mono ?_
      rintro e w7 ⟨rfl, hb7⟩
      have C7 := Hid.mk ((L6.out.below hb7).awake)
      clear hb7 C6
      go_wp2_with fail
      refine C7.out.mono ?_
      rintro e w8 ⟨rfl, hb8⟩
      go_wp2
      go_ret
      exact ⟨rfl, hb8⟩
    · obtain ⟨er, her⟩ : ∃ er, er = apE [[], F0] 2 b2 := ⟨_, rfl⟩
      rw [← her] at C2 hE2 hE3
      have hneI : ((er : Int) != 0) = true := by simp; omega
      clear her
      go_wp2_with fail
      refine C2.out.mono ?_
      rintro e w3 ⟨rfl, hl3, _⟩
      have C3 := Hid.mk hl3.awake
      clear hl3 C2
      go_wp2_with fail
      refine C3.out.mono ?_
      rintro e w4 ⟨rfl, hb4⟩
      go_wp2
      go_ret
      exact ⟨rfl, hb4⟩
  · obtain ⟨er, her⟩ : ∃ er, er = apE [[]] 1 b1 := ⟨_, rfl⟩
    rw [← her] at C1 hE hE2
    have hneI : ((er : Int) != 0) = true := by simp; omega
    clear her
    go_wp2_with fail
    refine C1.out.mono ?_
    rintro e w3 ⟨rfl, hl3, _⟩
    have C3 := Hid.mk hl3.awake
    clear hl3 C1
    go_wp2_with fail
    refine C3.out.mono ?_
    rintro e w4 ⟨rfl, hb4⟩
    go_wp2
    go_ret
    exact ⟨rfl, hb4⟩
end Go.Proofs.Ytiabnjjdeikefab
