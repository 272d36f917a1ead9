/- New, Facts, Match of the document. -/
import Derived.Test.YtiabnjjdeikefaaSRef4
namespace Go.Proofs.Ytiabnjjdeikefaa
open Go.RowKit

abbrev csT (p : Value × List Tri) : List Value := [p.1]
theorem csT_len (p : Value × List Tri) : (csT p).length = 1 := rfl
/-- A store of the document: facts, version by version. -/
structure RAll (S : Nat → Prop) (w : World) (v : Value) (ps : List (Value × List Tri)) : Prop where
  sl : SlC csT 1 S w v ps
  lists : ∀ p ∈ ps, SlC cs3 3 S w p.1 p.2
section
variable {S T : Nat → Prop} {w w' : World} {v : Value} {ps : List (Value × List Tri)}
theorem RAll.below (h : RAll S w v ps) (hb : Below w.heap.size w w') : RAll S w' v ps := ⟨h.sl.below hb, fun p hp => (h.lists p hp).below hb⟩
theorem RAll.fr (h : RAll S w v ps) (hf : Fr S w w') : RAll S w' v ps := ⟨h.sl.fr hf, fun p hp => (h.lists p hp).fr hf⟩
theorem RAll.plus (h : RAll S w v ps) (hb : Below w.heap.size w w') : RAll (Plus S w.heap.size w'.heap.size) w' v ps := ⟨h.sl.plus hb, fun p hp => (h.lists p hp).plus hb⟩
theorem RAll.sub (h : RAll S w v ps) (hs : ∀ b, S b → b < w.heap.size → T b) : RAll T w v ps := ⟨h.sl.sub hs, fun p hp => (h.lists p hp).sub hs⟩
end

set_option maxHeartbeats 2000000 in
set_option maxRecDepth 100000 in
theorem rNew_any (w : World) : Calls Try.prog 10 #[] w fun e w' => ∃ v, e = .returned (.agg #[v]) ∧ RAll (fun g => w.heap.size ≤ g ∧ g < w'.heap.size) w' v [(.slice none 0 0, [])] ∧ Below w.heap.size w w' := by
  go_enter Try.func10, Try.ntmps10
  go_wp2
  have b1 : Below w.heap.size w (w.alloc (.cells #[.slice (some ⟨w.heap.size + 1, 0, none⟩) 1 1] 30)) := (Below.refl _ _).alloc (Nat.le_refl _) _
  refine bodyPost_ret (v := .agg #[.slice (some ⟨w.heap.size + 1, 0, none⟩) 1 1]) ?_ rfl ⟨_, rfl, ⟨⟨?_, .inr ⟨w.heap.size + 1, 0, 1, rfl, by simp⟩⟩, ?_⟩, b1.alloc b1.size _⟩
  · simp [results, Try.results10, go_sem]
  · have h2 := sl_new (enc := csT) (k := 1) (fun _ => rfl) (w.alloc (.cells #[.slice (some ⟨w.heap.size + 1, 0, none⟩) 1 1] 30)) [(.slice none 0 0, [])] 34 1 1 rfl
    have h3 : (w.alloc (.cells #[.slice (some ⟨w.heap.size + 1, 0, none⟩) 1 1] 30)).heap.size = w.heap.size + 1 := by simp
    rw [h3] at h2
    refine ⟨_, 1, rfl, .inr ⟨w.heap.size + 1, 0, rfl, ⟨by omega, by simp⟩, by simp, ?_⟩⟩
    obtain ⟨ao, cap, e, h4⟩ := h2
    injection e with e1 e2 e3
    rcases h4 with h4 | ⟨g, off, e5, _, _, h6⟩
    · cases h4
    · rw [← e1] at e5
      have := Option.some.inj e5
      injection this with a b _
      subst a b
      exact h6
  · intro p hp
    rw [List.mem_singleton] at hp
    subst hp
    exact SlC.nil _ _

set_option maxHeartbeats 2000000 in
set_option maxRecDepth 100000 in
theorem rFacts_any {S : Nat → Prop} {w : World} {v : Value} {ps : List (Value × List Tri)} (h : RAll S w v ps) (ver : Int) :
    Calls Try.prog 17 #[.agg #[v], .int .i64 ver] w fun e w' => ∃ x, e = .returned (.tuple #[x, .int .i64 (maE (ps.map (·.2)) ver : Int)]) ∧ SlC cs3 3 S w' x ((verO (ps.map (·.2)) ver).getD []) ∧ Below w.heap.size w w' := by
  obtain ⟨a1, c1, hv1⟩ := h.sl.sl.slice
  subst hv1
  have H1 := Hid.mk h
  obtain ⟨n, hn⟩ : ∃ n, n = ps.length := ⟨_, rfl⟩
  rw [← hn] at H1 ⊢
  have HN := Hid.mk hn
  clear hn h
  have HB : Hid (∀ o, Below w.heap.size w (w.alloc o)) := Hid.mk (fun o => (Below.refl _ _).alloc (Nat.le_refl _) _)
  have hvo : verO (ps.map (·.2)) ver = if ver < 0 then none else (ps[ver.toNat]?).map (·.2) := by unfold verO; rw [List.getElem?_map]
  by_cases h0 : ver < 0
  · have e1 : verO (ps.map (·.2)) ver = none := by rw [hvo, if_pos h0]
    rw [show maE (ps.map (·.2)) ver = 71 by unfold maE; rw [e1]; rfl, show (verO (ps.map (·.2)) ver).getD [] = [] by rw [e1]; rfl]
    clear hvo e1
    go_enter Try.func17, Try.ntmps17
    go_wp2
    go_ret2
    exact ⟨_, rfl, SlC.nil _ _, HB.out _⟩
  · obtain ⟨u, hu⟩ : ∃ u : Nat, ver = (u : Int) := ⟨ver.toNat, by omega⟩
    subst hu
    have h0I : ¬ (u : Int) < 0 := by omega
    by_cases h1 : u < n
    · have h1I : (u : Int) < (n : Int) := by omega
      obtain ⟨p, hp⟩ : ∃ p, ps[u]? = some p := ⟨_, List.getElem?_eq_getElem (by rw [← HN.out]; exact h1)⟩
      have e1 : verO (ps.map (·.2)) (u : Int) = some p.2 := by rw [hvo, if_neg h0]; simp [hp]
      rw [show maE (ps.map (·.2)) (u : Int) = 0 by unfold maE; rw [e1]; rfl, show (verO (ps.map (·.2)) (u : Int)).getD [] = p.2 by rw [e1]; rfl]
      obtain ⟨g1, o1, hao, _, hgb, hc1⟩ := H1.out.sl.sl.get hp
      subst hao
      have p0 := hc1 0 _ rfl
      rw [show o1 + u * 1 + 0 = o1 + u by omega] at p0
      have q0 : (w.alloc (.cells #[.slice (some ⟨g1, o1, none⟩) n c1] 30)).cell? ⟨g1, o1 + u, none⟩ = some p.1 := ((HB.out _).cell (p := ⟨g1, o1 + u, none⟩) hgb).trans p0
      have HP := Hid.mk ((H1.out.lists p (List.mem_of_getElem? hp)).below (HB.out (.cells #[.slice (some ⟨g1, o1, none⟩) n c1] 30)))
      clear hvo e1 hp hc1 h0
      go_enter Try.func17, Try.ntmps17
      go_wp2
      go_ret2
      exact ⟨_, rfl, HP.out, HB.out _⟩
    · have h1I : ¬ (u : Int) < (n : Int) := by omega
      have e1 : verO (ps.map (·.2)) (u : Int) = none := by rw [hvo, if_neg h0]; simp; rw [← HN.out]; omega
      rw [show maE (ps.map (·.2)) (u : Int) = 71 by unfold maE; rw [e1]; rfl, show (verO (ps.map (·.2)) (u : Int)).getD [] = [] by rw [e1]; rfl]
      clear hvo e1 h0
      go_enter Try.func17, Try.ntmps17
      go_wp2
      go_ret2
      exact ⟨_, rfl, SlC.nil _ _, HB.out _⟩
end Go.Proofs.Ytiabnjjdeikefaa
