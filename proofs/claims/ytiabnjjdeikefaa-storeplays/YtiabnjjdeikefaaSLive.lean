/- A store that a statement has made goes on, beside lists that it keeps. -/
import Derived.Test.YtiabnjjdeikefaaSSame
namespace Go.Proofs.Ytiabnjjdeikefaa
open Go.RowKit

theorem SlS.plus {α : Type} {enc : α → List Value} {k : Nat} {S : Nat → Prop} {w w' : World} {v : Value} {L : List α} (h : SlS enc k S w v L) (hb : Below w.heap.size w w') : SlS enc k (Plus S w.heap.size w'.heap.size) w' v L :=
  h.keep hb.size (fun b hs hl => ⟨.inl hs, hb.block b hl⟩)
theorem LTri.plus {w w' : World} {S : Nat → Prop} {v : Value} {L : List Tri} (h : LTri w.heap.size w' v L) : TrisS (Plus S w.heap.size w'.heap.size) w' v L := h.tris.sub (fun _ hk _ => .inr hk)

/-- The store at b, made since w0, has the versions All; S names what it does not own: all that lay ahead is in it. -/
structure Live (w0 w : World) (S : Nat → Prop) (b : Nat) (All : List (List Tri)) : Prop where
  low : Low S w
  sub : ∀ k, k < w0.heap.size → S k
  q : Q S w b All
  bel : Below w0.heap.size w0 w
section
variable {w0 w w' : World} {S : Nat → Prop} {b : Nat} {All : List (List Tri)}
theorem Live.plus (h : Live w0 w S b All) (hb : Below w.heap.size w w') : Live w0 w' (Plus S w.heap.size w'.heap.size) b All :=
  ⟨h.low.plus hb.size, fun k hk => .inl (h.sub k hk), h.q.plus hb, h.bel.trans (hb.mono h.bel.size)⟩
theorem Live.below (h : Live w0 w S b All) (hb : Below w.heap.size w w') : Live w0 w' S b All :=
  ⟨h.low.size hb.size, h.sub, h.q.below hb, h.bel.trans (hb.mono h.bel.size)⟩
theorem live_new (w : World) : Calls Try.prog 9 #[] w fun e w' => ∃ b, e = .returned (.pointer (some ⟨b, 0, none⟩)) ∧ Live w w' (fun k => k < w.heap.size) b [[]] :=
  (new_any (fun k => k < w.heap.size) w (fun _ h => h)).mono (fun _ _ ⟨b, he, hq, hb⟩ => ⟨b, he, fun _ hk => Nat.lt_of_lt_of_le hk hb.size, fun _ h => h, hq, hb⟩)
theorem live_new_in (h : Live w0 w S b All) : Calls Try.prog 9 #[] w fun e w' => ∃ b', e = .returned (.pointer (some ⟨b', 0, none⟩)) ∧ Live w w' (fun k => k < w.heap.size) b' [[]] ∧ Live w0 w' (Plus S w.heap.size w'.heap.size) b All :=
  (live_new w).mono (fun _ _ ⟨b', he, hl⟩ => ⟨b', he, hl, h.plus hl.bel⟩)
theorem Live.apply (h : Live w0 w S b All) {T : Nat → Prop} {v : Value} {bt : List Chg} (hv : ChgsS T w v bt) (hvl : bt.length ≤ 9223372036854775807) (ver : Int) (hAl : All.length ≤ 1000000) :
    Calls Try.prog 15 #[.pointer (some ⟨b, 0, none⟩), .int .i64 ver, v] w fun e w' => e = .returned (.int .i64 (apE All ver bt : Int)) ∧ Live w0 w' S b (apA All ver bt) ∧ Fr S w w' :=
  (apply_any h.q h.low hv hvl ver hAl).mono (fun _ _ ⟨he, hq, hf⟩ => ⟨he, ⟨h.low.fr hf, h.sub, hq, h.bel.trans (hf.below h.sub)⟩, hf⟩)
theorem Live.facts (h : Live w0 w S b All) (hAl : All.length ≤ 1000000) (ver : Int) :
    Calls Try.prog 16 #[.pointer (some ⟨b, 0, none⟩), .int .i64 ver] w fun e w' => ∃ ao cap, e = .returned (.tuple #[.slice ao ((verO All ver).getD []).length cap, .int .i64 (maE All ver : Int)]) ∧ TrisS (Plus S w.heap.size w'.heap.size) w' (.slice ao ((verO All ver).getD []).length cap) ((verO All ver).getD []) ∧ Live w0 w' (Plus S w.heap.size w'.heap.size) b All ∧ Below w.heap.size w w' :=
  (facts_any h.q hAl ver).mono (fun _ _ ⟨ao, cap, he, hl, hb⟩ => ⟨ao, cap, he, hl.plus, h.plus hb, hb⟩)
theorem Live.match (h : Live w0 w S b All) (hAl : All.length ≤ 1000000) (ver : Int) (like : Tri) :
    Calls Try.prog 18 #[.pointer (some ⟨b, 0, none⟩), .int .i64 ver, encT like] w fun e w' => ∃ ao cap, e = .returned (.tuple #[.slice ao (maL All ver like).length cap, .int .i64 (maE All ver : Int)]) ∧ TrisS (Plus S w.heap.size w'.heap.size) w' (.slice ao (maL All ver like).length cap) (maL All ver like) ∧ Live w0 w' (Plus S w.heap.size w'.heap.size) b All ∧ Below w.heap.size w w' :=
  (match_any h.q hAl ver like).mono (fun _ _ ⟨ao, cap, he, hl, hb⟩ => ⟨ao, cap, he, hl.plus, h.plus hb, hb⟩)
theorem Live.awake (h : Live w0 w S b All) : Calls Try.prog 24 #[] w fun e w' => e = .returned (.bool true) ∧ Below w0.heap.size w0 w' :=
  (awake_any w).mono (fun _ _ ⟨he, hb⟩ => ⟨he, h.bel.trans (hb.mono h.bel.size)⟩)
theorem Live.chgs (h : Live w0 w S b All) {v : Value} {bt : List Chg} (hv : ChgsA w0 v bt) : ChgsA w v bt := hv.below h.bel
theorem Live.hist (h : Live w0 w S b All) : ∃ ts, Hist All ts := h.q.hist
end

theorem apE_may {All : List (List Tri)} {ver : Int} {bt : List Chg} (h : apE All ver bt = 0) : mayT bt = true ∧ ver = (All.length : Int) ∧ (doneT (lastT All) bt).length ≤ 4096 ∧ apA All ver bt = All ++ [doneT (lastT All) bt] := by
  have h0 := h
  unfold apE at h
  split at h
  · cases h
  · rename_i hm
    split at h
    · cases h
    · rename_i hv
      split at h
      · cases h
      · rename_i hf
        exact ⟨by simpa using hm, by simpa using hv, by omega, by unfold apA; rw [if_pos h0]⟩
theorem apE_not {All : List (List Tri)} {ver : Int} {bt : List Chg} (h : apE All ver bt ≠ 0) : apA All ver bt = All ∧ apE All ver bt ≤ 70 := by
  refine ⟨by unfold apA; rw [if_neg h], ?_⟩
  unfold apE
  split
  · omega
  · split
    · omega
    · split <;> omega

theorem apE_cases0 (All : List (List Tri)) (ver : Int) (bt : List Chg) : apE All ver bt = 0 ∨ apE All ver bt ≠ 0 := by omega
/-- Done twice is done once. -/
theorem doneT_indep (l l' : List Tri) (t : Tri) : ∀ (n : Nat) (bt : List Chg), bt.length = n → (∃ c ∈ bt, c.2 = t) → (t ∈ doneT l bt ↔ t ∈ doneT l' bt)
  | 0, bt, hn, h => by
    have : bt = [] := List.length_eq_zero_iff.1 hn
    subst this
    obtain ⟨c, hc, _⟩ := h
    simp at hc
  | n + 1, bt, hn, h => by
    rcases List.eq_nil_or_concat bt with rfl | ⟨q, c, rfl⟩
    · simp at hn
    · rw [List.concat_eq_append] at hn h ⊢
      rw [doneT_snoc, doneT_snoc]
      by_cases e : t = c.2
      · subst e
        rw [mem_stepT_same, mem_stepT_same]
      · rw [mem_stepT_other e, mem_stepT_other e]
        refine doneT_indep l l' t n q (by simpa using hn) ?_
        obtain ⟨x, hx, e2⟩ := h
        rcases List.mem_append.1 hx with hx | hx
        · exact ⟨x, hx, e2⟩
        · rw [List.mem_singleton] at hx
          subst hx
          exact absurd e2.symm e
theorem doneT_twice {l : List Tri} (h : Rise l) (bt : List Chg) : doneT (doneT l bt) bt = doneT l bt := by
  refine rise_ext ((h.done bt).done bt) (h.done bt) (fun t => ?_)
  by_cases e : ∃ c ∈ bt, c.2 = t
  · exact doneT_indep _ _ t _ bt rfl e
  · exact doneT_same bt (fun c hc e2 => e ⟨c, hc, e2⟩)
end Go.Proofs.Ytiabnjjdeikefaa
