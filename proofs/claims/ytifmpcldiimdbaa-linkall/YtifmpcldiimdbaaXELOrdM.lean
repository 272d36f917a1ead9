/- LinkAll: behind whatever script of up to 150 acts on a line of two ends, once all that an end sends again comes, in whatever order, all that was put has come and nothing waits: for every epochs, script and turn. -/
import Derived.Test.YtifmpcldiimdbaaXELCut
namespace Go.Proofs.Ytifmpcldiimdbaa
open Go.RowKit

structure LnI (e : Nat → En) (U : Nat → List (List UInt8)) (n c : Nat → Nat) : Prop where
  a : Half (e 0) (e 1) (n 0) (c 1) (U 1)
  b : Half (e 1) (e 0) (n 1) (c 0) (U 0)
section
variable {e : Nat → En} {U : Nat → List (List UInt8)} {n c : Nat → Nat} {k : Nat}
theorem LnI.at_k (h : LnI e U n c) (hk : k < 2) : Half (e k) (e (1 - k)) (n k) (c (1 - k)) (U (1 - k)) ∧ Half (e (1 - k)) (e k) (n (1 - k)) (c k) (U k) := by
  match k, hk with
  | 0, _ => exact ⟨h.a, h.b⟩
  | 1, _ => exact ⟨h.b, h.a⟩
theorem LnI.of_k (hk : k < 2) (h1 : Half (e k) (e (1 - k)) (n k) (c (1 - k)) (U (1 - k))) (h2 : Half (e (1 - k)) (e k) (n (1 - k)) (c k) (U k)) : LnI e U n c := by
  match k, hk with
  | 0, _ => exact ⟨h1, h2⟩
  | 1, _ => exact ⟨h2, h1⟩
theorem ne_k (hk : k < 2) : 1 - k ≠ k := by omega
theorem ne_k2 (hk : k < 2) : k ≠ 1 - k := by omega
theorem LnI.wt (h : LnI e U n c) (hk : k < 2) : (e k).wt ≤ 1001 := by
  have h2 := (h.at_k hk).2
  have := h2.wt
  have := h2.cn
  have := h2.n2
  omega
theorem mem_sendU {u l : List (List UInt8)} {p : List UInt8} (h : p ∈ sendU u l) : p ∈ u ++ l := by
  unfold sendU at h
  split at h
  · exact h
  · exact List.mem_append.2 (.inl h)
theorem sendU_len {u l : List (List UInt8)} : (sendU u l).length ≤ u.length + l.length := by
  unfold sendU
  split
  · simp
  · omega
/-- An end puts. -/
theorem LnI.put (h : LnI e U n c) (hk : k < 2) (hn : n k < 1000) : (putE (e k) (nk 5 (n k))).2.2 = 0 ∧ LnI (upd e k (putE (e k) (nk 5 (n k))).1) (upd U (1 - k) (sendU (U (1 - k)) (putE (e k) (nk 5 (n k))).2.1)) (upd n k (n k + 1)) c := by
  obtain ⟨h1, h2⟩ := h.at_k hk
  obtain ⟨ps, e1, h3⟩ := half_put h1 hn (h.wt hk)
  rw [e1]
  refine ⟨rfl, LnI.of_k hk ?_ ?_⟩
  · rw [upd_same, upd_ne (ne_k hk), upd_same, upd_same]
    exact h3.sub (fun p hp => mem_sendU hp)
  · rw [upd_same, upd_ne (ne_k hk), upd_ne (ne_k hk), upd_ne (ne_k2 hk)]
    exact half_put2 h2 _
/-- An end ticks. -/
theorem LnI.tick (h : LnI e U n c) (hk : k < 2) : LnI e (upd U (1 - k) (sendU (U (1 - k)) (tickE (e k)))) n c := by
  obtain ⟨h1, h2⟩ := h.at_k hk
  refine LnI.of_k hk ?_ ?_
  · rw [upd_same]
    exact (h1.add (und_tick h1 (h.wt hk))).sub (fun p hp => mem_sendU hp)
  · rw [upd_ne (ne_k2 hk)]
    exact h2
/-- Something is lost. -/
theorem LnI.lose (h : LnI e U n c) (hk : k < 2) {u : List (List UInt8)} (hu : ∀ p ∈ u, p ∈ U k) : LnI e (upd U k u) n c := by
  obtain ⟨h1, h2⟩ := h.at_k hk
  refine LnI.of_k hk ?_ ?_
  · rw [upd_ne (ne_k hk)]
    exact h1
  · rw [upd_same]
    exact h2.sub hu
/-- A packet comes. -/
theorem LnI.come (h : LnI e U n c) (hk : k < 2) {p : List UInt8} (hp : p ∈ U k) : ∃ f' ns ps, takeE (e k) p = (f', ns, ps, false) ∧ (ns = [] ∨ ns = [nk 5 (c k)]) ∧ ∀ u, (∀ q ∈ u, q ∈ U k) → LnI (upd e k f') (upd (upd U k u) (1 - k) (sendU (U (1 - k)) ps)) n (upd c k (c k + ns.length)) := by
  obtain ⟨h1, h2⟩ := h.at_k hk
  obtain ⟨f', ns, ps, e1, h3, h4, -⟩ := half_take h2 h1 hp
  refine ⟨f', ns, ps, e1, h3.elim (fun h => .inl h.1) (fun h => .inr h.1), fun u hu => LnI.of_k hk ?_ ?_⟩
  · rw [upd_same, upd_ne (ne_k hk), upd_ne (ne_k hk), upd_same]
    exact h4.sub (fun p hp => mem_sendU hp)
  · rw [upd_same, upd_ne (ne_k hk), upd_same, upd_ne (ne_k2 hk), upd_same]
    rcases h3 with ⟨rfl, h3⟩ | ⟨rfl, h3⟩
    · exact h3.sub hu
    · exact h3.sub hu
end
end Go.Proofs.Ytifmpcldiimdbaa
