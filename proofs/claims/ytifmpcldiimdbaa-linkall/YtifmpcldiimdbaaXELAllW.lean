/- LinkAll: behind whatever script of up to 150 acts on a line of two ends, once all that an end sends again comes, in whatever order, all that was put has come and nothing waits: for every epochs, script and turn. -/
import Derived.Test.YtifmpcldiimdbaaXELOrd
namespace Go.Proofs.Ytifmpcldiimdbaa
open Go.RowKit Go.Shelf

section
variable {w0 : World} {T : Nat → Prop} {W W' : World} {x : Nat} {V : LV} {e : Nat → En} {U U' : Nat → List (List UInt8)} {n c F : Nat → Nat} {Kn : Prop} {B k : Nat}
theorem LnB.ext (h : LnB w0 T W x V e U n c) (hU : ∀ k, k < 2 → U' k = U k) : LnB w0 T W x V e U' n c :=
  { h with tu := fun k hk => by rw [hU k hk]; exact h.tu k hk }
theorem LnI.lost (h : LnI e U n c) (h0 : U' 0 = []) (h1 : U' 1 = []) : LnI e U' n c :=
  ⟨by rw [h1]; exact h.a.sub (by simp), by rw [h0]; exact h.b.sub (by simp)⟩
/-- What is left while what is under way is dropped. -/
def empU (U : Nat → List (List UInt8)) (k : Nat) : Nat → List (List UInt8) := fun j => if j < k then [] else U j
theorem empU_step (U : Nat → List (List UInt8)) (k : Nat) : upd (empU U k) k [] = empU U (k + 1) := by
  funext j
  unfold upd empU
  by_cases h : j = k
  · rw [if_pos h, if_pos (by omega)]
  · rw [if_neg h]
    by_cases h2 : j < k
    · rw [if_pos h2, if_pos (by omega)]
    · rw [if_neg h2, if_neg (by omega)]
/-- What is under way while the ends tick. -/
def tckU (e : Nat → En) (k : Nat) : Nat → List (List UInt8) := fun j => if 1 - j < k then tickE (e (1 - j)) else []
theorem tckU_step (hk : k < 2) : ∀ j, j < 2 → tckU e (k + 1) j = upd (tckU e k) (1 - k) (sendU (tckU e k (1 - k)) (tickE (e k))) j := by
  have h0 : tckU e k (1 - k) = [] := by unfold tckU; rw [if_neg (by omega)]
  have kk : 1 - (1 - k) = k := by omega
  have hs : sendU [] (tickE (e k)) = tickE (e k) := by simp [sendU]
  rw [h0, hs]
  refine both hk ?_ ?_
  · rw [upd_ne (ne_k2 hk)]
    unfold tckU
    by_cases h : 1 - k < k
    · rw [if_pos h, if_pos (by omega)]
    · rw [if_neg h, if_neg (by omega)]
  · rw [upd_same]
    unfold tckU
    rw [kk, if_pos (by omega)]
theorem Calm.comE {r : Ending} (h : Calm e U n c F Kn B) (hB : B ≤ 256) (hk : k < 2) (hc : ComE w0 T x V e U n c k false r W') :
    r = .returned (.tuple #[]) ∧ ∃ T' V' e' U' c' B', LnB w0 T' W' x V' e' U' n c' ∧ Calm e' U' n c' F Kn B' ∧ B' ≤ B ∧ (U k ≠ [] → B' + 1 ≤ B) ∧ (U k = [] → U' = U) := by
  obtain ⟨hr, ⟨h0, hl⟩ | ⟨i, s, f', ns, ps, T', V', hs, ht, hl, -, hT⟩⟩ := hc
  · exact ⟨hr, T, V, e, U, c, B, hl, h, Nat.le_refl _, fun hn => absurd h0 hn, fun _ => rfl⟩
  · obtain ⟨h1, hcm⟩ := h.come hB hk hs ht
    exact ⟨hr, T', V', _, _, _, B - 1, hl, hcm, by omega, fun _ => by omega, fun h0 => by rw [h0] at hs; simp at hs⟩
theorem Calm.lens (h : Calm e U n c F Kn B) (hB : B ≤ 256) : ∀ k, k < 2 → (U k).length ≤ 256 := fun k hk => by
  have := h.wgk hk
  have := wgU_len (U k)
  omega
end
end Go.Proofs.Ytifmpcldiimdbaa
